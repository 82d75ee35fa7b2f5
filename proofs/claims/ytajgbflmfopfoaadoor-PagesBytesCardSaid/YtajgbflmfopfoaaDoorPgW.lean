/-
  A page as bytes.
-/
import Derived.Test.YtajgbflmfopfoaaDoorPgV
import Derived.Test.YtajgbflmfopfoaaDoorHeldF
import Derived.Test.YtajgbflmfopfoaaDoorPgC
import Derived.Deep.RegionWith
import Derived.Great.Ranges
import Derived.Deep.RegionHeld3
namespace Go.Proofs.YtajgbflmfopfoaaDoor
open Go.RowKit Go Go.Shelf
set_option linter.unusedVariables false
set_option linter.unusedSimpArgs false
theorem run_loadVar_cell {P : Program} (w : World) (b off : Nat) (ty : TypeId) (d : TypeDesc) (v : Value) (hu : P.underlying ty = some d) (hd : d.isRow = false) (hc : w.cell? ⟨b, off, none⟩ = some v) : (loadVar ty ⟨b, off, none⟩).run P w = .ok v w := by
  have hagg : (isAgg ty).run P w = .ok false w := by
    unfold isAgg
    rw [Sem.run_bind, run_underlying hu w]
    cases d <;> simp_all [TypeDesc.isRow]
  unfold loadVar
  rw [Sem.run_bind, hagg]
  simp [go_sem, hc]
theorem yields_cellP {P : Program} {ops : Array Oper} {S : World → Prop} {o : Oper} {a : Act} (hw : Region.wanted o (yielded ops a.tmps) = true) (ty : TypeId) (x : Operand) (ho : o.op = .load ty x) (b off : Nat) (hx : a.eval x = .pointer (some ⟨b, off, none⟩)) (v : Value) (d : TypeDesc)
    (hS : ∀ w, S w → w.cell? ⟨b, off, none⟩ = some v) (hu : P.underlying ty = some d) (hd : d.isRow = false) : YieldsIf P ops S o v a :=
  .inl ⟨hw, fun w h => by
    unfold execOp
    simp only [ho, hx, Instr.loadAt, Instr.sureAddr, Sem.run_bind, Sem.run_pure, Result.andThen_ok, run_loadVar_cell w b off ty d v hu hd (hS w h)]⟩
theorem Own.base {w : World} {B B' : Nat} {v : Value} {l : List Nat} (h : Own w B v l) (hB : B' ≤ B) : Own w B' v l := by
  obtain ⟨h1, h2⟩ := h
  refine ⟨h1, ?_⟩
  rcases h2 with h2 | ⟨g, cap, cur, hv, hg, hr⟩
  · exact .inl h2
  · exact .inr ⟨g, cap, cur, hv, Nat.le_trans hB hg, hr⟩
/-- five numbers as bytes -/
def byL (a0 a1 a2 a3 a4 : Nat) : List Nat := putL 1 a0 ++ (putL 1 a1 ++ (putL 2 a2 ++ (putL 4 a3 ++ putL 8 a4)))
theorem putL_length (n v : Nat) : (putL n v).length = n := by simp [putL]
theorem byL_len (a0 a1 a2 a3 a4 : Nat) : (byL a0 a1 a2 a3 a4).length = 16 := by simp [byL, putL_length]
theorem rowsW5 {w : World} {l0 l1 l2 l3 l4 : List Nat} {A0 A1 A2 A3 A4 : Option Addr} {n0 n1 n2 n3 n4 c0 c1 c2 c3 c4 : Nat} {t : TypeId}
    (h0 : BS w w.heap.size A0 n0 c0 l0) (h1 : BS w w.heap.size A1 n1 c1 l1) (h2 : BS w w.heap.size A2 n2 c2 l2) (h3 : BS w w.heap.size A3 n3 c3 l3) (h4 : BS w w.heap.size A4 n4 c4 l4)
    (k0 : 0 < n0 ∧ n0 ≤ 100) (k1 : 0 < n1 ∧ n1 ≤ 100) (k2 : 0 < n2 ∧ n2 ≤ 100) (k3 : 0 < n3 ∧ n3 ≤ 100) (k4 : 0 < n4 ∧ n4 ≤ 100) :
    RowsAt (w.alloc (.cells #[.slice A0 n0 c0, .slice A1 n1 c1, .slice A2 n2 c2, .slice A3 n3 c3, .slice A4 n4 c4] t)) w.heap.size [l0, l1, l2, l3, l4] := by
  obtain rfl := h0.len
  obtain rfl := h1.len
  obtain rfl := h2.len
  obtain rfl := h3.len
  obtain rfl := h4.len
  have hh := heap_alloc_new w (.cells #[.slice A0 l0.length c0, .slice A1 l1.length c1, .slice A2 l2.length c2, .slice A3 l3.length c3, .slice A4 l4.length c4] t)
  have hb := bel_alloc w (.cells #[.slice A0 l0.length c0, .slice A1 l1.length c1, .slice A2 l2.length c2, .slice A3 l3.length c3, .slice A4 l4.length c4] t)
  refine ⟨by simp, fun k hk => ?_⟩
  have hk5 : k < 5 := hk
  rcases (by omega : k = 0 ∨ k = 1 ∨ k = 2 ∨ k = 3 ∨ k = 4) with rfl | rfl | rfl | rfl | rfl
  · exact ⟨k0.1, k0.2, A0, c0, blk_cell hh 0, (h0.below hb).more hb.size⟩
  · exact ⟨k1.1, k1.2, A1, c1, blk_cell hh 1, (h1.below hb).more hb.size⟩
  · exact ⟨k2.1, k2.2, A2, c2, blk_cell hh 2, (h2.below hb).more hb.size⟩
  · exact ⟨k3.1, k3.2, A3, c3, blk_cell hh 3, (h3.below hb).more hb.size⟩
  · exact ⟨k4.1, k4.2, A4, c4, blk_cell hh 4, (h4.below hb).more hb.size⟩
theorem yields_conv {P : Program} {ops : Array Oper} {S : World → Prop} {o : Oper} {a : Act} (hw : Region.wanted o (yielded ops a.tmps) = true) (t u : TypeId) (x : Operand) (ho : o.op = .convert t u x) (v : Value) (hx : a.eval x = v) (v' : Value)
    (hS : ∀ w, (convert t u v).run P w = .ok v' w) : YieldsIf P ops S o v' a :=
  .inl ⟨hw, fun w h => by
    unfold execOp
    simp only [ho, hx, Sem.run_bind, Sem.run_pure, Result.andThen_ok, hS w]⟩
set_option maxHeartbeats 2000000 in
theorem pbytes_any (a0 a1 a2 a3 a4 : Nat) (h0 : a0 < 4294967296) (h1 : a1 < 4294967296) (h2 : a2 < 4294967296) (h3 : a3 < 4294967296) (h4 : a4 < 18446744073709551616) (w : World) :
    Calls Tryd.prog 34 #[.agg #[.int .i64 (a0 : Int), .int .i64 (a1 : Int), .int .i64 (a2 : Int), .int .i64 (a3 : Int), .int .u64 (a4 : Int)]] w (CcTo w (byL a0 a1 a2 a3 a4)) := by
  have HK : Hid (∀ W, Below (w.alloc (.cells #[.int .i64 (a0 : Int), .int .i64 (a1 : Int), .int .i64 (a2 : Int), .int .i64 (a3 : Int), .int .u64 (a4 : Int)] OT)).heap.size (w.alloc (.cells #[.int .i64 (a0 : Int), .int .i64 (a1 : Int), .int .i64 (a2 : Int), .int .i64 (a3 : Int), .int .u64 (a4 : Int)] OT)) W → (fun w' => w'.heap[w.heap.size]? = some (.cells #[.int .i64 (a0 : Int), .int .i64 (a1 : Int), .int .i64 (a2 : Int), .int .i64 (a3 : Int), .int .u64 (a4 : Int)] OT (0, 0)) ∧ Below w.heap.size w w' ∧ Below (w.alloc (.cells #[.int .i64 (a0 : Int), .int .i64 (a1 : Int), .int .i64 (a2 : Int), .int .i64 (a3 : Int), .int .u64 (a4 : Int)] OT)).heap.size (w.alloc (.cells #[.int .i64 (a0 : Int), .int .i64 (a1 : Int), .int .i64 (a2 : Int), .int .i64 (a3 : Int), .int .u64 (a4 : Int)] OT)) w') W) := Lib.hid (fun W hW => by
    obtain ⟨q1, q2, _⟩ := box_keep hW
    exact ⟨q1, q2, hW⟩)
  have HP0 : Hid (∀ W, Calls Tryd.prog 59 #[.int .i64 1, .int .u64 (a0 : Int)] W (Gives W (putL 1 a0))) := Lib.hid (fun W => put_yes 1 a0 (by omega) (by omega) (by omega) W)
  have HP1 : Hid (∀ W, Calls Tryd.prog 59 #[.int .i64 1, .int .u64 (a1 : Int)] W (Gives W (putL 1 a1))) := Lib.hid (fun W => put_yes 1 a1 (by omega) (by omega) (by omega) W)
  have HP2 : Hid (∀ W, Calls Tryd.prog 59 #[.int .i64 2, .int .u64 (a2 : Int)] W (Gives W (putL 2 a2))) := Lib.hid (fun W => put_yes 2 a2 (by omega) (by omega) (by omega) W)
  have HP3 : Hid (∀ W, Calls Tryd.prog 59 #[.int .i64 4, .int .u64 (a3 : Int)] W (Gives W (putL 4 a3))) := Lib.hid (fun W => put_yes 4 a3 (by omega) (by omega) (by omega) W)
  have HP4 : Hid (∀ W, Calls Tryd.prog 59 #[.int .i64 8, .int .u64 (a4 : Int)] W (Gives W (putL 8 a4))) := Lib.hid (fun W => put_yes 8 a4 (by omega) (by omega) (by omega) W)
  have HC0 : Hid (∀ W : World, (convert 3 24 (.int .i64 (a0 : Int))).run Tryd.prog W = .ok (.int .u64 (a0 : Int)) W) := Lib.hid (fun W => by go_simp; rw [wraps_u64 _ (by omega) (by omega)])
  have HC1 : Hid (∀ W : World, (convert 3 24 (.int .i64 (a1 : Int))).run Tryd.prog W = .ok (.int .u64 (a1 : Int)) W) := Lib.hid (fun W => by go_simp; rw [wraps_u64 _ (by omega) (by omega)])
  have HC2 : Hid (∀ W : World, (convert 3 24 (.int .i64 (a2 : Int))).run Tryd.prog W = .ok (.int .u64 (a2 : Int)) W) := Lib.hid (fun W => by go_simp; rw [wraps_u64 _ (by omega) (by omega)])
  have HC3 : Hid (∀ W : World, (convert 3 24 (.int .i64 (a3 : Int))).run Tryd.prog W = .ok (.int .u64 (a3 : Int)) W) := Lib.hid (fun W => by go_simp; rw [wraps_u64 _ (by omega) (by omega)])
  go_enter Tryd.func34, Tryd.ntmps34
  go_wp2
  refine wp_region_F (S := (fun w' => w'.heap[w.heap.size]? = some (.cells #[.int .i64 (a0 : Int), .int .i64 (a1 : Int), .int .i64 (a2 : Int), .int .i64 (a3 : Int), .int .u64 (a4 : Int)] OT (0, 0)) ∧ Below w.heap.size w w' ∧ Below (w.alloc (.cells #[.int .i64 (a0 : Int), .int .i64 (a1 : Int), .int .i64 (a2 : Int), .int .i64 (a3 : Int), .int .u64 (a4 : Int)] OT)).heap.size (w.alloc (.cells #[.int .i64 (a0 : Int), .int .i64 (a1 : Int), .int .i64 (a2 : Int), .int .i64 (a3 : Int), .int .u64 (a4 : Int)] OT)) w')) [] (by kernel_rfl) (HK.out _ ((Below.refl _ _).drew)) (fun hHeld => ?_)
  refine wpAnyF_take (i := 0) (oi := _) (v := ?_) rfl (by kernel_rfl) (by kernel_rfl) (by kernel_rfl) (by kernel_rfl) (fun _ _ _ h => h) (Or.inl ⟨by rfl, ?_⟩) (by assumption) ?_
  rotate_left 1
  · intro w hSw
    (try dsimp only at hSw)
    (first | (go_simp; done) | (go_simp; with_reducible rfl))
  (try simp only [Act.put, List.getElem_toArray, List.getElem_cons_succ, List.getElem_cons_zero, List.setIfInBounds_toArray, List.set_cons_zero, List.set_cons_succ])
  refine wpAnyF_take (i := 1) (oi := _) (v := _) rfl (by kernel_rfl) (by kernel_rfl) (by kernel_rfl) (by kernel_rfl) (fun _ _ _ h => h) (yields_cellP (by rfl) 3 (.tmp 3) rfl (w.heap.size) 0 rfl (.int .i64 (a0 : Int)) _ (fun W h => blk_cell h.1 0) Tryd.underlying3 rfl) (by assumption) ?_
  (try simp only [Act.put, List.getElem_toArray, List.getElem_cons_succ, List.getElem_cons_zero, List.setIfInBounds_toArray, List.set_cons_zero, List.set_cons_succ])
  refine wpAnyF_take (i := 2) (oi := _) (v := _) rfl (by kernel_rfl) (by kernel_rfl) (by kernel_rfl) (by kernel_rfl) (fun _ _ _ h => h) (yields_conv (by rfl) 3 24 (.tmp 4) rfl (.int .i64 (a0 : Int)) rfl (.int .u64 (a0 : Int)) HC0.out) (by assumption) ?_
  (try simp only [Act.put, List.getElem_toArray, List.getElem_cons_succ, List.getElem_cons_zero, List.setIfInBounds_toArray, List.set_cons_zero, List.set_cons_succ])
  refine wpAnyF_take (i := 4) (oi := _) (v := ?_) rfl (by kernel_rfl) (by kernel_rfl) (by kernel_rfl) (by kernel_rfl) (fun _ _ _ h => h) (Or.inl ⟨by rfl, ?_⟩) (by assumption) ?_
  rotate_left 1
  · intro w hSw
    (try dsimp only at hSw)
    (first | (go_simp; done) | (go_simp; with_reducible rfl))
  (try simp only [Act.put, List.getElem_toArray, List.getElem_cons_succ, List.getElem_cons_zero, List.setIfInBounds_toArray, List.set_cons_zero, List.set_cons_succ])
  refine wpAnyF_take (i := 5) (oi := _) (v := _) rfl (by kernel_rfl) (by kernel_rfl) (by kernel_rfl) (by kernel_rfl) (fun _ _ _ h => h) (yields_cellP (by rfl) 3 (.tmp 7) rfl (w.heap.size) 1 rfl (.int .i64 (a1 : Int)) _ (fun W h => blk_cell h.1 1) Tryd.underlying3 rfl) (by assumption) ?_
  (try simp only [Act.put, List.getElem_toArray, List.getElem_cons_succ, List.getElem_cons_zero, List.setIfInBounds_toArray, List.set_cons_zero, List.set_cons_succ])
  refine wpAnyF_take (i := 6) (oi := _) (v := _) rfl (by kernel_rfl) (by kernel_rfl) (by kernel_rfl) (by kernel_rfl) (fun _ _ _ h => h) (yields_conv (by rfl) 3 24 (.tmp 8) rfl (.int .i64 (a1 : Int)) rfl (.int .u64 (a1 : Int)) HC1.out) (by assumption) ?_
  (try simp only [Act.put, List.getElem_toArray, List.getElem_cons_succ, List.getElem_cons_zero, List.setIfInBounds_toArray, List.set_cons_zero, List.set_cons_succ])
  refine wpAnyF_take (i := 8) (oi := _) (v := ?_) rfl (by kernel_rfl) (by kernel_rfl) (by kernel_rfl) (by kernel_rfl) (fun _ _ _ h => h) (Or.inl ⟨by rfl, ?_⟩) (by assumption) ?_
  rotate_left 1
  · intro w hSw
    (try dsimp only at hSw)
    (first | (go_simp; done) | (go_simp; with_reducible rfl))
  (try simp only [Act.put, List.getElem_toArray, List.getElem_cons_succ, List.getElem_cons_zero, List.setIfInBounds_toArray, List.set_cons_zero, List.set_cons_succ])
  refine wpAnyF_take (i := 9) (oi := _) (v := _) rfl (by kernel_rfl) (by kernel_rfl) (by kernel_rfl) (by kernel_rfl) (fun _ _ _ h => h) (yields_cellP (by rfl) 3 (.tmp 11) rfl (w.heap.size) 2 rfl (.int .i64 (a2 : Int)) _ (fun W h => blk_cell h.1 2) Tryd.underlying3 rfl) (by assumption) ?_
  (try simp only [Act.put, List.getElem_toArray, List.getElem_cons_succ, List.getElem_cons_zero, List.setIfInBounds_toArray, List.set_cons_zero, List.set_cons_succ])
  refine wpAnyF_take (i := 10) (oi := _) (v := _) rfl (by kernel_rfl) (by kernel_rfl) (by kernel_rfl) (by kernel_rfl) (fun _ _ _ h => h) (yields_conv (by rfl) 3 24 (.tmp 12) rfl (.int .i64 (a2 : Int)) rfl (.int .u64 (a2 : Int)) HC2.out) (by assumption) ?_
  (try simp only [Act.put, List.getElem_toArray, List.getElem_cons_succ, List.getElem_cons_zero, List.setIfInBounds_toArray, List.set_cons_zero, List.set_cons_succ])
  refine wpAnyF_take (i := 12) (oi := _) (v := ?_) rfl (by kernel_rfl) (by kernel_rfl) (by kernel_rfl) (by kernel_rfl) (fun _ _ _ h => h) (Or.inl ⟨by rfl, ?_⟩) (by assumption) ?_
  rotate_left 1
  · intro w hSw
    (try dsimp only at hSw)
    (first | (go_simp; done) | (go_simp; with_reducible rfl))
  (try simp only [Act.put, List.getElem_toArray, List.getElem_cons_succ, List.getElem_cons_zero, List.setIfInBounds_toArray, List.set_cons_zero, List.set_cons_succ])
  refine wpAnyF_take (i := 13) (oi := _) (v := _) rfl (by kernel_rfl) (by kernel_rfl) (by kernel_rfl) (by kernel_rfl) (fun _ _ _ h => h) (yields_cellP (by rfl) 3 (.tmp 15) rfl (w.heap.size) 3 rfl (.int .i64 (a3 : Int)) _ (fun W h => blk_cell h.1 3) Tryd.underlying3 rfl) (by assumption) ?_
  (try simp only [Act.put, List.getElem_toArray, List.getElem_cons_succ, List.getElem_cons_zero, List.setIfInBounds_toArray, List.set_cons_zero, List.set_cons_succ])
  refine wpAnyF_take (i := 14) (oi := _) (v := _) rfl (by kernel_rfl) (by kernel_rfl) (by kernel_rfl) (by kernel_rfl) (fun _ _ _ h => h) (yields_conv (by rfl) 3 24 (.tmp 16) rfl (.int .i64 (a3 : Int)) rfl (.int .u64 (a3 : Int)) HC3.out) (by assumption) ?_
  (try simp only [Act.put, List.getElem_toArray, List.getElem_cons_succ, List.getElem_cons_zero, List.setIfInBounds_toArray, List.set_cons_zero, List.set_cons_succ])
  refine wpAnyF_take (i := 16) (oi := _) (v := ?_) rfl (by kernel_rfl) (by kernel_rfl) (by kernel_rfl) (by kernel_rfl) (fun _ _ _ h => h) (Or.inl ⟨by rfl, ?_⟩) (by assumption) ?_
  rotate_left 1
  · intro w hSw
    (try dsimp only at hSw)
    (first | (go_simp; done) | (go_simp; with_reducible rfl))
  (try simp only [Act.put, List.getElem_toArray, List.getElem_cons_succ, List.getElem_cons_zero, List.setIfInBounds_toArray, List.set_cons_zero, List.set_cons_succ])
  refine wpAnyF_take (i := 17) (oi := _) (v := _) rfl (by kernel_rfl) (by kernel_rfl) (by kernel_rfl) (by kernel_rfl) (fun _ _ _ h => h) (yields_cellP (by rfl) 24 (.tmp 19) rfl (w.heap.size) 4 rfl (.int .u64 (a4 : Int)) _ (fun W h => blk_cell h.1 4) Tryd.underlying24 rfl) (by assumption) ?_
  (try simp only [Act.put, List.getElem_toArray, List.getElem_cons_succ, List.getElem_cons_zero, List.setIfInBounds_toArray, List.set_cons_zero, List.set_cons_succ])
  refine wpAnyF_ready (rs := [3]) (by kernel_rfl) (by simp) ?_
  refine AllReadyF.cons (o := _) rfl (fun K hK => ?_) AllReadyF.nil
  go_simp
  (go_at_call 59)
  refine (HP0.out _).mono ?_
  rintro e w1 ⟨A0, c0, rfl, hb0, hx0⟩
  refine hK.out _ _ (HK.out _ (hHeld.2.2.trans (hb0.mono hHeld.2.2.size))) (fun hHeld1 => ?_)
  clear hK K
  (try simp only [Act.put, List.getElem_toArray, List.getElem_cons_succ, List.getElem_cons_zero, List.setIfInBounds_toArray, List.set_cons_zero, List.set_cons_succ])
  refine wpAnyF_ready (rs := [7]) (by kernel_rfl) (by simp) ?_
  refine AllReadyF.cons (o := _) rfl (fun K hK => ?_) AllReadyF.nil
  go_simp
  (go_at_call 59)
  refine (HP1.out _).mono ?_
  rintro e w2 ⟨A1, c1, rfl, hb1, hx1⟩
  replace hx0 := (hx0.below hb1).more hb1.size
  refine hK.out _ _ (HK.out _ (hHeld1.2.2.trans (hb1.mono hHeld1.2.2.size))) (fun hHeld2 => ?_)
  clear hK K
  (try simp only [Act.put, List.getElem_toArray, List.getElem_cons_succ, List.getElem_cons_zero, List.setIfInBounds_toArray, List.set_cons_zero, List.set_cons_succ])
  refine wpAnyF_ready (rs := [11]) (by kernel_rfl) (by simp) ?_
  refine AllReadyF.cons (o := _) rfl (fun K hK => ?_) AllReadyF.nil
  go_simp
  (go_at_call 59)
  refine (HP2.out _).mono ?_
  rintro e w3 ⟨A2, c2, rfl, hb2, hx2⟩
  replace hx0 := (hx0.below hb2).more hb2.size
  replace hx1 := (hx1.below hb2).more hb2.size
  refine hK.out _ _ (HK.out _ (hHeld2.2.2.trans (hb2.mono hHeld2.2.2.size))) (fun hHeld3 => ?_)
  clear hK K
  (try simp only [Act.put, List.getElem_toArray, List.getElem_cons_succ, List.getElem_cons_zero, List.setIfInBounds_toArray, List.set_cons_zero, List.set_cons_succ])
  refine wpAnyF_ready (rs := [15]) (by kernel_rfl) (by simp) ?_
  refine AllReadyF.cons (o := _) rfl (fun K hK => ?_) AllReadyF.nil
  go_simp
  (go_at_call 59)
  refine (HP3.out _).mono ?_
  rintro e w4 ⟨A3, c3, rfl, hb3, hx3⟩
  replace hx0 := (hx0.below hb3).more hb3.size
  replace hx1 := (hx1.below hb3).more hb3.size
  replace hx2 := (hx2.below hb3).more hb3.size
  refine hK.out _ _ (HK.out _ (hHeld3.2.2.trans (hb3.mono hHeld3.2.2.size))) (fun hHeld4 => ?_)
  clear hK K
  (try simp only [Act.put, List.getElem_toArray, List.getElem_cons_succ, List.getElem_cons_zero, List.setIfInBounds_toArray, List.set_cons_zero, List.set_cons_succ])
  refine wpAnyF_ready (rs := [18]) (by kernel_rfl) (by simp) ?_
  refine AllReadyF.cons (o := _) rfl (fun K hK => ?_) AllReadyF.nil
  go_simp
  (go_at_call 59)
  refine (HP4.out _).mono ?_
  rintro e w5 ⟨A4, c4, rfl, hb4, hx4⟩
  replace hx0 := (hx0.below hb4).more hb4.size
  replace hx1 := (hx1.below hb4).more hb4.size
  replace hx2 := (hx2.below hb4).more hb4.size
  replace hx3 := (hx3.below hb4).more hb4.size
  refine hK.out _ _ (HK.out _ (hHeld4.2.2.trans (hb4.mono hHeld4.2.2.size))) (fun hHeld5 => ?_)
  clear hK K
  (try simp only [Act.put, List.getElem_toArray, List.getElem_cons_succ, List.getElem_cons_zero, List.setIfInBounds_toArray, List.set_cons_zero, List.set_cons_succ])
  refine wpAnyF_ready (rs := [19]) (by kernel_rfl) (by simp) ?_
  refine AllReadyF.cons (o := _) rfl (fun K hK => ?_) AllReadyF.nil
  go_simp
  refine hK.out _ _ (HK.out _ (hHeld5.2.2.alloc hHeld5.2.2.size _)) (fun hHeld6 => ?_)
  clear hK K
  (try simp only [Act.put, List.getElem_toArray, List.getElem_cons_succ, List.getElem_cons_zero, List.setIfInBounds_toArray, List.set_cons_zero, List.set_cons_succ])
  refine wpAnyF_ready (rs := [20]) (by kernel_rfl) (by simp) ?_
  refine AllReadyF.cons (o := _) rfl (fun K hK => ?_) AllReadyF.nil
  go_simp
  (go_at_call 58)
  have HR := rowsW5 (t := 38) hx0 hx1 hx2 hx3 hx4 (by simp [putL_length]) (by simp [putL_length]) (by simp [putL_length]) (by simp [putL_length]) (by simp [putL_length])
  refine (concat_any _ _ 5 _ _ HR rfl (by omega) (by omega)).mono ?_
  rintro e w7 ⟨v, rfl, hown, hb7⟩
  refine hK.out _ _ (HK.out _ (hHeld6.2.2.trans (hb7.mono hHeld6.2.2.size))) (fun hHeld7 => ?_)
  clear hK K
  (try simp only [Act.put, List.getElem_toArray, List.getElem_cons_succ, List.getElem_cons_zero, List.setIfInBounds_toArray, List.set_cons_zero, List.set_cons_succ])
  refine wpAnyF_ready (rs := [21]) (by kernel_rfl) (by simp) ?_
  refine AllReadyF.cons (o := _) rfl (fun K hK => ?_) AllReadyF.nil
  go_simp
  refine hK.out _ _ (by assumption) (fun hHeld8 => ?_)
  clear hK K
  (try simp only [Act.put, List.getElem_toArray, List.getElem_cons_succ, List.getElem_cons_zero, List.setIfInBounds_toArray, List.set_cons_zero, List.set_cons_succ])
  refine wpAnyF_done (by kernel_rfl) ?_ _
  go_wp2
  go_ret
  exact ⟨v, rfl, by
    have h := hown.base (B' := w.heap.size) hHeld6.2.1.size
    rw [show byL a0 a1 a2 a3 a4 = [putL 1 a0, putL 1 a1, putL 2 a2, putL 4 a3, putL 8 a4].flatten by simp [byL]]
    exact h, hHeld7.2.1⟩
end Go.Proofs.YtajgbflmfopfoaaDoor
