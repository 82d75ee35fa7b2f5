/-
  Joined: Cls, ScE.
-/
import Derived.BigQuiet
import Derived.Deep.MidRow
import Derived.Below
import Derived.Test.YtcaogiaoabdkdaaDoorZVal
import Derived.Test.YtcaogiaoabdkdaaDoorZScC
import Derived.Test.YtcaogiaoabdkdaaDoorZHeldF
import Derived.Great.Ranges
import Derived.Deep.Cut
import Derived.Deep.RegionHeld3
namespace Go.Proofs.YtcaogiaoabdkdaaDoor
set_option maxRecDepth 100000
section
open Go Go.RowKit
set_option linter.unusedVariables false
theorem wp_region_class {P : Program} {id : Nat} {Q : Exit → Act → World → Prop} {a : Act} {w : World} {l : List Oper} (C : World → Prop) (hm : P.follows .mixedOrders = true) (hB : Region.lexB .any l.toArray = true) (hC : C w.drew)
    (h : wpQuiet P l.toArray C (fun a' => ∀ w', C w' → Q .normal a' w') l a) : (Code.region id l.toArray true).wp P Q a w :=
  wp_region_quiet (C := C) hm hB hC (by simpa using h)
theorem quiet_load {P : Program} {C : World → Prop} {o : Oper} {a : Act} {K : Act → Prop} (ty : TypeId) (x : Operand) (ho : o.op = .load ty x) (b off : Nat) (hx : a.eval x = .pointer (some ⟨b, off, none⟩)) (cs : List Value) (d : TypeDesc)
    (hS : ∀ w, C w → w.rangeAt b off cs) (hu : P.underlying ty = some d) (hd : d.isRow = true) (hi : (P.info? ty).map (·.size) = some cs.length) (hk : K (a.put o.dst (.agg cs.toArray))) : o.quiet P a C K :=
  ⟨_, fun w hw => by
    unfold Oper.quietAt execOp
    simp only [ho, hx, Instr.loadAt, Instr.sureAddr, Sem.run_bind, Sem.run_pure, Result.andThen_ok, run_loadVar_mid w b off ty cs d (hS w hw) hu hd hi]
    exact ⟨rfl, rfl⟩, hk⟩
/-- what lies below the heap's end of W lies there still -/
def After (W w : World) : Prop := Below W.heap.size W w
theorem After.next {W w w' : World} (h : After W w) (hb : Below w.heap.size w w') : After W w' := Below.trans h (hb.mono h.size)
theorem After.refl (W : World) : After W W := Below.refl _ _
theorem After.drew (W : World) : After W W.drew := (Below.refl _ _).drew
theorem After.row {W w : World} {g : Nat} {t : TypeId} {f : Nat → Value} {n : Nat} (h : After W w) (hr : Row W g t f n) : Row w g t f n := Row.below hr h hr.lt
theorem row_range {w : World} {g : Nat} {t : TypeId} {f : Nat → Value} {n : Nat} (h : Row w g t f n) {cs : List Value} (hc : cs.toArray = rowV f n) : w.rangeAt g 0 cs := fun j v hv => by
  rw [Nat.zero_add]
  have h1 := blk_cell h j
  rw [h1, ← hc]
  simpa using hv
theorem calls_after {P : Program} {f : FuncId} {args : Array Value} {W w : World} {v : Value} (hw : After W w) (h : Calls P f args w fun e w' => e = .returned v ∧ Below w.heap.size w w') : Calls P f args w fun e w' => e = .returned v ∧ After W w' :=
  h.mono fun _ _ ⟨he, hb⟩ => ⟨he, hw.next hb⟩
end
section
open Go.RowKit Go
set_option linter.unusedVariables false
set_option linter.unusedSimpArgs false
set_option maxRecDepth 100000
theorem al1 (w : World) (o : Obj) : Below w.heap.size w (w.alloc o) := (Below.refl _ _).alloc (Nat.le_refl _) _
set_option maxHeartbeats 2000000 in
theorem numbers_any (kd : Int) (y : Bool) (z1 z2 z3 z4 : Int) (A : Option Addr) (n c : Nat) (w : World) :
    Calls Tryd.prog 53 #[.agg #[.int .i64 kd, .bool y, .int .i64 z1, .int .i64 z2, .int .i64 z3, .int .i64 z4, .slice A n c]] w fun e w' => e = .returned (.agg #[.int .i64 z1, .int .i64 z2, .int .i64 z3, .int .i64 z4]) ∧ Below w.heap.size w w' := by
  obtain ⟨W0, hW⟩ : ∃ W0, W0 = (w.alloc (.cells #[.int .i64 kd, .bool y, .int .i64 z1, .int .i64 z2, .int .i64 z3, .int .i64 z4, .slice A n c] 30)).alloc (.cells #[.int .i64 0, .int .i64 0, .int .i64 0, .int .i64 0] 93) := ⟨_, rfl⟩
  have hb0 : Below w.heap.size w W0 := by rw [hW]; exact (al1 _ _).alloc (by simp) _
  have hx : W0.heap[w.heap.size]? = some (.cells #[.int .i64 kd, .bool y, .int .i64 z1, .int .i64 z2, .int .i64 z3, .int .i64 z4, .slice A n c] 30 (0, 0)) := by rw [hW]; exact blk_alloc (heap_alloc_new w _) _
  have hr : W0.heap[w.heap.size + 1]? = some (.cells #[.int .i64 0, .int .i64 0, .int .i64 0, .int .i64 0] 93 (0, 0)) := by
    have := heap_alloc_new (w.alloc (.cells #[.int .i64 kd, .bool y, .int .i64 z1, .int .i64 z2, .int .i64 z3, .int .i64 z4, .slice A n c] 30)) (.cells #[.int .i64 0, .int .i64 0, .int .i64 0, .int .i64 0] 93)
    rw [show (w.alloc (.cells #[.int .i64 kd, .bool y, .int .i64 z1, .int .i64 z2, .int .i64 z3, .int .i64 z4, .slice A n c] 30)).heap.size = w.heap.size + 1 by simp, ← hW] at this
    exact this
  have hx2 := blk_set (blk_set (blk_set (blk_set hr 0 (.int .i64 z1)) 1 (.int .i64 z2)) 2 (.int .i64 z3)) 3 (.int .i64 z4)
  obtain ⟨W2, hW2⟩ : ∃ W2, W2 = (((W0.setCell ⟨w.heap.size + 1, 0, none⟩ (.int .i64 z1)).setCell ⟨w.heap.size + 1, 1, none⟩ (.int .i64 z2)).setCell ⟨w.heap.size + 1, 2, none⟩ (.int .i64 z3)).setCell ⟨w.heap.size + 1, 3, none⟩ (.int .i64 z4) := ⟨_, rfl⟩
  have HX2 : Hid (W2.heap[w.heap.size + 1]? = some (.cells #[.int .i64 z1, .int .i64 z2, .int .i64 z3, .int .i64 z4] 93 (0, 0))) := Lib.hid (by rw [hW2]; simpa using hx2)
  have HB2 : Hid (Below w.heap.size w W2) := Lib.hid (by rw [hW2]; exact (((hb0.setCell (by show w.heap.size ≤ w.heap.size + 1; omega) _).setCell (by show w.heap.size ≤ w.heap.size + 1; omega) _).setCell (by show w.heap.size ≤ w.heap.size + 1; omega) _).setCell (by show w.heap.size ≤ w.heap.size + 1; omega) _)
  have HIL : Hid ((Tryd.prog.info? 93).map (·.size) = some (#[.int .i64 z1, .int .i64 z2, .int .i64 z3, .int .i64 z4] : Array Value).size) := Lib.hid (by rw [show (#[.int .i64 z1, .int .i64 z2, .int .i64 z3, .int .i64 z4] : Array Value).size = 4 from rfl]; kernel_rfl)
  have HW := Lib.hid hW.symm
  have HW2 := Lib.hid hW2.symm
  clear hW hW2 hb0 hx2
  have p0 : W0.cell? ⟨w.heap.size, 0, none⟩ = some (.int .i64 kd) := blk_cell hx 0
  have p1 : W0.cell? ⟨w.heap.size, 1, none⟩ = some (.bool y) := blk_cell hx 1
  have p2 : W0.cell? ⟨w.heap.size, 2, none⟩ = some (.int .i64 z1) := blk_cell hx 2
  have p3 : W0.cell? ⟨w.heap.size, 3, none⟩ = some (.int .i64 z2) := blk_cell hx 3
  have p4 : W0.cell? ⟨w.heap.size, 4, none⟩ = some (.int .i64 z3) := blk_cell hx 4
  have p5 : W0.cell? ⟨w.heap.size, 5, none⟩ = some (.int .i64 z4) := blk_cell hx 5
  have p6 : W0.cell? ⟨w.heap.size, 6, none⟩ = some (.slice A n c) := blk_cell hx 6
  have r0 : W0.cell? ⟨w.heap.size + 1, 0, none⟩ = some (.int .i64 0) := blk_cell hr 0
  have r1 : W0.cell? ⟨w.heap.size + 1, 1, none⟩ = some (.int .i64 0) := blk_cell hr 1
  have r2 : W0.cell? ⟨w.heap.size + 1, 2, none⟩ = some (.int .i64 0) := blk_cell hr 2
  have r3 : W0.cell? ⟨w.heap.size + 1, 3, none⟩ = some (.int .i64 0) := blk_cell hr 3
  have f0 : W0.frozen? ⟨w.heap.size + 1, 0, none⟩ = false := blk_free hr 0
  have f1 : W0.frozen? ⟨w.heap.size + 1, 1, none⟩ = false := blk_free hr 1
  have f2 : W0.frozen? ⟨w.heap.size + 1, 2, none⟩ = false := blk_free hr 2
  have f3 : W0.frozen? ⟨w.heap.size + 1, 3, none⟩ = false := blk_free hr 3
  go_enter Tryd.func53, Tryd.ntmps53
  go_upto_region 1 with (fail)
  rw [HW.out]
  go_wp2
  rw [HW2.out]
  exact bodyPost_ret (v := .agg #[.int .i64 z1, .int .i64 z2, .int .i64 z3, .int .i64 z4]) (results_cell_row rfl _ _ _ 93 _ (0, 0) _ rfl HX2.out Tryd.underlying93 rfl HIL.out) rfl ⟨rfl, HB2.out⟩
theorem After.of_drew {w w' : World} (h : Below w.heap.size w.drew w') : After w w' := (After.drew w).trans h
theorem one6 (a b c d e : Int) (y : Bool) : (#[Value.int .i64 a, Value.bool y, Value.int .i64 b, Value.int .i64 c, Value.int .i64 d, Value.int .i64 e] : Array Value).all (·.oneCell') = true := by first | rfl | kernel_rfl | (simp [Value.oneCell']; done) | (simp; exact ⟨rfl, rfl, rfl, rfl, rfl, rfl⟩)
theorem setN_after {w w' : World} {g i : Nat} {v : Value} (h : w.heap.size ≤ g) (hb : After w w') : After w (w'.setCell ⟨g, i, none⟩ v) := Below.setCell hb (p := ⟨g, i, none⟩) h v
set_option maxHeartbeats 2000000 in
theorem head_any (kd : Int) (y : Bool) (z1 z2 z3 z4 : Int) (A : Option Addr) (n c : Nat) (w : World) :
    Calls Tryd.prog 51 #[.agg #[.int .i64 kd, .bool y, .int .i64 z1, .int .i64 z2, .int .i64 z3, .int .i64 z4, .slice A n c]] w fun e w' => e = .returned (.agg #[.int .i64 kd, .bool y, .int .i64 z1, .int .i64 z2, .int .i64 z3, .int .i64 z4]) ∧ Below w.heap.size w w' := by
  obtain ⟨W0, hW⟩ : ∃ W0, W0 = (w.alloc (.cells #[.int .i64 kd, .bool y, .int .i64 z1, .int .i64 z2, .int .i64 z3, .int .i64 z4, .slice A n c] 30)).alloc (.cells #[.int .i64 0, .bool false, .int .i64 0, .int .i64 0, .int .i64 0, .int .i64 0] 95) := ⟨_, rfl⟩
  have hb0 : Below w.heap.size w W0 := by rw [hW]; exact (al1 _ _).alloc (by simp) _
  have hsz : W0.heap.size = w.heap.size + 1 + 1 := by rw [hW]; simp
  have hx : W0.heap[w.heap.size]? = some (.cells #[.int .i64 kd, .bool y, .int .i64 z1, .int .i64 z2, .int .i64 z3, .int .i64 z4, .slice A n c] 30 (0, 0)) := by rw [hW]; exact blk_alloc (heap_alloc_new w _) _
  have hr : W0.heap[w.heap.size + 1]? = some (.cells #[.int .i64 0, .bool false, .int .i64 0, .int .i64 0, .int .i64 0, .int .i64 0] 95 (0, 0)) := by
    have := heap_alloc_new (w.alloc (.cells #[.int .i64 kd, .bool y, .int .i64 z1, .int .i64 z2, .int .i64 z3, .int .i64 z4, .slice A n c] 30)) (.cells #[.int .i64 0, .bool false, .int .i64 0, .int .i64 0, .int .i64 0, .int .i64 0] 95)
    rw [show (w.alloc (.cells #[.int .i64 kd, .bool y, .int .i64 z1, .int .i64 z2, .int .i64 z3, .int .i64 z4, .slice A n c] 30)).heap.size = w.heap.size + 1 by simp, ← hW] at this
    exact this
  have HX := Lib.hid hx
  have HLT : Hid (w.heap.size < W0.heap.size) := Lib.hid (by omega)
  have KX : Hid (∀ w' : World, w'.heap[w.heap.size]? = some (.cells #[.int .i64 kd, .bool y, .int .i64 z1, .int .i64 z2, .int .i64 z3, .int .i64 z4, .slice A n c] 30 (0, 0)) → w'.cell? ⟨w.heap.size, 0, none⟩ = some (.int .i64 kd) ∧ w'.cell? ⟨w.heap.size, 1, none⟩ = some (.bool y) ∧ w'.cell? ⟨w.heap.size, 2, none⟩ = some (.int .i64 z1) ∧ w'.cell? ⟨w.heap.size, 3, none⟩ = some (.int .i64 z2) ∧ w'.cell? ⟨w.heap.size, 4, none⟩ = some (.int .i64 z3) ∧ w'.cell? ⟨w.heap.size, 5, none⟩ = some (.int .i64 z4) ∧ w'.cell? ⟨w.heap.size, 6, none⟩ = some (.slice A n c)) := Lib.hid (fun w' hw => ⟨blk_cell hw 0, blk_cell hw 1, blk_cell hw 2, blk_cell hw 3, blk_cell hw 4, blk_cell hw 5, blk_cell hw 6⟩)
  have KS : Hid (∀ w', After W0 w' → w'.cell? ⟨w.heap.size, 0, none⟩ = some (.int .i64 kd) ∧ w'.cell? ⟨w.heap.size, 1, none⟩ = some (.bool y) ∧ w'.cell? ⟨w.heap.size, 2, none⟩ = some (.int .i64 z1) ∧ w'.cell? ⟨w.heap.size, 3, none⟩ = some (.int .i64 z2) ∧ w'.cell? ⟨w.heap.size, 4, none⟩ = some (.int .i64 z3) ∧ w'.cell? ⟨w.heap.size, 5, none⟩ = some (.int .i64 z4) ∧ w'.cell? ⟨w.heap.size, 6, none⟩ = some (.slice A n c)) := Lib.hid (fun w' hw => KX.out _ ((Below.block hw _ HLT.out).trans HX.out))
  have HR : Hid (∀ w', After W0 w' → w'.heap[w.heap.size + 1]? = some (.cells #[.int .i64 0, .bool false, .int .i64 0, .int .i64 0, .int .i64 0, .int .i64 0] 95 (0, 0))) := Lib.hid (fun w' hw => (Below.block hw _ (by omega)).trans hr)
  have HB0 := Lib.hid hb0
  have HIL : Hid ((Tryd.prog.info? 95).map (·.size) = some (#[.int .i64 kd, .bool y, .int .i64 z1, .int .i64 z2, .int .i64 z3, .int .i64 z4] : Array Value).size) := Lib.hid (by rw [show (#[.int .i64 kd, .bool y, .int .i64 z1, .int .i64 z2, .int .i64 z3, .int .i64 z4] : Array Value).size = 6 from rfl]; kernel_rfl)
  have HW := Lib.hid hW.symm
  clear hW hx hr hb0
  go_enter Tryd.func51, Tryd.ntmps51
  go_upto_region 1 with (fail)
  rw [HW.out]
  refine wp_region_F (S := (fun w' => w'.cell? ⟨w.heap.size, 0, none⟩ = some (.int .i64 kd) ∧ w'.cell? ⟨w.heap.size, 1, none⟩ = some (.bool y) ∧ w'.cell? ⟨w.heap.size, 2, none⟩ = some (.int .i64 z1) ∧ w'.cell? ⟨w.heap.size, 3, none⟩ = some (.int .i64 z2) ∧ w'.cell? ⟨w.heap.size, 4, none⟩ = some (.int .i64 z3) ∧ w'.cell? ⟨w.heap.size, 5, none⟩ = some (.int .i64 z4) ∧ w'.cell? ⟨w.heap.size, 6, none⟩ = some (.slice A n c))) [] (by kernel_rfl) (KS.out _ (After.drew W0)) (fun hHeld => ?_)
  refine wpAnyF_take (i := 0) (oi := _) (v := ?_) rfl (by kernel_rfl) (by kernel_rfl) (by kernel_rfl) (by kernel_rfl) (fun _ _ _ h => h) (Or.inl ⟨by rfl, ?_⟩) (by assumption) ?_
  rotate_left 1
  · intro w hSw
    (try dsimp only at hSw)
    (first | (go_simp; done) | (go_simp; with_reducible rfl))
  (try simp only [Act.put, List.getElem_toArray, List.getElem_cons_succ, List.getElem_cons_zero, List.setIfInBounds_toArray, List.set_cons_zero, List.set_cons_succ])
  refine wpAnyF_take (i := 1) (oi := _) (v := ?_) rfl (by kernel_rfl) (by kernel_rfl) (by kernel_rfl) (by kernel_rfl) (fun _ _ _ h => h) (Or.inl ⟨by rfl, ?_⟩) (by assumption) ?_
  rotate_left 1
  · intro w hSw
    (try dsimp only at hSw)
    (first | (go_simp; done) | (go_simp; with_reducible rfl))
  (try simp only [Act.put, List.getElem_toArray, List.getElem_cons_succ, List.getElem_cons_zero, List.setIfInBounds_toArray, List.set_cons_zero, List.set_cons_succ])
  refine wpAnyF_take (i := 2) (oi := _) (v := ?_) rfl (by kernel_rfl) (by kernel_rfl) (by kernel_rfl) (by kernel_rfl) (fun _ _ _ h => h) (Or.inl ⟨by rfl, ?_⟩) (by assumption) ?_
  rotate_left 1
  · intro w hSw
    (try dsimp only at hSw)
    (first | (go_simp; done) | (go_simp; with_reducible rfl))
  (try simp only [Act.put, List.getElem_toArray, List.getElem_cons_succ, List.getElem_cons_zero, List.setIfInBounds_toArray, List.set_cons_zero, List.set_cons_succ])
  refine wpAnyF_take (i := 3) (oi := _) (v := ?_) rfl (by kernel_rfl) (by kernel_rfl) (by kernel_rfl) (by kernel_rfl) (fun _ _ _ h => h) (Or.inl ⟨by rfl, ?_⟩) (by assumption) ?_
  rotate_left 1
  · intro w hSw
    (try dsimp only at hSw)
    (first | (go_simp; done) | (go_simp; with_reducible rfl))
  (try simp only [Act.put, List.getElem_toArray, List.getElem_cons_succ, List.getElem_cons_zero, List.setIfInBounds_toArray, List.set_cons_zero, List.set_cons_succ])
  refine wpAnyF_take (i := 4) (oi := _) (v := ?_) rfl (by kernel_rfl) (by kernel_rfl) (by kernel_rfl) (by kernel_rfl) (fun _ _ _ h => h) (Or.inl ⟨by rfl, ?_⟩) (by assumption) ?_
  rotate_left 1
  · intro w hSw
    (try dsimp only at hSw)
    (first | (go_simp; done) | (go_simp; with_reducible rfl))
  (try simp only [Act.put, List.getElem_toArray, List.getElem_cons_succ, List.getElem_cons_zero, List.setIfInBounds_toArray, List.set_cons_zero, List.set_cons_succ])
  refine wpAnyF_ready (rs := [5]) (by kernel_rfl) (by simp) ?_
  refine AllReadyF.cons (o := _) rfl (fun K hK => ?_) AllReadyF.nil
  go_simp
  refine (numbers_any kd y z1 z2 z3 z4 A n c _).mono ?_
  rintro e w1 ⟨rfl, hb1⟩
  have HA1 : Hid (After W0 w1) := Lib.hid (After.of_drew hb1)
  clear hb1
  refine hK.out _ _ (KS.out _ HA1.out) (fun hHeld5 => ?_)
  clear hK K
  (try simp only [Act.put, List.getElem_toArray, List.getElem_cons_succ, List.getElem_cons_zero, List.setIfInBounds_toArray, List.set_cons_zero, List.set_cons_succ])
  refine wpAnyF_take (i := 6) (oi := _) (v := ?_) rfl (by kernel_rfl) (by kernel_rfl) (by kernel_rfl) (by kernel_rfl) (fun _ _ _ h => h) (Or.inl ⟨by rfl, ?_⟩) (by assumption) ?_
  rotate_left 1
  · intro w hSw
    (try dsimp only at hSw)
    (first | (go_simp; done) | (go_simp; with_reducible rfl))
  (try simp only [Act.put, List.getElem_toArray, List.getElem_cons_succ, List.getElem_cons_zero, List.setIfInBounds_toArray, List.set_cons_zero, List.set_cons_succ])
  refine wpAnyF_ready (rs := [7]) (by kernel_rfl) (by simp) ?_
  refine AllReadyF.cons (o := _) rfl (fun K hK => ?_) AllReadyF.nil
  rw [if_pos (by kernel_rfl)]
  refine wp_store_row 95 (.tmp 2) (.tmp 9) rfl (w.heap.size + 1) #[.int .i64 kd, .bool y, .int .i64 z1, .int .i64 z2, .int .i64 z3, .int .i64 z4] rfl rfl _ _ (HR.out _ HA1.out) HIL.out rfl (one6 _ _ _ _ _ _) ?_
  refine hK.out _ _ (KX.out _ ((setRow_other _ _ _ _ (by omega)).trans ((Below.block HA1.out _ HLT.out).trans HX.out))) (fun hHeld7 => ?_)
  clear hK K
  (try simp only [Act.put, List.getElem_toArray, List.getElem_cons_succ, List.getElem_cons_zero, List.setIfInBounds_toArray, List.set_cons_zero, List.set_cons_succ])
  refine wpAnyF_done (by kernel_rfl) ?_ _
  go_wp2
  exact bodyPost_ret (v := .agg #[.int .i64 kd, .bool y, .int .i64 z1, .int .i64 z2, .int .i64 z3, .int .i64 z4]) (results_cell_row rfl _ _ _ 95 _ (0, 0) _ rfl (setRow_heap _ _ _ _ _ _ (HR.out _ HA1.out)) Tryd.underlying95 rfl HIL.out) rfl ⟨rfl, below_setRow (HB0.out.trans (Below.mono HA1.out (by omega))) (by omega) _⟩
end
end Go.Proofs.YtcaogiaoabdkdaaDoor
