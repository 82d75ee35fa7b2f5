/-
  Joined: BkJ, TwN.
-/
import Derived.Test.YtoclelpmampikaaGreatBkI
import Derived.Test.YtoclelpmampikaaGreatTwZ4
namespace Go.Proofs.YtoclelpmampikaaGreat
set_option maxRecDepth 100000
section
open Go.RowKit Go
set_option linter.unusedVariables false
set_option linter.unusedSimpArgs false
theorem exec_bin {P : Program} {o : Oper} {a : Act} {w : World} (op : BinOp) (t t2 : TypeId) (x y : Operand) (ho : o.op = .binOp op t x y t2) (vx vy v : Value) (hx : a.eval x = vx) (hy : a.eval y = vy) (hg : (eqGuard op t x y vx vy).run P w = .ok () w) (hr : (binOp op t vx vy).run P w = .ok v w) : (execOp a.eval o).run P w = .ok (.value v) w := by
  unfold execOp
  simp [ho, hx, hy, hg, hr, Result.andThen]
theorem bk_guard (x y : Operand) (a b : Array Value) (W : World) : (eqGuard .eql 34 x y (.agg a) (.agg b)).run Tryz.prog W = .ok () W := by kernel_rfl
theorem bk_guard_ne (x y : Operand) (a b : Array Value) (W : World) : (eqGuard .neq 34 x y (.agg a) (.agg b)).run Tryz.prog W = .ok () W := by kernel_rfl
theorem exec_rowA {P : Program} {o : Oper} {a : Act} {w : World} (ty : TypeId) (x : Operand) (ho : o.op = .load ty x) (b off : Nat) (hx : a.eval x = .pointer (some ⟨b, off, none⟩)) (cs : Array Value) (d : TypeDesc)
    (hS : w.rangeAt b off cs.toList) (hu : P.underlying ty = some d) (hd : d.isRow = true) (hi : (P.info? ty).map (·.size) = some cs.toList.length) : (execOp a.eval o).run P w = .ok (.value (.agg cs)) w := by
  have h := exec_row (P := P) (o := o) (a := a) (w := w) ty x ho b off hx cs.toList d hS hu hd hi
  rw [Array.toArray_toList] at h
  exact h
theorem step_conv {P : Program} {K0 : Act → World → Prop} {o : Oper} {a : Act} {Q : Exit → Act → World → Prop} (W : World) (s d : TypeId) (x : Operand) (ho : o.op = .convert s d x) (vx v : Value) (w' : World) (hx : a.eval x = vx) (hr : (convert s d vx).run P W = .ok v w') (h : K0 (a.put o.dst v) w') : Oper.wp P o a W K0 Q := by
  unfold Oper.wp execOp
  simp [ho, hx, hr, Result.andThen]
  exact h
theorem bk_dig_eq (l m : List Nat) (W : World) : (binOp .eql 34 (.agg (digA l)) (.agg (digA m))).run Tryz.prog W = .ok (.bool (decide (Sha.sum l = Sha.sum m))) W := by
  have h := equal_row 34 32 Tryz.underlying34 (Sha.sum l) (Sha.sum m) (bk_dig l).1 (bk_dig m).1 W
  have e1 : ∀ z, digA z = rowV (bF (Sha.sum z)) 32 := fun _ => rfl
  rw [e1, e1]
  simp [binOp, Op.equal, Op.maxDepth, h, Result.andThen]
theorem bk_dig_ne (l m : List Nat) (W : World) : (binOp .neq 34 (.agg (digA l)) (.agg (digA m))).run Tryz.prog W = .ok (.bool (!decide (Sha.sum l = Sha.sum m))) W := by
  have h := equal_row 34 32 Tryz.underlying34 (Sha.sum l) (Sha.sum m) (bk_dig l).1 (bk_dig m).1 W
  have e1 : ∀ z, digA z = rowV (bF (Sha.sum z)) 32 := fun _ => rfl
  rw [e1, e1]
  simp [binOp, Op.equal, Op.maxDepth, h, Result.andThen]
theorem dig_range {w : World} {g : Nat} {t : TypeId} {l : List Nat} (h : w.heap[g]? = some (.cells (digA l) t (0, 0))) : w.rangeAt g 0 (digA l).toList := fun j v hv => by
  rw [Nat.zero_add]
  have h9 := blk_cell h j
  rw [h9]; simpa using hv
/-- bytes of a constant -/
theorem bk_conv_c (W : World) (cs : Array Value) (n : Nat) (hn : cs.size = n) : (convert 89 89 (.slice (some ⟨W.heap.size, 0, none⟩) n n)).run Tryz.prog (W.alloc (.cells cs 5)) = .ok (.slice (some ⟨W.heap.size, 0, none⟩) n n) (W.alloc (.cells cs 5 (n, n + 1))) := by
  subst hn
  exact Lib.run_convert_bytes_const W _ _ cs cs.size cs.size Tryz.underlying89 Tryz.underlying5
theorem bk_const_bs {W W' : World} {l : List Nat} {n : Nat} {z : Nat × Nat} (hl : l.length = n) (hn : n ≤ 1000) (hb : ∀ i, l.getD i 0 < 256) (h : Below (W.heap.size + 1) (W.alloc (.cells ((l.map fun x => Value.int .u8 ((x : Nat) : Int)).toArray) 5 z)) W') : BS W' W'.heap.size (some ⟨W.heap.size, 0, none⟩) n n l := by
  have hs : (W.alloc (.cells ((l.map fun x => Value.int .u8 ((x : Nat) : Int)).toArray) 5 z)).heap.size = W.heap.size + 1 := by simp
  have h2 := h.size
  rw [hs] at h2
  refine ⟨hl, by omega, by omega, hb, fun h0 => ⟨W.heap.size, 0, rfl, by omega, fun i hi => ?_⟩⟩
  rw [h.cell (p := ⟨W.heap.size, 0 + i, none⟩) (by show W.heap.size < W.heap.size + 1; omega), World.cell?_alloc_mark, Nat.zero_add]
  simp [List.getElem?_map, List.getElem?_eq_getElem (show i < l.length by omega), List.getD]
theorem bkT_first (t : List Nat) : bkT [] t = [t] := by unfold bkT; simp
theorem bkS_first (t : List Nat) : bkS [] [] t = [] := by unfold bkS atD; simp
theorem bkT_again (t : List Nat) : bkT [t] t = [t] := by unfold bkT; simp
theorem bkS_again (t : List Nat) : bkS [t] [] t = [] := by unfold bkS; simp
end
section
open Go.RowKit Go
set_option linter.unusedVariables false
set_option linter.unusedSimpArgs false
def sevL : List Nat := 7 :: List.replicate 31 0
theorem sev_dig : IsDig sevL := ⟨by simp [sevL], fun i => by
  unfold sevL
  cases i with
  | zero => decide
  | succ i =>
    rw [List.getD_eq_getElem?_getD, List.getElem?_cons_succ]
    by_cases h : i < 31
    · rw [List.getElem?_replicate, if_pos h]; simp
    · rw [List.getElem?_eq_none (by simp; omega)]; simp⟩
theorem thas_zero (T b n lb cap : Nat) (q : Nat → Nat) (F : Nat → Nat → List Nat) (w : World) (h : TrB w T b n 0 lb cap q F) :
    Calls Tryz.prog 28 #[.pointer (some ⟨T, 0, none⟩), .int .i64 0] w fun e w' => e = .returned (.bool true) ∧ w = w' := by
  have HL := Lib.hid (tlen_any T b n 0 lb cap q F w h)
  have hn := h.n1.1
  have hn2 : (0 : Int) < (n : Int) := by omega
  have hn3 : 0 < n := by omega
  clear h
  go_enter Tryz.func28, Tryz.ntmps28
  go_wp2_with fail
  refine HL.out.mono ?_
  rintro e w' ⟨rfl, rfl⟩
  go_wp2
  go_ret
  exact ⟨rfl, rfl⟩
set_option maxHeartbeats 1000000 in
set_option maxRecDepth 100000 in
theorem tpath_zero (T b n lb cap : Nat) (q : Nat → Nat) (F : Nat → Nat → List Nat) (w : World) (h : TrB w T b n 0 lb cap q F) :
    Calls Tryz.prog 13 #[.pointer (some ⟨T, 0, none⟩), .int .i64 0] w fun e w' => (∃ A, e = .returned (.slice A 0 0)) ∧ Below w.heap.size w w' := by
  have HH := Lib.hid (thas_zero T b n lb cap q F w h)
  have HD0 := Lib.hid (tdepth_any T b n 0 lb cap q F w h)
  rw [show ((0 : Nat) : Int) = 0 from rfl] at HD0
  obtain ⟨zc, _, hmk⟩ := make_rw 0 (by omega)
  rw [show ((0 : Nat) : Int) = 0 from rfl] at hmk
  obtain ⟨W0, hW0⟩ : ∃ W0, W0 = (w.alloc (.cells zc DgT)).alloc (.cells #[.int .i64 0, .int .i64 0] 61) := ⟨_, rfl⟩
  have hb0 : Below w.heap.size w W0 := by rw [hW0]; exact ((Below.refl _ _).alloc (Nat.le_refl _) _).alloc (by simp) _
  have HP6X : Hid (W0.heap[w.heap.size + 1]? = some (.cells #[.int .i64 0, .int .i64 0] 61 (0, 0))) := Lib.hid (by
    have := heap_alloc_new (w.alloc (.cells zc DgT)) (.cells #[.int .i64 0, .int .i64 0] 61)
    rw [show (w.alloc (.cells zc DgT)).heap.size = w.heap.size + 1 by simp] at this
    rw [hW0]; exact this)
  have HDP := Lib.hid (tdepth_any T b n 0 lb cap q F W0.drew (h.next hb0.drew))
  rw [show ((0 : Nat) : Int) = 0 from rfl] at HDP
  have HB0 := Lib.hid hb0
  have HW0 := Lib.hid hW0
  obtain ⟨p6, hp6⟩ : ∃ p, p = w.heap.size + 1 := ⟨_, rfl⟩
  have HP6E := Lib.hid hp6
  have HP6 : Hid (W0.drew.heap[p6]? = some (.cells #[.int .i64 0, .int .i64 0] 61 (0, 0))) := Lib.hid (by rw [hp6]; exact HP6X.out)
  clear h hb0 hW0 hp6
  go_enter Tryz.func13, Tryz.ntmps13
  go_wp2_with fail
  refine HH.out.mono ?_
  rintro e w' ⟨rfl, rfl⟩
  go_wp2_with fail
  refine HD0.out.mono ?_
  rintro e w' ⟨rfl, rfl⟩
  go_wp2_with fail
  rw [← HW0.out, ← HP6E.out]
  clear hmk
  go_loopg [5, 6] 1 (fun gk v5 v6 W => (∃ A, v5 = .slice A 0 0) ∧ v6 = .pointer (some ⟨p6, 0, none⟩) ∧ W = W0)
  case atStart => exact ⟨⟨_, rfl⟩, rfl, rfl⟩
  case round =>
    obtain ⟨⟨A5, rfl⟩, rfl, rfl⟩ := hrel
    go_upto_region 5 with (fail)
    refine wp_region_F (S := (fun W : World => W.heap[p6]? = some (.cells #[.int .i64 0, .int .i64 0] 61 (0, 0)))) [] (by kernel_rfl) (HP6.out) (fun hHeld => ?_)
    refine wpAnyF_take (i := 0) (oi := _) (v := ?_) rfl (by kernel_rfl) (by kernel_rfl) (by kernel_rfl) (by kernel_rfl) (fun _ _ _ h => h) (Or.inl ⟨by rfl, ?_⟩) (by assumption) ?_
    rotate_left 1
    · intro w hSw
      (try dsimp only at hSw)
      (first | (go_simp; done) | (go_simp; with_reducible rfl))
    (try simp only [Act.put, List.getElem_toArray, List.getElem_cons_succ, List.getElem_cons_zero, List.setIfInBounds_toArray, List.set_cons_zero, List.set_cons_succ])
    refine wpAnyF_take (i := 1) (oi := _) (v := _) rfl (by kernel_rfl) (by kernel_rfl) (by kernel_rfl) (by kernel_rfl) (fun _ _ _ h => h) (yields_cellP (by rfl) 3 (.tmp 16) rfl (p6) (0) rfl (.int .i64 0) _ (fun W h => blk_cell h 0) Tryz.underlying3 rfl) (by assumption) ?_
    (try simp only [Act.put, List.getElem_toArray, List.getElem_cons_succ, List.getElem_cons_zero, List.setIfInBounds_toArray, List.set_cons_zero, List.set_cons_succ])
    refine wpAnyF_take (i := 2) (oi := _) (v := ?_) rfl (by kernel_rfl) (by kernel_rfl) (by kernel_rfl) (by kernel_rfl) (fun _ _ _ h => h) (Or.inl ⟨by rfl, ?_⟩) (by assumption) ?_
    rotate_left 1
    · intro w hSw
      (try dsimp only at hSw)
      (first | (go_simp; done) | (go_simp; with_reducible rfl))
    (try simp only [Act.put, List.getElem_toArray, List.getElem_cons_succ, List.getElem_cons_zero, List.setIfInBounds_toArray, List.set_cons_zero, List.set_cons_succ])
    refine wpAnyF_ready (rs := [3]) (by kernel_rfl) (by simp) ?_
    refine AllReadyF.cons (o := _) rfl (fun K hK => ?_) AllReadyF.nil
    go_simp
    refine (HDP.out).mono ?_
    rintro e w6 ⟨rfl, rfl⟩
    refine hK.out _ _ (hHeld) (fun hHeld1 => ?_)
    clear hK K
    (try simp only [Act.put, List.getElem_toArray, List.getElem_cons_succ, List.getElem_cons_zero, List.setIfInBounds_toArray, List.set_cons_zero, List.set_cons_succ])
    refine wpAnyF_take (i := 4) (oi := _) (v := ?_) rfl (by kernel_rfl) (by kernel_rfl) (by kernel_rfl) (by kernel_rfl) (fun _ _ _ h => h) (Or.inl ⟨by rfl, ?_⟩) (by assumption) ?_
    rotate_left 1
    · intro w hSw
      (try dsimp only at hSw)
      (first | (go_simp; done) | (go_simp; with_reducible rfl))
    (try simp only [Act.put, List.getElem_toArray, List.getElem_cons_succ, List.getElem_cons_zero, List.setIfInBounds_toArray, List.set_cons_zero, List.set_cons_succ])
    refine wpAnyF_done (by kernel_rfl) ?_ _
    clear hHeld hHeld1
    have HBD := Lib.hid (HB0.out.drew)
    go_wp2_with fail
    go_ret
    exact ⟨⟨_, rfl⟩, HBD.out⟩
set_option maxHeartbeats 4000000 in
set_option maxRecDepth 100000 in
theorem awake12_any (w : World) : Calls Tryz.prog 8 #[] w fun e w' => e = .returned (.bool true) ∧ Below w.heap.size w w' := by
  have hz := zero32
  go_enter Tryz.func8, Tryz.ntmps8
  go_wp2_with fail
  refine (book12_any _).mono ?_
  rintro e w1 ⟨b, g, S, rfl, hbk, hS, hb1⟩
  have HBK := Lib.hid hbk
  have HS := Lib.hid hS
  have HB1 := Lib.hid hb1
  clear hbk hS hb1
  go_wp2_with fail
  have hsev : (#[.int .u8 7, .int .u8 0, .int .u8 0, .int .u8 0, .int .u8 0, .int .u8 0, .int .u8 0, .int .u8 0, .int .u8 0, .int .u8 0, .int .u8 0, .int .u8 0, .int .u8 0, .int .u8 0, .int .u8 0, .int .u8 0, .int .u8 0, .int .u8 0, .int .u8 0, .int .u8 0, .int .u8 0, .int .u8 0, .int .u8 0, .int .u8 0, .int .u8 0, .int .u8 0, .int .u8 0, .int .u8 0, .int .u8 0, .int .u8 0, .int .u8 0, .int .u8 0] : Array Value) = dA sevL := by kernel_rfl
  have HSEV := Lib.hid hsev
  rw [hsev]
  obtain ⟨W2, hW2⟩ : ∃ W2, W2 = w1.alloc (.cells (dA sevL) 34) := ⟨_, rfl⟩
  have hb2 : Below w1.heap.size w1 W2 := by rw [hW2]; exact (Below.refl _ _).alloc (Nat.le_refl _) _
  have hds : DgS W2 (some ⟨w1.heap.size, 0, none⟩) 1 (fun _ => sevL) := ⟨fun _ => ⟨w1.heap.size, 0, rfl, by rw [hW2]; simp, fun k hk => by
    obtain rfl : k = 0 := by omega
    intro j v hv
    have hn := heap_alloc_new w1 (.cells (dA sevL) 34)
    rw [← hW2] at hn
    rw [show 0 + 0 * 32 + j = j by omega, blk_cell hn j]
    simpa using hv⟩, fun _ => sev_dig⟩
  have HNEW := Lib.hid (tnew_any b g 1 1 _ (fun _ => sevL) S [] [] W2 (HBK.out.below hb2) hds (by omega) (by omega) (by omega))
  have HB2 : Hid (Below w.heap.size w W2) := Lib.hid (HB1.out.trans (hb2.mono HB1.out.size))
  rw [← hW2]
  clear hb2 hds hW2 hsev
  refine HNEW.out.mono ?_
  rintro e W6 ⟨T, lb, cap, q, F, S', Tx, sh, rfl, htr, hrr, hf0, hbk6, hs6, hap6, ht6⟩
  have hd1 : dpt 1 = 0 := rfl
  rw [hd1] at htr hap6 hf0
  have hF : F 0 0 = sevL := by rw [hf0 0 (by omega)]; rfl
  have hb6 : Below w.heap.size w W6 := HB2.out.trans (ht6.below HB2.out.size (fun j hj => HS.out j hj))
  obtain ⟨W7, hW7⟩ : ∃ W7, W7 = W6.alloc (.cells #[Value.int .u8 7, .int .u8 0, .int .u8 0, .int .u8 0, .int .u8 0, .int .u8 0, .int .u8 0, .int .u8 0, .int .u8 0, .int .u8 0, .int .u8 0, .int .u8 0, .int .u8 0, .int .u8 0, .int .u8 0, .int .u8 0, .int .u8 0, .int .u8 0, .int .u8 0, .int .u8 0, .int .u8 0, .int .u8 0, .int .u8 0, .int .u8 0, .int .u8 0, .int .u8 0, .int .u8 0, .int .u8 0, .int .u8 0, .int .u8 0, .int .u8 0, .int .u8 0] 33) := ⟨_, rfl⟩
  have hb7 : Below W6.heap.size W6 W7 := by rw [hW7]; exact (Below.refl _ _).alloc (Nat.le_refl _) _
  have htr7 := htr.next hb7
  have hbk7 := hbk6.below hb7
  have HTR := Lib.hid htr7
  have HROOT := Lib.hid (fun W (hW : Below W7.heap.size W7 W) => troot_m T b g 1 0 lb cap q F S' Tx sh W (htr7.next hW) (hbk7.below hW) (hap6 T (.inl rfl)).1 (by omega))
  have HS2 : Hid (∀ j, S' j → w.heap.size ≤ j) := Lib.hid (fun j hj => by
    rcases hs6 j hj with x | x
    · exact HS.out j x
    · have := HB2.out.size; omega)
  have HAPT : Hid (∀ j, trS T lb 0 q j → ¬ S' j) := Lib.hid (fun j hj => (hap6 j hj).1)
  have HBW7 : Hid (Below w.heap.size w W7) := Lib.hid (hb6.trans (hb7.mono hb6.size))
  obtain ⟨p4, hp4⟩ : ∃ p, p = W6.heap.size := ⟨_, rfl⟩
  have HP4 : Hid (W7.drew.heap[p4]? = some (.cells #[Value.int .u8 7, .int .u8 0, .int .u8 0, .int .u8 0, .int .u8 0, .int .u8 0, .int .u8 0, .int .u8 0, .int .u8 0, .int .u8 0, .int .u8 0, .int .u8 0, .int .u8 0, .int .u8 0, .int .u8 0, .int .u8 0, .int .u8 0, .int .u8 0, .int .u8 0, .int .u8 0, .int .u8 0, .int .u8 0, .int .u8 0, .int .u8 0, .int .u8 0, .int .u8 0, .int .u8 0, .int .u8 0, .int .u8 0, .int .u8 0, .int .u8 0, .int .u8 0] 33 (0, 0))) := Lib.hid (by show W7.heap[p4]? = _; rw [hW7, hp4]; exact heap_alloc_new W6 _)
  have HNP : Hid (¬ S' p4) := Lib.hid (fun x => by have := hbk6.sub x; omega)
  have HNW7 : Hid (¬ S' W7.heap.size) := Lib.hid (fun x => by have := hbk7.sub x; omega)
  have HF0 := Lib.hid hF
  obtain ⟨da, hda⟩ : ∃ da, da = digA (txt 2 [putL 4 1, sevL]) := ⟨_, rfl⟩
  have HDA := Lib.hid hda
  have hda2 : da = digA (txt 2 [putL 4 1, treeAt (mixX 1 (fun _ => sevL)) (dpt 1) 0]) := hda
  have HDA2 := Lib.hid hda2
  have HEQ : Hid (∀ W, (binOp .eql 34 (.agg da) (.agg da)).run Tryz.prog W = .ok (.bool true) W) := Lib.hid (fun W => by rw [hda, bk_dig_eq]; simp)
  have HRR := Lib.hid (fun (W : World) (p : Nat) (hp : W.heap[p]? = some (.cells (dA sevL) 33 (0, 0))) => rroot_any 1 1 (some ⟨p, 0, none⟩) (fun _ => sevL) (by omega) (by omega) (by omega) W ⟨fun _ => ⟨p, 0, rfl, blk_lt hp, fun k hk => by
    obtain rfl : k = 0 := by omega
    intro j v hv
    rw [show 0 + 0 * 32 + j = j by omega, blk_cell hp j]
    simpa using hv⟩, fun _ => sev_dig⟩)
  have HSET : Hid ((zeros 32).setIfInBounds 0 (Value.int .u8 7) = #[Value.int .u8 7, .int .u8 0, .int .u8 0, .int .u8 0, .int .u8 0, .int .u8 0, .int .u8 0, .int .u8 0, .int .u8 0, .int .u8 0, .int .u8 0, .int .u8 0, .int .u8 0, .int .u8 0, .int .u8 0, .int .u8 0, .int .u8 0, .int .u8 0, .int .u8 0, .int .u8 0, .int .u8 0, .int .u8 0, .int .u8 0, .int .u8 0, .int .u8 0, .int .u8 0, .int .u8 0, .int .u8 0, .int .u8 0, .int .u8 0, .int .u8 0, .int .u8 0]) := Lib.hid (by kernel_rfl)
  have HW7 := Lib.hid hW7
  have HPE := Lib.hid hp4
  clear htr hrr hf0 hbk6 hs6 hap6 ht6 hd1 hF hb6 hW7 hb7 htr7 hbk7 hp4 hda hda2
  go_upto_region 5 with (fail)
  rw [HSET.out, ← HW7.out, ← HPE.out]
  refine wp_region_F (S := (fun W : World => W.heap[p4]? = some (.cells #[Value.int .u8 7, .int .u8 0, .int .u8 0, .int .u8 0, .int .u8 0, .int .u8 0, .int .u8 0, .int .u8 0, .int .u8 0, .int .u8 0, .int .u8 0, .int .u8 0, .int .u8 0, .int .u8 0, .int .u8 0, .int .u8 0, .int .u8 0, .int .u8 0, .int .u8 0, .int .u8 0, .int .u8 0, .int .u8 0, .int .u8 0, .int .u8 0, .int .u8 0, .int .u8 0, .int .u8 0, .int .u8 0, .int .u8 0, .int .u8 0, .int .u8 0, .int .u8 0] 33 (0, 0)))) [] (by kernel_rfl) (HP4.out) (fun hHeld => ?_)
  refine wpAnyF_take (i := 0) (oi := _) (v := ?_) rfl (by kernel_rfl) (by kernel_rfl) (by kernel_rfl) (by kernel_rfl) (fun _ _ _ h => h) (Or.inl ⟨by rfl, ?_⟩) (by assumption) ?_
  rotate_left 1
  · intro w hSw
    (try dsimp only at hSw)
    (first | (go_simp; done) | (go_simp; with_reducible rfl))
  (try simp only [Act.put, List.getElem_toArray, List.getElem_cons_succ, List.getElem_cons_zero, List.setIfInBounds_toArray, List.set_cons_zero, List.set_cons_succ])
  refine wpAnyF_take (i := 1) (oi := _) (v := ?_) rfl (by kernel_rfl) (by kernel_rfl) (by kernel_rfl) (by kernel_rfl) (fun _ _ _ h => h) (Or.inl ⟨by rfl, ?_⟩) (by assumption) ?_
  rotate_left 1
  · intro w hSw
    (try dsimp only at hSw)
    (first | (go_simp; done) | (go_simp; with_reducible rfl))
  (try simp only [Act.put, List.getElem_toArray, List.getElem_cons_succ, List.getElem_cons_zero, List.setIfInBounds_toArray, List.set_cons_zero, List.set_cons_succ])
  refine wpAnyF_take (i := 2) (oi := _) (v := ?_) rfl (by kernel_rfl) (by kernel_rfl) (by kernel_rfl) (by kernel_rfl) (fun _ _ _ h => h) (Or.inl ⟨by rfl, ?_⟩) (by assumption) ?_
  rotate_left 1
  · intro w hSw
    (try dsimp only at hSw)
    (first | (go_simp; done) | (go_simp; with_reducible rfl))
  (try simp only [Act.put, List.getElem_toArray, List.getElem_cons_succ, List.getElem_cons_zero, List.setIfInBounds_toArray, List.set_cons_zero, List.set_cons_succ])
  refine wpAnyF_take (i := 3) (oi := _) (v := ?_) rfl (by kernel_rfl) (by kernel_rfl) (by kernel_rfl) (by kernel_rfl) (fun _ _ _ h => h) (Or.inl ⟨by rfl, ?_⟩) (by assumption) ?_
  rotate_left 1
  · intro w hSw
    (try dsimp only at hSw)
    (first | (go_simp; done) | (go_simp; with_reducible rfl))
  (try simp only [Act.put, List.getElem_toArray, List.getElem_cons_succ, List.getElem_cons_zero, List.setIfInBounds_toArray, List.set_cons_zero, List.set_cons_succ])
  refine wpAnyF_take (i := 5) (oi := _) (v := _) rfl (by kernel_rfl) (by kernel_rfl) (by kernel_rfl) (by kernel_rfl) (fun _ _ _ h => h) (yields_rowP (by with_unfolding_all rfl) 33 (.tmp 4) rfl p4 0 rfl #[Value.int .u8 7, .int .u8 0, .int .u8 0, .int .u8 0, .int .u8 0, .int .u8 0, .int .u8 0, .int .u8 0, .int .u8 0, .int .u8 0, .int .u8 0, .int .u8 0, .int .u8 0, .int .u8 0, .int .u8 0, .int .u8 0, .int .u8 0, .int .u8 0, .int .u8 0, .int .u8 0, .int .u8 0, .int .u8 0, .int .u8 0, .int .u8 0, .int .u8 0, .int .u8 0, .int .u8 0, .int .u8 0, .int .u8 0, .int .u8 0, .int .u8 0, .int .u8 0] _ (fun W h j v hv => by rw [Nat.zero_add, blk_cell h j]; simpa using hv) Tryz.underlying33 rfl (by kernel_rfl)) (by assumption) ?_
  (try simp only [Act.put, List.getElem_toArray, List.getElem_cons_succ, List.getElem_cons_zero, List.setIfInBounds_toArray, List.set_cons_zero, List.set_cons_succ])
  refine wpAnyF_ready (rs := [4, 6]) (by kernel_rfl) (by simp) ?_
  refine AllReadyF.cons (o := _) rfl (fun K hK => ?_) (AllReadyF.cons (o := _) rfl (fun K hK => ?_) AllReadyF.nil)
  · go_simp
    refine (HROOT.out _ (Below.refl _ _).drew).mono ?_
    intro e w9 hsum
    have HT9 := Lib.hid hsum.2.1
    have he := hsum.1
    subst he
    rw [HF0.out, ← HDA.out]
    clear hsum
    have HBW9 : Hid (Below w.heap.size w w9) := Lib.hid (HBW7.out.drew.trans (Turns.below HT9.out HBW7.out.size HS2.out))
    refine hK.out _ _ ((HT9.out.block _ (blk_lt HP4.out) HNP.out).trans HP4.out) (fun hHeld4 => ?_)
    clear hK K
    (try simp only [Act.put, List.getElem_toArray, List.getElem_cons_succ, List.getElem_cons_zero, List.setIfInBounds_toArray, List.set_cons_zero, List.set_cons_succ])
    refine wpAnyF_ready (rs := [6]) (by kernel_rfl) (by simp) ?_
    refine AllReadyF.cons (o := _) rfl (fun K hK => ?_) AllReadyF.nil
    go_simp
    (try rw [HSEV.out])
    refine hK.out _ _ (blk_alloc hHeld4 _) (fun hHeld6 => ?_)
    clear hK K
    (try simp only [Act.put, List.getElem_toArray, List.getElem_cons_succ, List.getElem_cons_zero, List.setIfInBounds_toArray, List.set_cons_zero, List.set_cons_succ])
    refine wpAnyF_ready (rs := [7]) (by kernel_rfl) (by simp) ?_
    refine AllReadyF.cons (o := _) rfl (fun K hK => ?_) AllReadyF.nil
    go_simp
    have hb10 : Below w9.heap.size w9 (w9.alloc (.cells (dA sevL) 33)) := (Below.refl _ _).alloc (Nat.le_refl _) _
    have hn10 := heap_alloc_new w9 (.cells (dA sevL) 33)
    refine (HRR.out _ _ hn10).mono ?_
    rintro e w8 ⟨rfl, hb8⟩
    have HTR9 : Hid (TrB w8 T b 1 0 lb cap q F) := Lib.hid ((((HTR.out.next (Below.refl _ _).drew).keep HT9.out HAPT.out).next hb10).next hb8)
    have HBW8 : Hid (Below w.heap.size w w8) := Lib.hid ((HBW9.out.trans (hb10.mono HBW9.out.size)).trans (hb8.mono (Nat.le_trans HBW9.out.size hb10.size)))
    have HH8 : Hid (w8.heap[p4]? = some (.cells #[Value.int .u8 7, .int .u8 0, .int .u8 0, .int .u8 0, .int .u8 0, .int .u8 0, .int .u8 0, .int .u8 0, .int .u8 0, .int .u8 0, .int .u8 0, .int .u8 0, .int .u8 0, .int .u8 0, .int .u8 0, .int .u8 0, .int .u8 0, .int .u8 0, .int .u8 0, .int .u8 0, .int .u8 0, .int .u8 0, .int .u8 0, .int .u8 0, .int .u8 0, .int .u8 0, .int .u8 0, .int .u8 0, .int .u8 0, .int .u8 0, .int .u8 0, .int .u8 0] 33 (0, 0))) := Lib.hid ((hb8.block _ (blk_lt hHeld6)).trans hHeld6)
    rw [← HDA2.out]
    clear hb10 hn10 hb8 hHeld4 hHeld6
    refine hK.out _ _ (HH8.out) (fun hHeld8 => ?_)
    clear hK K
    (try simp only [Act.put, List.getElem_toArray, List.getElem_cons_succ, List.getElem_cons_zero, List.setIfInBounds_toArray, List.set_cons_zero, List.set_cons_succ])
    refine wpAnyF_take (i := 8) (oi := _) (v := _) rfl (by kernel_rfl) (by kernel_rfl) (by kernel_rfl) (by kernel_rfl) (fun _ _ _ h => h) (.inl ⟨by with_unfolding_all rfl, fun w h => exec_bin .eql 34 34 (.tmp 18) (.tmp 21) rfl (.agg da) (.agg da) (.bool true) rfl rfl (bk_guard _ _ _ _ _) (HEQ.out w)⟩) (by assumption) ?_
    (try simp only [Act.put, List.getElem_toArray, List.getElem_cons_succ, List.getElem_cons_zero, List.setIfInBounds_toArray, List.set_cons_zero, List.set_cons_succ])
    refine wpAnyF_take (i := 9) (oi := _) (v := ?_) rfl (by kernel_rfl) (by kernel_rfl) (by kernel_rfl) (by kernel_rfl) (fun _ _ _ h => h) (Or.inl ⟨by rfl, ?_⟩) (by assumption) ?_
    rotate_left 1
    · intro w hSw
      (try dsimp only at hSw)
      (first | (go_simp; done) | (go_simp; with_reducible rfl))
    (try simp only [Act.put, List.getElem_toArray, List.getElem_cons_succ, List.getElem_cons_zero, List.setIfInBounds_toArray, List.set_cons_zero, List.set_cons_succ])
    refine wpAnyF_take (i := 10) (oi := _) (v := ?_) rfl (by kernel_rfl) (by kernel_rfl) (by kernel_rfl) (by kernel_rfl) (fun _ _ _ h => h) (Or.inl ⟨by rfl, ?_⟩) (by assumption) ?_
    rotate_left 1
    · intro w hSw
      (try dsimp only at hSw)
      (first | (go_simp; done) | (go_simp; with_reducible rfl))
    (try simp only [Act.put, List.getElem_toArray, List.getElem_cons_succ, List.getElem_cons_zero, List.setIfInBounds_toArray, List.set_cons_zero, List.set_cons_succ])
    refine wpAnyF_take (i := 11) (oi := _) (v := ?_) rfl (by kernel_rfl) (by kernel_rfl) (by kernel_rfl) (by kernel_rfl) (fun _ _ _ h => h) (Or.inl ⟨by rfl, ?_⟩) (by assumption) ?_
    rotate_left 1
    · intro w hSw
      (try dsimp only at hSw)
      (first | (go_simp; done) | (go_simp; with_reducible rfl))
    (try simp only [Act.put, List.getElem_toArray, List.getElem_cons_succ, List.getElem_cons_zero, List.setIfInBounds_toArray, List.set_cons_zero, List.set_cons_succ])
    refine wpAnyF_ready (rs := [12]) (by kernel_rfl) (by simp) ?_
    refine AllReadyF.cons (o := _) rfl (fun K hK => ?_) AllReadyF.nil
    go_simp
    refine (tlen_any T b 1 0 lb cap q F _ HTR9.out).mono ?_
    rintro e w10 ⟨rfl, rfl⟩
    refine hK.out _ _ (hHeld8) (fun hHeld12 => ?_)
    clear hK K
    (try simp only [Act.put, List.getElem_toArray, List.getElem_cons_succ, List.getElem_cons_zero, List.setIfInBounds_toArray, List.set_cons_zero, List.set_cons_succ])
    refine wpAnyF_take (i := 13) (oi := _) (v := ?_) rfl (by kernel_rfl) (by kernel_rfl) (by kernel_rfl) (by kernel_rfl) (fun _ _ _ h => h) (Or.inl ⟨by rfl, ?_⟩) (by assumption) ?_
    rotate_left 1
    · intro w hSw
      (try dsimp only at hSw)
      (first | (go_simp; done) | (go_simp; with_reducible rfl))
    (try simp only [Act.put, List.getElem_toArray, List.getElem_cons_succ, List.getElem_cons_zero, List.setIfInBounds_toArray, List.set_cons_zero, List.set_cons_succ])
    refine wpAnyF_take (i := 14) (oi := _) (v := ?_) rfl (by kernel_rfl) (by kernel_rfl) (by kernel_rfl) (by kernel_rfl) (fun _ _ _ h => h) (Or.inl ⟨by rfl, ?_⟩) (by assumption) ?_
    rotate_left 1
    · intro w hSw
      (try dsimp only at hSw)
      (first | (go_simp; done) | (go_simp; with_reducible rfl))
    (try simp only [Act.put, List.getElem_toArray, List.getElem_cons_succ, List.getElem_cons_zero, List.setIfInBounds_toArray, List.set_cons_zero, List.set_cons_succ])
    refine wpAnyF_take (i := 15) (oi := _) (v := ?_) rfl (by kernel_rfl) (by kernel_rfl) (by kernel_rfl) (by kernel_rfl) (fun _ _ _ h => h) (Or.inl ⟨by rfl, ?_⟩) (by assumption) ?_
    rotate_left 1
    · intro w hSw
      (try dsimp only at hSw)
      (first | (go_simp; done) | (go_simp; with_reducible rfl))
    (try simp only [Act.put, List.getElem_toArray, List.getElem_cons_succ, List.getElem_cons_zero, List.setIfInBounds_toArray, List.set_cons_zero, List.set_cons_succ])
    refine wpAnyF_take (i := 16) (oi := _) (v := ?_) rfl (by kernel_rfl) (by kernel_rfl) (by kernel_rfl) (by kernel_rfl) (fun _ _ _ h => h) (Or.inl ⟨by rfl, ?_⟩) (by assumption) ?_
    rotate_left 1
    · intro w hSw
      (try dsimp only at hSw)
      (first | (go_simp; done) | (go_simp; with_reducible rfl))
    (try simp only [Act.put, List.getElem_toArray, List.getElem_cons_succ, List.getElem_cons_zero, List.setIfInBounds_toArray, List.set_cons_zero, List.set_cons_succ])
    refine wpAnyF_ready (rs := [17]) (by kernel_rfl) (by simp) ?_
    refine AllReadyF.cons (o := _) rfl (fun K hK => ?_) AllReadyF.nil
    go_simp
    refine (tpath_zero T b 1 lb cap q F _ HTR9.out).mono ?_
    rintro e w11 ⟨⟨A11, rfl⟩, hb11⟩
    have HB11 := Lib.hid hb11
    clear hb11
    refine hK.out _ _ ((HB11.out.block _ (blk_lt hHeld12)).trans hHeld12) (fun hHeld17 => ?_)
    clear hK K
    (try simp only [Act.put, List.getElem_toArray, List.getElem_cons_succ, List.getElem_cons_zero, List.setIfInBounds_toArray, List.set_cons_zero, List.set_cons_succ])
    refine wpAnyF_take (i := 18) (oi := _) (v := ?_) rfl (by kernel_rfl) (by kernel_rfl) (by kernel_rfl) (by kernel_rfl) (fun _ _ _ h => h) (Or.inl ⟨by rfl, ?_⟩) (by assumption) ?_
    rotate_left 1
    · intro w hSw
      (try dsimp only at hSw)
      (first | (go_simp; done) | (go_simp; with_reducible rfl))
    (try simp only [Act.put, List.getElem_toArray, List.getElem_cons_succ, List.getElem_cons_zero, List.setIfInBounds_toArray, List.set_cons_zero, List.set_cons_succ])
    refine wpAnyF_take (i := 19) (oi := _) (v := ?_) rfl (by kernel_rfl) (by kernel_rfl) (by kernel_rfl) (by kernel_rfl) (fun _ _ _ h => h) (Or.inl ⟨by rfl, ?_⟩) (by assumption) ?_
    rotate_left 1
    · intro w hSw
      (try dsimp only at hSw)
      (first | (go_simp; done) | (go_simp; with_reducible rfl))
    (try simp only [Act.put, List.getElem_toArray, List.getElem_cons_succ, List.getElem_cons_zero, List.setIfInBounds_toArray, List.set_cons_zero, List.set_cons_succ])
    refine wpAnyF_take (i := 20) (oi := _) (v := ?_) rfl (by kernel_rfl) (by kernel_rfl) (by kernel_rfl) (by kernel_rfl) (fun _ _ _ h => h) (Or.inl ⟨by rfl, ?_⟩) (by assumption) ?_
    rotate_left 1
    · intro w hSw
      (try dsimp only at hSw)
      (first | (go_simp; done) | (go_simp; with_reducible rfl))
    (try simp only [Act.put, List.getElem_toArray, List.getElem_cons_succ, List.getElem_cons_zero, List.setIfInBounds_toArray, List.set_cons_zero, List.set_cons_succ])
    refine wpAnyF_take (i := 21) (oi := _) (v := ?_) rfl (by kernel_rfl) (by kernel_rfl) (by kernel_rfl) (by kernel_rfl) (fun _ _ _ h => h) (Or.inl ⟨by rfl, ?_⟩) (by assumption) ?_
    rotate_left 1
    · intro w hSw
      (try dsimp only at hSw)
      (first | (go_simp; done) | (go_simp; with_reducible rfl))
    (try simp only [Act.put, List.getElem_toArray, List.getElem_cons_succ, List.getElem_cons_zero, List.setIfInBounds_toArray, List.set_cons_zero, List.set_cons_succ])
    refine wpAnyF_done (by kernel_rfl) ?_ _
    have HFIN := Lib.hid (HBW8.out.trans (HB11.out.mono HBW8.out.size))
    clear hHeld hHeld8 hHeld12 hHeld17
    go_wp2_with fail
    go_ret
    exact ⟨rfl, HFIN.out⟩
  · go_simp
    (try rw [HSEV.out])
    refine hK.out _ _ (blk_alloc HP4.out _) (fun hHeld6 => ?_)
    clear hK K
    (try simp only [Act.put, List.getElem_toArray, List.getElem_cons_succ, List.getElem_cons_zero, List.setIfInBounds_toArray, List.set_cons_zero, List.set_cons_succ])
    refine wpAnyF_ready (rs := [4]) (by kernel_rfl) (by simp) ?_
    refine AllReadyF.cons (o := _) rfl (fun K hK => ?_) AllReadyF.nil
    go_simp
    have hbA : Below W7.heap.size W7 (W7.alloc (.cells (dA sevL) 33)).drew := ((Below.refl _ _).alloc (Nat.le_refl _) _).drew
    have hnA : (W7.alloc (.cells (dA sevL) 33)).drew.heap[W7.heap.size]? = some (.cells (dA sevL) 33 (0, 0)) := heap_alloc_new W7 _
    have HNA := Lib.hid hnA
    have HBA := Lib.hid hbA
    refine (HROOT.out _ hbA).mono ?_
    intro e w9 hsum
    clear hnA hbA
    have HT9 := Lib.hid hsum.2.1
    have he := hsum.1
    subst he
    rw [HF0.out, ← HDA.out]
    clear hsum
    have HBW9 : Hid (Below w.heap.size w w9) := Lib.hid ((HBW7.out.trans (HBA.out.mono HBW7.out.size)).trans (Turns.below HT9.out (Nat.le_trans HBW7.out.size HBA.out.size) HS2.out))
    have HP9 : Hid (w9.heap[p4]? = some (.cells #[Value.int .u8 7, .int .u8 0, .int .u8 0, .int .u8 0, .int .u8 0, .int .u8 0, .int .u8 0, .int .u8 0, .int .u8 0, .int .u8 0, .int .u8 0, .int .u8 0, .int .u8 0, .int .u8 0, .int .u8 0, .int .u8 0, .int .u8 0, .int .u8 0, .int .u8 0, .int .u8 0, .int .u8 0, .int .u8 0, .int .u8 0, .int .u8 0, .int .u8 0, .int .u8 0, .int .u8 0, .int .u8 0, .int .u8 0, .int .u8 0, .int .u8 0, .int .u8 0] 33 (0, 0))) := Lib.hid ((HT9.out.block _ (blk_lt hHeld6) HNP.out).trans hHeld6)
    have HN9 : Hid (w9.heap[W7.heap.size]? = some (.cells (dA sevL) 33 (0, 0))) := Lib.hid ((HT9.out.block _ (blk_lt HNA.out) HNW7.out).trans HNA.out)
    refine hK.out _ _ (HP9.out) (fun hHeld4 => ?_)
    clear hK K
    (try simp only [Act.put, List.getElem_toArray, List.getElem_cons_succ, List.getElem_cons_zero, List.setIfInBounds_toArray, List.set_cons_zero, List.set_cons_succ])
    refine wpAnyF_ready (rs := [7]) (by kernel_rfl) (by simp) ?_
    refine AllReadyF.cons (o := _) rfl (fun K hK => ?_) AllReadyF.nil
    go_simp
    refine (HRR.out _ _ HN9.out).mono ?_
    rintro e w8 ⟨rfl, hb8⟩
    have HTR9 : Hid (TrB w8 T b 1 0 lb cap q F) := Lib.hid (((HTR.out.next HBA.out).keep HT9.out HAPT.out).next hb8)
    have HBW8 : Hid (Below w.heap.size w w8) := Lib.hid (HBW9.out.trans (hb8.mono HBW9.out.size))
    have HH8 : Hid (w8.heap[p4]? = some (.cells #[Value.int .u8 7, .int .u8 0, .int .u8 0, .int .u8 0, .int .u8 0, .int .u8 0, .int .u8 0, .int .u8 0, .int .u8 0, .int .u8 0, .int .u8 0, .int .u8 0, .int .u8 0, .int .u8 0, .int .u8 0, .int .u8 0, .int .u8 0, .int .u8 0, .int .u8 0, .int .u8 0, .int .u8 0, .int .u8 0, .int .u8 0, .int .u8 0, .int .u8 0, .int .u8 0, .int .u8 0, .int .u8 0, .int .u8 0, .int .u8 0, .int .u8 0, .int .u8 0] 33 (0, 0))) := Lib.hid ((hb8.block _ (blk_lt HP9.out)).trans HP9.out)
    rw [← HDA2.out]
    clear hb8 hHeld4 hHeld6
    refine hK.out _ _ (HH8.out) (fun hHeld8 => ?_)
    clear hK K
    (try simp only [Act.put, List.getElem_toArray, List.getElem_cons_succ, List.getElem_cons_zero, List.setIfInBounds_toArray, List.set_cons_zero, List.set_cons_succ])
    refine wpAnyF_take (i := 8) (oi := _) (v := _) rfl (by kernel_rfl) (by kernel_rfl) (by kernel_rfl) (by kernel_rfl) (fun _ _ _ h => h) (.inl ⟨by with_unfolding_all rfl, fun w h => exec_bin .eql 34 34 (.tmp 18) (.tmp 21) rfl (.agg da) (.agg da) (.bool true) rfl rfl (bk_guard _ _ _ _ _) (HEQ.out w)⟩) (by assumption) ?_
    (try simp only [Act.put, List.getElem_toArray, List.getElem_cons_succ, List.getElem_cons_zero, List.setIfInBounds_toArray, List.set_cons_zero, List.set_cons_succ])
    refine wpAnyF_take (i := 9) (oi := _) (v := ?_) rfl (by kernel_rfl) (by kernel_rfl) (by kernel_rfl) (by kernel_rfl) (fun _ _ _ h => h) (Or.inl ⟨by rfl, ?_⟩) (by assumption) ?_
    rotate_left 1
    · intro w hSw
      (try dsimp only at hSw)
      (first | (go_simp; done) | (go_simp; with_reducible rfl))
    (try simp only [Act.put, List.getElem_toArray, List.getElem_cons_succ, List.getElem_cons_zero, List.setIfInBounds_toArray, List.set_cons_zero, List.set_cons_succ])
    refine wpAnyF_take (i := 10) (oi := _) (v := ?_) rfl (by kernel_rfl) (by kernel_rfl) (by kernel_rfl) (by kernel_rfl) (fun _ _ _ h => h) (Or.inl ⟨by rfl, ?_⟩) (by assumption) ?_
    rotate_left 1
    · intro w hSw
      (try dsimp only at hSw)
      (first | (go_simp; done) | (go_simp; with_reducible rfl))
    (try simp only [Act.put, List.getElem_toArray, List.getElem_cons_succ, List.getElem_cons_zero, List.setIfInBounds_toArray, List.set_cons_zero, List.set_cons_succ])
    refine wpAnyF_take (i := 11) (oi := _) (v := ?_) rfl (by kernel_rfl) (by kernel_rfl) (by kernel_rfl) (by kernel_rfl) (fun _ _ _ h => h) (Or.inl ⟨by rfl, ?_⟩) (by assumption) ?_
    rotate_left 1
    · intro w hSw
      (try dsimp only at hSw)
      (first | (go_simp; done) | (go_simp; with_reducible rfl))
    (try simp only [Act.put, List.getElem_toArray, List.getElem_cons_succ, List.getElem_cons_zero, List.setIfInBounds_toArray, List.set_cons_zero, List.set_cons_succ])
    refine wpAnyF_ready (rs := [12]) (by kernel_rfl) (by simp) ?_
    refine AllReadyF.cons (o := _) rfl (fun K hK => ?_) AllReadyF.nil
    go_simp
    refine (tlen_any T b 1 0 lb cap q F _ HTR9.out).mono ?_
    rintro e w10 ⟨rfl, rfl⟩
    refine hK.out _ _ (hHeld8) (fun hHeld12 => ?_)
    clear hK K
    (try simp only [Act.put, List.getElem_toArray, List.getElem_cons_succ, List.getElem_cons_zero, List.setIfInBounds_toArray, List.set_cons_zero, List.set_cons_succ])
    refine wpAnyF_take (i := 13) (oi := _) (v := ?_) rfl (by kernel_rfl) (by kernel_rfl) (by kernel_rfl) (by kernel_rfl) (fun _ _ _ h => h) (Or.inl ⟨by rfl, ?_⟩) (by assumption) ?_
    rotate_left 1
    · intro w hSw
      (try dsimp only at hSw)
      (first | (go_simp; done) | (go_simp; with_reducible rfl))
    (try simp only [Act.put, List.getElem_toArray, List.getElem_cons_succ, List.getElem_cons_zero, List.setIfInBounds_toArray, List.set_cons_zero, List.set_cons_succ])
    refine wpAnyF_take (i := 14) (oi := _) (v := ?_) rfl (by kernel_rfl) (by kernel_rfl) (by kernel_rfl) (by kernel_rfl) (fun _ _ _ h => h) (Or.inl ⟨by rfl, ?_⟩) (by assumption) ?_
    rotate_left 1
    · intro w hSw
      (try dsimp only at hSw)
      (first | (go_simp; done) | (go_simp; with_reducible rfl))
    (try simp only [Act.put, List.getElem_toArray, List.getElem_cons_succ, List.getElem_cons_zero, List.setIfInBounds_toArray, List.set_cons_zero, List.set_cons_succ])
    refine wpAnyF_take (i := 15) (oi := _) (v := ?_) rfl (by kernel_rfl) (by kernel_rfl) (by kernel_rfl) (by kernel_rfl) (fun _ _ _ h => h) (Or.inl ⟨by rfl, ?_⟩) (by assumption) ?_
    rotate_left 1
    · intro w hSw
      (try dsimp only at hSw)
      (first | (go_simp; done) | (go_simp; with_reducible rfl))
    (try simp only [Act.put, List.getElem_toArray, List.getElem_cons_succ, List.getElem_cons_zero, List.setIfInBounds_toArray, List.set_cons_zero, List.set_cons_succ])
    refine wpAnyF_take (i := 16) (oi := _) (v := ?_) rfl (by kernel_rfl) (by kernel_rfl) (by kernel_rfl) (by kernel_rfl) (fun _ _ _ h => h) (Or.inl ⟨by rfl, ?_⟩) (by assumption) ?_
    rotate_left 1
    · intro w hSw
      (try dsimp only at hSw)
      (first | (go_simp; done) | (go_simp; with_reducible rfl))
    (try simp only [Act.put, List.getElem_toArray, List.getElem_cons_succ, List.getElem_cons_zero, List.setIfInBounds_toArray, List.set_cons_zero, List.set_cons_succ])
    refine wpAnyF_ready (rs := [17]) (by kernel_rfl) (by simp) ?_
    refine AllReadyF.cons (o := _) rfl (fun K hK => ?_) AllReadyF.nil
    go_simp
    refine (tpath_zero T b 1 lb cap q F _ HTR9.out).mono ?_
    rintro e w11 ⟨⟨A11, rfl⟩, hb11⟩
    have HB11 := Lib.hid hb11
    clear hb11
    refine hK.out _ _ ((HB11.out.block _ (blk_lt hHeld12)).trans hHeld12) (fun hHeld17 => ?_)
    clear hK K
    (try simp only [Act.put, List.getElem_toArray, List.getElem_cons_succ, List.getElem_cons_zero, List.setIfInBounds_toArray, List.set_cons_zero, List.set_cons_succ])
    refine wpAnyF_take (i := 18) (oi := _) (v := ?_) rfl (by kernel_rfl) (by kernel_rfl) (by kernel_rfl) (by kernel_rfl) (fun _ _ _ h => h) (Or.inl ⟨by rfl, ?_⟩) (by assumption) ?_
    rotate_left 1
    · intro w hSw
      (try dsimp only at hSw)
      (first | (go_simp; done) | (go_simp; with_reducible rfl))
    (try simp only [Act.put, List.getElem_toArray, List.getElem_cons_succ, List.getElem_cons_zero, List.setIfInBounds_toArray, List.set_cons_zero, List.set_cons_succ])
    refine wpAnyF_take (i := 19) (oi := _) (v := ?_) rfl (by kernel_rfl) (by kernel_rfl) (by kernel_rfl) (by kernel_rfl) (fun _ _ _ h => h) (Or.inl ⟨by rfl, ?_⟩) (by assumption) ?_
    rotate_left 1
    · intro w hSw
      (try dsimp only at hSw)
      (first | (go_simp; done) | (go_simp; with_reducible rfl))
    (try simp only [Act.put, List.getElem_toArray, List.getElem_cons_succ, List.getElem_cons_zero, List.setIfInBounds_toArray, List.set_cons_zero, List.set_cons_succ])
    refine wpAnyF_take (i := 20) (oi := _) (v := ?_) rfl (by kernel_rfl) (by kernel_rfl) (by kernel_rfl) (by kernel_rfl) (fun _ _ _ h => h) (Or.inl ⟨by rfl, ?_⟩) (by assumption) ?_
    rotate_left 1
    · intro w hSw
      (try dsimp only at hSw)
      (first | (go_simp; done) | (go_simp; with_reducible rfl))
    (try simp only [Act.put, List.getElem_toArray, List.getElem_cons_succ, List.getElem_cons_zero, List.setIfInBounds_toArray, List.set_cons_zero, List.set_cons_succ])
    refine wpAnyF_take (i := 21) (oi := _) (v := ?_) rfl (by kernel_rfl) (by kernel_rfl) (by kernel_rfl) (by kernel_rfl) (fun _ _ _ h => h) (Or.inl ⟨by rfl, ?_⟩) (by assumption) ?_
    rotate_left 1
    · intro w hSw
      (try dsimp only at hSw)
      (first | (go_simp; done) | (go_simp; with_reducible rfl))
    (try simp only [Act.put, List.getElem_toArray, List.getElem_cons_succ, List.getElem_cons_zero, List.setIfInBounds_toArray, List.set_cons_zero, List.set_cons_succ])
    refine wpAnyF_done (by kernel_rfl) ?_ _
    have HFIN := Lib.hid (HBW8.out.trans (HB11.out.mono HBW8.out.size))
    clear hHeld hHeld8 hHeld12 hHeld17
    go_wp2_with fail
    go_ret
    exact ⟨rfl, HFIN.out⟩
end
end Go.Proofs.YtoclelpmampikaaGreat
