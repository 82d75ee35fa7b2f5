/-
  The example of chapter 4.
-/
import Derived.Test.YtgblgnmblbmnjaaBkI
namespace Go.Proofs.Ytgblgnmblbmnjaa
open Go.RowKit Go
set_option linter.unusedVariables false
set_option linter.unusedSimpArgs false
theorem exec_bin {P : Program} {o : Oper} {a : Act} {w : World} (op : BinOp) (t t2 : TypeId) (x y : Operand) (ho : o.op = .binOp op t x y t2) (vx vy v : Value) (hx : a.eval x = vx) (hy : a.eval y = vy) (hg : (eqGuard op t x y vx vy).run P w = .ok () w) (hr : (binOp op t vx vy).run P w = .ok v w) : (execOp a.eval o).run P w = .ok (.value v) w := by
  unfold execOp
  simp [ho, hx, hy, hg, hr, Result.andThen]
theorem bk_guard (x y : Operand) (a b : Array Value) (W : World) : (eqGuard .eql 33 x y (.agg a) (.agg b)).run Try.prog W = .ok () W := by kernel_rfl
theorem bk_guard_ne (x y : Operand) (a b : Array Value) (W : World) : (eqGuard .neq 33 x y (.agg a) (.agg b)).run Try.prog W = .ok () W := by kernel_rfl
theorem exec_rowA {P : Program} {o : Oper} {a : Act} {w : World} (ty : TypeId) (x : Operand) (ho : o.op = .load ty x) (b off : Nat) (hx : a.eval x = .pointer (some ⟨b, off, none⟩)) (cs : Array Value) (d : TypeDesc)
    (hS : w.rangeAt b off cs.toList) (hu : P.underlying ty = some d) (hd : d.isRow = true) (hi : (P.info? ty).map (·.size) = some cs.toList.length) : (execOp a.eval o).run P w = .ok (.value (.agg cs)) w := by
  have h := exec_row (P := P) (o := o) (a := a) (w := w) ty x ho b off hx cs.toList d hS hu hd hi
  rw [Array.toArray_toList] at h
  exact h
theorem step_conv {P : Program} {K0 : Act → World → Prop} {o : Oper} {a : Act} {Q : Exit → Act → World → Prop} (W : World) (s d : TypeId) (x : Operand) (ho : o.op = .convert s d x) (vx v : Value) (w' : World) (hx : a.eval x = vx) (hr : (convert s d vx).run P W = .ok v w') (h : K0 (a.put o.dst v) w') : Oper.wp P o a W K0 Q := by
  unfold Oper.wp execOp
  simp [ho, hx, hr, Result.andThen]
  exact h
theorem bk_dig_eq (l m : List Nat) (W : World) : (binOp .eql 33 (.agg (digA l)) (.agg (digA m))).run Try.prog W = .ok (.bool (decide (Sha.sum l = Sha.sum m))) W := by
  have h := equal_row 33 32 Try.underlying33 (Sha.sum l) (Sha.sum m) (bk_dig l).1 (bk_dig m).1 W
  have e1 : ∀ z, digA z = rowV (bF (Sha.sum z)) 32 := fun _ => rfl
  rw [e1, e1]
  simp [binOp, Op.equal, Op.maxDepth, h, Result.andThen]
theorem bk_dig_ne (l m : List Nat) (W : World) : (binOp .neq 33 (.agg (digA l)) (.agg (digA m))).run Try.prog W = .ok (.bool (!decide (Sha.sum l = Sha.sum m))) W := by
  have h := equal_row 33 32 Try.underlying33 (Sha.sum l) (Sha.sum m) (bk_dig l).1 (bk_dig m).1 W
  have e1 : ∀ z, digA z = rowV (bF (Sha.sum z)) 32 := fun _ => rfl
  rw [e1, e1]
  simp [binOp, Op.equal, Op.maxDepth, h, Result.andThen]
theorem dig_range {w : World} {g : Nat} {t : TypeId} {l : List Nat} (h : w.heap[g]? = some (.cells (digA l) t (0, 0))) : w.rangeAt g 0 (digA l).toList := fun j v hv => by
  rw [Nat.zero_add]
  have h9 := blk_cell h j
  rw [h9]; simpa using hv
/-- bytes of a constant -/
theorem bk_conv_c (W : World) (cs : Array Value) (n : Nat) (hn : cs.size = n) : (convert 27 27 (.slice (some ⟨W.heap.size, 0, none⟩) n n)).run Try.prog (W.alloc (.cells cs 5)) = .ok (.slice (some ⟨W.heap.size, 0, none⟩) n n) (W.alloc (.cells cs 5 (n, n + 1))) := by
  subst hn
  exact Lib.run_convert_bytes_const W _ _ cs cs.size cs.size Try.underlying27 Try.underlying5
theorem bk_const_bs {W W' : World} {l : List Nat} {n : Nat} {z : Nat × Nat} (hl : l.length = n) (hn : n ≤ 1000) (hb : ∀ i, l.getD i 0 < 256) (h : Below (W.heap.size + 1) (W.alloc (.cells ((l.map fun x => Value.int .u8 ((x : Nat) : Int)).toArray) 5 z)) W') : BS W' W'.heap.size (some ⟨W.heap.size, 0, none⟩) n n l := by
  have hs : (W.alloc (.cells ((l.map fun x => Value.int .u8 ((x : Nat) : Int)).toArray) 5 z)).heap.size = W.heap.size + 1 := by simp
  have h2 := h.size
  rw [hs] at h2
  refine ⟨hl, by omega, by omega, hb, fun h0 => ⟨W.heap.size, 0, rfl, by omega, fun i hi => ?_⟩⟩
  rw [h.cell (p := ⟨W.heap.size, 0 + i, none⟩) (by show W.heap.size < W.heap.size + 1; omega), World.cell?_alloc_mark, Nat.zero_add]
  simp [List.getElem?_map, List.getElem?_eq_getElem (show i < l.length by omega), List.getD]
theorem bkT_first (t : List Nat) : bkT [] t = [t] := by unfold bkT; simp
theorem bkS_first (t : List Nat) : bkS [] [] t = [] := by unfold bkS atD; simp
theorem bkT_again (t : List Nat) : bkT [t] t = [t] := by unfold bkT; simp
theorem bkS_again (t : List Nat) : bkS [t] [] t = [] := by unfold bkS; simp
set_option maxHeartbeats 4000000 in
set_option maxRecDepth 100000 in
theorem awake4_any (u : World) : Calls Try.prog 13 #[] u fun e w' => e = .returned (.bool true) ∧ Below u.heap.size u w' := by
  have hz := zero_dig
  go_enter Try.func13, Try.ntmps13
  go_wp2_with fail
  refine (make_any _).mono ?_
  rintro e w1 ⟨rfl, hb1, ht1⟩
  have HB1 := Lib.hid hb1
  have HT1 := Lib.hid ht1
  have hw1 : u.heap.size < w1.heap.size := Row.lt ht1
  clear hb1 ht1
  go_wp2_with fail
  refine (bk_new u.heap.size w1 HT1.out).mono ?_
  rintro e w2 ⟨b, rfl, hbl, hb2, hk2⟩
  have HB2 : Hid (Below u.heap.size u w2) := Lib.hid (HB1.out.trans (hb2.mono (by omega)))
  obtain ⟨S2, hk2, hS2⟩ : ∃ S2, IsBook w2 b u.heap.size S2 [] [] ∧ ∀ k, S2 k → u.heap.size ≤ k := ⟨_, hk2, fun k hk => by omega⟩
  have HS2 := Lib.hid hS2
  have HK2 := Lib.hid hk2
  clear hb2 hk2 hS2
  have hcs := bk_conv_c w2 #[.int .u8 97, .int .u8 98] 2 rfl
  go_wp2_with fail
  have e3 : (w2.alloc (.cells #[.int .u8 97, .int .u8 98] 5 (2, 3))).heap.size = w2.heap.size + 1 := by simp
  have ha3 := heap_alloc_new (w2.alloc (.cells #[.int .u8 97, .int .u8 98] 5 (2, 3))) (.cells #[.slice (some ⟨w2.heap.size, 0, none⟩) 2 2] 27)
  rw [e3] at ha3
  have hbs3 : Below (w2.heap.size + 1) (w2.alloc (.cells #[.int .u8 97, .int .u8 98] 5 (2, 3))) ((w2.alloc (.cells #[.int .u8 97, .int .u8 98] 5 (2, 3))).alloc (.cells #[.slice (some ⟨w2.heap.size, 0, none⟩) 2 2] 27)) := (Below.refl _ _).alloc (by rw [e3]; omega) _
  have hb3 : Below w2.heap.size w2 ((w2.alloc (.cells #[.int .u8 97, .int .u8 98] 5 (2, 3))).alloc (.cells #[.slice (some ⟨w2.heap.size, 0, none⟩) 2 2] 27)) := ((Below.refl _ _).alloc (Nat.le_refl _) _).alloc (by rw [e3]; omega) _
  have hP3 := (pts_one ha3 (bk_const_bs (l := [97, 98]) (n := 2) rfl (by omega) (fun i => by match i with | 0 => decide | 1 => decide | i + 2 => simp) hbs3) (fun e => by cases e)).pts
  have HP3 := Lib.hid hP3
  have HB3 := Lib.hid hb3
  clear e3 ha3 hbs3 hb3 hP3 hcs
  generalize (w2.alloc (.cells #[.int .u8 97, .int .u8 98] 5 (2, 3))).alloc (.cells #[.slice (some ⟨w2.heap.size, 0, none⟩) 2 2] 27) = w3 at *
  refine (bk_sum b u.heap.size 0 S2 [] [] _ [[97, 98]] w3 (HK2.out.below HB3.out) (by omega) HP3.out (by simp) (by simp)).mono ?_
  rintro e w4 ⟨rfl, ht4, hk4⟩
  rw [bkT_first, bkS_first] at hk4
  have HB23 : Hid (Below u.heap.size u w3) := Lib.hid (HB2.out.trans (HB3.out.mono HB2.out.size))
  have HB4 : Hid (Below u.heap.size u w4) := Lib.hid (HB23.out.trans (ht4.below HB23.out.size HS2.out))
  obtain ⟨S4, hk4, hS4⟩ : ∃ S4, IsBook w4 b u.heap.size S4 [txt 0 [[97, 98]]] [] ∧ ∀ k, S4 k → u.heap.size ≤ k := ⟨_, hk4, fun k hk => hk.elim (HS2.out k) (fun q => by have := HB23.out.size; omega)⟩
  have ht9 : txt 0 [[97, 98]] = [0, 97, 98] := rfl
  rw [ht9] at hk4 ⊢
  have HS4 := Lib.hid hS4
  have HK4 := Lib.hid hk4
  clear hk4 hS4 ht4 HP3 HK2 HB3 HS2 ht9
  have hca := bk_conv_c w4 #[.int .u8 97] 1 rfl
  have hcb := bk_conv_c (w4.alloc (.cells #[.int .u8 97] 5 (1, 2))) #[.int .u8 98] 1 rfl
  have e5 : (w4.alloc (.cells #[.int .u8 97] 5 (1, 2))).heap.size = w4.heap.size + 1 := by simp
  rw [e5] at hcb
  have HE5 := Lib.hid e5
  clear e5
  go_wp2_with fail
  have e6 : ((w4.alloc (.cells #[.int .u8 97] 5 (1, 2))).alloc (.cells #[.int .u8 98] 5 (1, 2))).heap.size = w4.heap.size + 1 + 1 := by simp
  have ha6 := heap_alloc_new ((w4.alloc (.cells #[.int .u8 97] 5 (1, 2))).alloc (.cells #[.int .u8 98] 5 (1, 2))) (.cells #[.slice (some ⟨w4.heap.size, 0, none⟩) 1 1, .slice (some ⟨w4.heap.size + 1, 0, none⟩) 1 1] 27)
  rw [e6] at ha6
  have hbx : Below (w4.heap.size + 1) (w4.alloc (.cells #[.int .u8 97] 5 (1, 2))) (((w4.alloc (.cells #[.int .u8 97] 5 (1, 2))).alloc (.cells #[.int .u8 98] 5 (1, 2))).alloc (.cells #[.slice (some ⟨w4.heap.size, 0, none⟩) 1 1, .slice (some ⟨w4.heap.size + 1, 0, none⟩) 1 1] 27)) := ((Below.refl _ _).alloc (by rw [HE5.out]; omega) _).alloc (by rw [e6]; omega) _
  have hby : Below (w4.heap.size + 1 + 1) ((w4.alloc (.cells #[.int .u8 97] 5 (1, 2))).alloc (.cells #[.int .u8 98] 5 (1, 2))) (((w4.alloc (.cells #[.int .u8 97] 5 (1, 2))).alloc (.cells #[.int .u8 98] 5 (1, 2))).alloc (.cells #[.slice (some ⟨w4.heap.size, 0, none⟩) 1 1, .slice (some ⟨w4.heap.size + 1, 0, none⟩) 1 1] 27)) := (Below.refl _ _).alloc (by rw [e6]; omega) _
  have hb5 : Below w4.heap.size w4 (((w4.alloc (.cells #[.int .u8 97] 5 (1, 2))).alloc (.cells #[.int .u8 98] 5 (1, 2))).alloc (.cells #[.slice (some ⟨w4.heap.size, 0, none⟩) 1 1, .slice (some ⟨w4.heap.size + 1, 0, none⟩) 1 1] 27)) := ((Below.refl _ _).alloc (Nat.le_refl _) _).trans (hbx.mono (by omega))
  have hxA := bk_const_bs (W := w4) (l := [97]) (n := 1) rfl (by omega) (fun i => by match i with | 0 => decide | i + 1 => simp) hbx
  have hyA := bk_const_bs (W := w4.alloc (.cells #[.int .u8 97] 5 (1, 2))) (l := [98]) (n := 1) rfl (by omega) (fun i => by match i with | 0 => decide | i + 1 => simp) (by rw [HE5.out]; exact hby)
  rw [HE5.out] at hyA
  have HP5 := Lib.hid (pts_two ha6 hxA hyA (fun e => by cases e) (fun e => by cases e)).pts
  have HB5 := Lib.hid hb5
  clear e6 ha6 hbx hby hb5 hxA hyA hca hcb HE5
  generalize ((w4.alloc (.cells #[.int .u8 97] 5 (1, 2))).alloc (.cells #[.int .u8 98] 5 (1, 2))).alloc (.cells #[.slice (some ⟨w4.heap.size, 0, none⟩) 1 1, .slice (some ⟨w4.heap.size + 1, 0, none⟩) 1 1] 27) = w5 at *
  refine (bk_sum b u.heap.size 0 S4 [[0, 97, 98]] [] _ [[97], [98]] w5 (HK4.out.below HB5.out) (by omega) HP5.out (by simp) (by simp)).mono ?_
  rintro e w6 ⟨rfl, ht6, hk6⟩
  have ht9 : txt 0 [[97], [98]] = [0, 97, 98] := rfl
  rw [ht9] at hk6 ⊢
  rw [bkT_again, bkS_again] at hk6
  have HB45 : Hid (Below u.heap.size u w5) := Lib.hid (HB4.out.trans (HB5.out.mono HB4.out.size))
  have HB6 : Hid (Below u.heap.size u w6) := Lib.hid (HB45.out.trans (ht6.below HB45.out.size HS4.out))
  obtain ⟨S6, hk6⟩ : ∃ S6, IsBook w6 b u.heap.size S6 [[0, 97, 98]] [] := ⟨_, hk6⟩
  have HK6 := Lib.hid hk6
  obtain ⟨da, hda⟩ : ∃ da, da = digA [0, 97, 98] := ⟨_, rfl⟩
  have hda2 : da.size = 32 := by rw [hda]; unfold digA; rw [rowV_size]
  have HI := Lib.hid (info_dig hda2)
  have HI2 : Hid ((Try.prog.info? 33).map (·.size) = some da.toList.length) := Lib.hid (by rw [Array.length_toList]; exact HI.out)
  have HO : Hid (da.all (·.oneCell') = true) := Lib.hid (by rw [hda]; exact one_dig _)
  have HZ : Hid ((zeros 32).size = da.size) := Lib.hid (by rw [hda2]; simp [zeros])
  have HEQ : Hid (∀ W, (binOp .eql 33 (.agg da) (.agg da)).run Try.prog W = .ok (.bool true) W) := Lib.hid fun W => by rw [hda, bk_dig_eq]; simp
  have HDA := Lib.hid hda
  rw [← hda]
  have e7 : (w6.alloc (.cells (zeros 32) 33)).heap.size = w6.heap.size + 1 := by simp
  have hx7 : ((w6.alloc (.cells (zeros 32) 33)).alloc (.cells (zeros 32) 33)).heap[w6.heap.size]? = some (.cells (zeros 32) 33 (0, 0)) := blk_alloc (heap_alloc_new w6 _) _
  have hy7 : ((w6.alloc (.cells (zeros 32) 33)).alloc (.cells (zeros 32) 33)).heap[w6.heap.size + 1]? = some (.cells (zeros 32) 33 (0, 0)) := by
    have h9 := heap_alloc_new (w6.alloc (.cells (zeros 32) 33)) (.cells (zeros 32) 33)
    rw [e7] at h9; exact h9
  have hx8 := setRow_heap _ _ _ da _ _ hx7
  have hy8 : (((w6.alloc (.cells (zeros 32) 33)).alloc (.cells (zeros 32) 33)).setRow w6.heap.size da).heap[w6.heap.size + 1]? = some (.cells (zeros 32) 33 (0, 0)) := (setRow_other _ _ _ _ (by omega)).trans hy7
  have hy9 := setRow_heap _ _ _ da _ _ hy8
  have hx9 : ((((w6.alloc (.cells (zeros 32) 33)).alloc (.cells (zeros 32) 33)).setRow w6.heap.size da).setRow (w6.heap.size + 1) da).heap[w6.heap.size]? = some (.cells da 33 (0, 0)) := (setRow_other _ _ _ _ (by omega)).trans hx8
  have hb9 : Below w6.heap.size w6 ((((w6.alloc (.cells (zeros 32) 33)).alloc (.cells (zeros 32) 33)).setRow w6.heap.size da).setRow (w6.heap.size + 1) da) := below_setRow (g := w6.heap.size + 1) (below_setRow (g := w6.heap.size) (((Below.refl _ _).alloc (Nat.le_refl _) _).alloc (by rw [e7]; omega) _) (Nat.le_refl _) da) (by omega) da
  have HX7 := Lib.hid hx7
  have HY8 := Lib.hid hy8
  have HX9 := Lib.hid hx9
  have HY9 := Lib.hid hy9
  have HB9 := Lib.hid hb9
  clear hda hda2 e7 hx7 hy7 hx8 hy8 hx9 hy9 hb9 ht6 hk6 ht9 HP5 HK4 HB5 HS4
  go_wp2_with (first
    | (with_reducible refine wpList_store_row rfl 33 (.tmp 3) (.tmp 12) rfl _ _ rfl rfl 33 _ HX7.out HI.out HZ.out HO.out ?_)
    | (with_reducible refine wpList_store_row rfl 33 (.tmp 4) (.tmp 19) rfl _ _ rfl rfl 33 _ HY8.out HI.out HZ.out HO.out ?_))
  generalize (((w6.alloc (.cells (zeros 32) 33)).alloc (.cells (zeros 32) 33)).setRow w6.heap.size da).setRow (w6.heap.size + 1) da = w9 at *
  have HK9 : Hid (IsBook w9 b u.heap.size S6 [[0, 97, 98]] []) := Lib.hid (HK6.out.below HB9.out)
  have HB09 : Hid (Below u.heap.size u w9) := Lib.hid (HB6.out.trans (HB9.out.mono HB6.out.size))
  have HRX : Hid (∀ W, After w9 W → W.rangeAt w6.heap.size 0 da.toList) := Lib.hid fun W hW => by
    have h9 := (Below.block hW w6.heap.size (blk_lt HX9.out)).trans HX9.out
    rw [HDA.out] at h9 ⊢
    exact dig_range h9
  have HRY : Hid (∀ W, After w9 W → W.rangeAt (w6.heap.size + 1) 0 da.toList) := Lib.hid fun W hW => by
    have h9 := (Below.block hW (w6.heap.size + 1) (blk_lt HY9.out)).trans HY9.out
    rw [HDA.out] at h9 ⊢
    exact dig_range h9
  have hcc := bk_conv_c w9.drew #[.int .u8 0, .int .u8 97, .int .u8 98] 3 rfl
  have HCC : Hid ((convert 27 27 (.slice (some ⟨w9.heap.size, 0, none⟩) 3 3)).run Try.prog ((w9.alloc (.cells #[.int .u8 0, .int .u8 97, .int .u8 98] 5)).drew) = .ok (.slice (some ⟨w9.heap.size, 0, none⟩) 3 3) ((w9.alloc (.cells #[.int .u8 0, .int .u8 97, .int .u8 98] 5 (3, 4))).drew)) := Lib.hid hcc
  have HA5 : Hid (After w9 ((w9.alloc (.cells #[.int .u8 0, .int .u8 97, .int .u8 98] 5)).drew)) := Lib.hid ((Below.refl _ _).alloc (Nat.le_refl _) _).drew
  have HA6 : Hid (After w9 ((w9.alloc (.cells #[.int .u8 0, .int .u8 97, .int .u8 98] 5 (3, 4))).drew)) := Lib.hid ((Below.refl _ _).alloc (Nat.le_refl _) _).drew
  have HBS : Hid (BS ((w9.alloc (.cells #[.int .u8 0, .int .u8 97, .int .u8 98] 5 (3, 4))).drew) ((w9.alloc (.cells #[.int .u8 0, .int .u8 97, .int .u8 98] 5 (3, 4))).drew).heap.size (some ⟨w9.heap.size, 0, none⟩) 3 3 [0, 97, 98]) := Lib.hid (bk_const_bs (W := w9) (l := [0, 97, 98]) (n := 3) rfl (by omega) (fun i => by match i with | 0 => decide | 1 => decide | 2 => decide | i + 3 => simp) ((Below.refl _ _).drew))
  clear hcc HX7 HY8 HX9 HY9 HB9 HB6 HK6
  have HD3 : Hid (da.toList.toArray = da) := Lib.hid (by simp)
  go_wp2_with fail
  refine wp_region_F (S := (fun w' => After w9 w')) [] (by kernel_rfl) (After.drew w9) (fun hHeld => ?_)
  refine wpAnyF_take (i := 0) (oi := _) (v := (.agg da)) rfl (by kernel_rfl) (by kernel_rfl) (by kernel_rfl) (by kernel_rfl) (fun _ _ _ h => h) (Or.inl ⟨by rfl, ?_⟩) (by assumption) ?_
  · intro w hSw
    (try dsimp only at hSw)
    exact exec_rowA 33 (.tmp 3) (by rfl) _ 0 (by rfl) da _ (HRX.out w hSw) Try.underlying33 (by rfl) HI2.out
  (try simp only [Act.put, List.getElem_toArray, List.getElem_cons_succ, List.getElem_cons_zero, List.setIfInBounds_toArray, List.set_cons_zero, List.set_cons_succ])
  refine wpAnyF_take (i := 1) (oi := _) (v := (.agg da)) rfl (by kernel_rfl) (by kernel_rfl) (by kernel_rfl) (by kernel_rfl) (fun _ _ _ h => h) (Or.inl ⟨by rfl, ?_⟩) (by assumption) ?_
  · intro w hSw
    (try dsimp only at hSw)
    exact exec_rowA 33 (.tmp 4) (by rfl) _ 0 (by rfl) da _ (HRY.out w hSw) Try.underlying33 (by rfl) HI2.out
  (try simp only [Act.put, List.getElem_toArray, List.getElem_cons_succ, List.getElem_cons_zero, List.setIfInBounds_toArray, List.set_cons_zero, List.set_cons_succ])
  refine wpAnyF_take (i := 2) (oi := _) (v := (.bool true)) rfl (by kernel_rfl) (by kernel_rfl) (by kernel_rfl) (by kernel_rfl) (fun _ _ _ h => h) (Or.inl ⟨by rfl, ?_⟩) (by assumption) ?_
  · intro w hSw
    (try dsimp only at hSw)
    exact exec_bin .eql 33 _ (.tmp 20) (.tmp 21) (by rfl) _ _ _ (by rfl) (by rfl) (bk_guard _ _ _ _ _) (HEQ.out w)
  (try simp only [Act.put, List.getElem_toArray, List.getElem_cons_succ, List.getElem_cons_zero, List.setIfInBounds_toArray, List.set_cons_zero, List.set_cons_succ])
  refine wpAnyF_take (i := 3) (oi := _) (v := ?_) rfl (by kernel_rfl) (by kernel_rfl) (by kernel_rfl) (by kernel_rfl) (fun _ _ _ h => h) (Or.inl ⟨by rfl, ?_⟩) (by assumption) ?_
  rotate_left 1
  · intro w hSw
    (try dsimp only at hSw)
    (first | (go_simp; done) | (go_simp; with_reducible rfl))
  (try simp only [Act.put, List.getElem_toArray, List.getElem_cons_succ, List.getElem_cons_zero, List.setIfInBounds_toArray, List.set_cons_zero, List.set_cons_succ])
  refine wpAnyF_take (i := 4) (oi := _) (v := (.agg da)) rfl (by kernel_rfl) (by kernel_rfl) (by kernel_rfl) (by kernel_rfl) (fun _ _ _ h => h) (Or.inl ⟨by rfl, ?_⟩) (by assumption) ?_
  · intro w hSw
    (try dsimp only at hSw)
    exact exec_rowA 33 (.tmp 3) (by rfl) _ 0 (by rfl) da _ (HRX.out w hSw) Try.underlying33 (by rfl) HI2.out
  (try simp only [Act.put, List.getElem_toArray, List.getElem_cons_succ, List.getElem_cons_zero, List.setIfInBounds_toArray, List.set_cons_zero, List.set_cons_succ])
  refine wpAnyF_ready (rs := [5]) (by kernel_rfl) (by simp) ?_
  refine AllReadyF.cons (o := _) rfl (fun K hK => ?_) AllReadyF.nil
  go_simp
  refine hK.out _ _ (HA5.out) (fun hHeld5 => ?_)
  clear hK K
  (try simp only [Act.put, List.getElem_toArray, List.getElem_cons_succ, List.getElem_cons_zero, List.setIfInBounds_toArray, List.set_cons_zero, List.set_cons_succ])
  refine wpAnyF_ready (rs := [6]) (by kernel_rfl) (by simp) ?_
  refine AllReadyF.cons (o := _) rfl (fun K hK => ?_) AllReadyF.nil
  rw [if_pos (by kernel_rfl)]
  refine step_conv _ 27 27 (.tmp 25) rfl _ _ _ rfl HCC.out ?_
  refine hK.out _ _ (HA6.out) (fun hHeld6 => ?_)
  clear hK K
  (try simp only [Act.put, List.getElem_toArray, List.getElem_cons_succ, List.getElem_cons_zero, List.setIfInBounds_toArray, List.set_cons_zero, List.set_cons_succ])
  refine wpAnyF_ready (rs := [7]) (by kernel_rfl) (by simp) ?_
  refine AllReadyF.cons (o := _) rfl (fun K hK => ?_) AllReadyF.nil
  go_simp
  (go_at_call 17)
  refine (refSum_any _ 3 3 [0, 97, 98] _ HBS.out (fun e => by cases e) (by omega)).mono ?_
  rintro e w7 ⟨rfl, hb7⟩
  rw [← HDA.out]
  have HA7 : Hid (After w9 w7) := Lib.hid (HA6.out.next hb7)
  clear hb7
  refine hK.out _ _ (HA7.out) (fun hHeld7 => ?_)
  clear hK K
  (try simp only [Act.put, List.getElem_toArray, List.getElem_cons_succ, List.getElem_cons_zero, List.setIfInBounds_toArray, List.set_cons_zero, List.set_cons_succ])
  refine wpAnyF_take (i := 8) (oi := _) (v := (.bool true)) rfl (by kernel_rfl) (by kernel_rfl) (by kernel_rfl) (by kernel_rfl) (fun _ _ _ h => h) (Or.inl ⟨by rfl, ?_⟩) (by assumption) ?_
  · intro w hSw
    (try dsimp only at hSw)
    exact exec_bin .eql 33 _ (.tmp 24) (.tmp 27) (by rfl) _ _ _ (by rfl) (by rfl) (bk_guard _ _ _ _ _) (HEQ.out w)
  (try simp only [Act.put, List.getElem_toArray, List.getElem_cons_succ, List.getElem_cons_zero, List.setIfInBounds_toArray, List.set_cons_zero, List.set_cons_succ])
  refine wpAnyF_take (i := 9) (oi := _) (v := ?_) rfl (by kernel_rfl) (by kernel_rfl) (by kernel_rfl) (by kernel_rfl) (fun _ _ _ h => h) (Or.inl ⟨by rfl, ?_⟩) (by assumption) ?_
  rotate_left 1
  · intro w hSw
    (try dsimp only at hSw)
    (first | (go_simp; done) | (go_simp; with_reducible rfl))
  (try simp only [Act.put, List.getElem_toArray, List.getElem_cons_succ, List.getElem_cons_zero, List.setIfInBounds_toArray, List.set_cons_zero, List.set_cons_succ])
  refine wpAnyF_take (i := 10) (oi := _) (v := ?_) rfl (by kernel_rfl) (by kernel_rfl) (by kernel_rfl) (by kernel_rfl) (fun _ _ _ h => h) (Or.inl ⟨by rfl, ?_⟩) (by assumption) ?_
  rotate_left 1
  · intro w hSw
    (try dsimp only at hSw)
    (first | (go_simp; done) | (go_simp; with_reducible rfl))
  (try simp only [Act.put, List.getElem_toArray, List.getElem_cons_succ, List.getElem_cons_zero, List.setIfInBounds_toArray, List.set_cons_zero, List.set_cons_succ])
  refine wpAnyF_take (i := 11) (oi := _) (v := ?_) rfl (by kernel_rfl) (by kernel_rfl) (by kernel_rfl) (by kernel_rfl) (fun _ _ _ h => h) (Or.inl ⟨by rfl, ?_⟩) (by assumption) ?_
  rotate_left 1
  · intro w hSw
    (try dsimp only at hSw)
    (first | (go_simp; done) | (go_simp; with_reducible rfl))
  (try simp only [Act.put, List.getElem_toArray, List.getElem_cons_succ, List.getElem_cons_zero, List.setIfInBounds_toArray, List.set_cons_zero, List.set_cons_succ])
  refine wpAnyF_ready (rs := [12]) (by kernel_rfl) (by simp) ?_
  refine AllReadyF.cons (o := _) rfl (fun K hK => ?_) AllReadyF.nil
  go_simp
  (go_at_call 16)
  refine (bk_len b u.heap.size S6 [[0, 97, 98]] [] w7 (HK9.out.below HA7.out)).mono ?_
  rintro e w8 ⟨rfl, rfl⟩
  refine hK.out _ _ (HA7.out) (fun hHeld12 => ?_)
  clear hK K
  (try simp only [Act.put, List.getElem_toArray, List.getElem_cons_succ, List.getElem_cons_zero, List.setIfInBounds_toArray, List.set_cons_zero, List.set_cons_succ])
  refine wpAnyF_take (i := 13) (oi := _) (v := ?_) rfl (by kernel_rfl) (by kernel_rfl) (by kernel_rfl) (by kernel_rfl) (fun _ _ _ h => h) (Or.inl ⟨by rfl, ?_⟩) (by assumption) ?_
  rotate_left 1
  · intro w hSw
    (try dsimp only at hSw)
    (first | (go_simp; done) | (go_simp; with_reducible rfl))
  (try simp only [Act.put, List.getElem_toArray, List.getElem_cons_succ, List.getElem_cons_zero, List.setIfInBounds_toArray, List.set_cons_zero, List.set_cons_succ])
  refine wpAnyF_take (i := 14) (oi := _) (v := ?_) rfl (by kernel_rfl) (by kernel_rfl) (by kernel_rfl) (by kernel_rfl) (fun _ _ _ h => h) (Or.inl ⟨by rfl, ?_⟩) (by assumption) ?_
  rotate_left 1
  · intro w hSw
    (try dsimp only at hSw)
    (first | (go_simp; done) | (go_simp; with_reducible rfl))
  (try simp only [Act.put, List.getElem_toArray, List.getElem_cons_succ, List.getElem_cons_zero, List.setIfInBounds_toArray, List.set_cons_zero, List.set_cons_succ])
  refine wpAnyF_take (i := 15) (oi := _) (v := ?_) rfl (by kernel_rfl) (by kernel_rfl) (by kernel_rfl) (by kernel_rfl) (fun _ _ _ h => h) (Or.inl ⟨by rfl, ?_⟩) (by assumption) ?_
  rotate_left 1
  · intro w hSw
    (try dsimp only at hSw)
    (first | (go_simp; done) | (go_simp; with_reducible rfl))
  (try simp only [Act.put, List.getElem_toArray, List.getElem_cons_succ, List.getElem_cons_zero, List.setIfInBounds_toArray, List.set_cons_zero, List.set_cons_succ])
  refine wpAnyF_done (by kernel_rfl) ?_ _
  go_wp2
  go_ret
  exact ⟨rfl, HB09.out.trans (Below.mono HA7.out HB09.out.size)⟩
end Go.Proofs.Ytgblgnmblbmnjaa
