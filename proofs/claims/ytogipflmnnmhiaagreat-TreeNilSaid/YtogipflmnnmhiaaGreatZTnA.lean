/-
  Joined: TnA.
-/
import Derived.Test.YtogipflmnnmhiaaGreatTwZ5
namespace Go.Proofs.YtogipflmnnmhiaaGreat
set_option maxRecDepth 100000
section
open Go.RowKit Go
set_option linter.unusedVariables false
set_option linter.unusedSimpArgs false
theorem tn_none (w : World) : Calls Tryz.prog 31 #[.pointer none] w fun e w' => e = .returned (.bool true) ∧ w = w' := by
  go_enter Tryz.func31, Tryz.ntmps31
  go_wp2
  go_ret
  exact ⟨rfl, rfl⟩
theorem len_nilT (w : World) : Calls Tryz.prog 21 #[.pointer none] w fun e w' => e = .returned (.int .i64 0) ∧ w = w' := by
  go_enter Tryz.func21, Tryz.ntmps21
  go_wp2_with fail
  refine (tn_none _).mono ?_
  rintro e w' ⟨rfl, rfl⟩
  go_wp2
  go_ret
  exact ⟨rfl, rfl⟩
theorem depth_nilT (w : World) : Calls Tryz.prog 22 #[.pointer none] w fun e w' => e = .returned (.int .i64 0) ∧ w = w' := by
  go_enter Tryz.func22, Tryz.ntmps22
  go_wp2_with fail
  refine (tn_none _).mono ?_
  rintro e w' ⟨rfl, rfl⟩
  go_wp2
  go_ret
  exact ⟨rfl, rfl⟩
theorem copy_nilT (w : World) : Calls Tryz.prog 12 #[.pointer none] w fun e w' => e = .returned (.pointer none) ∧ w = w' := by
  go_enter Tryz.func12, Tryz.ntmps12
  go_wp2_with fail
  refine (tn_none _).mono ?_
  rintro e w' ⟨rfl, rfl⟩
  go_wp2
  go_ret
  exact ⟨rfl, rfl⟩
theorem set_nilT (A : Option Addr) (n c : Nat) (w : World) : Calls Tryz.prog 13 #[.pointer none, .slice A n c] w fun e w' => e = .returned (.tuple #[.int .i64 0, .int .i64 2]) ∧ w = w' := by
  go_enter Tryz.func13, Tryz.ntmps13
  go_wp2_with fail
  refine (tn_none _).mono ?_
  rintro e w' ⟨rfl, rfl⟩
  go_wp2
  exact bodyPost_ret (v := .tuple #[.int .i64 0, .int .i64 2]) (by simp [results, Tryz.results13, go_sem]) rfl ⟨rfl, rfl⟩
theorem new_nilT (A : Option Addr) (n c : Nat) (w : World) : Calls Tryz.prog 8 #[.pointer none, .slice A n c] w fun e w' => e = .returned (.tuple #[.pointer none, .int .i64 2]) ∧ w = w' := by
  go_enter Tryz.func8, Tryz.ntmps8
  go_wp2
  exact bodyPost_ret (v := .tuple #[.pointer none, .int .i64 2]) (by simp [results, Tryz.results8, go_sem]) rfl ⟨rfl, rfl⟩
theorem has_nilT (k : Int) (w : World) : Calls Tryz.prog 38 #[.pointer none, .int .i64 k] w fun e w' => e = .returned (.bool false) ∧ w = w' := by
  go_enter Tryz.func38, Tryz.ntmps38
  by_cases h : 0 ≤ k
  · go_wp2_with fail
    refine (len_nilT _).mono ?_
    rintro e w' ⟨rfl, rfl⟩
    go_wp2
    go_ret
    exact ⟨ret_bool (by simp; try omega), rfl⟩
  · go_wp2
    go_ret
    exact ⟨rfl, rfl⟩
theorem path_nilT (k : Int) (w : World) : Calls Tryz.prog 17 #[.pointer none, .int .i64 k] w fun e w' => e = .returned (.slice none 0 0) ∧ w = w' := by
  go_enter Tryz.func17, Tryz.ntmps17
  go_wp2_with fail
  refine (has_nilT k _).mono ?_
  rintro e w' ⟨rfl, rfl⟩
  go_wp2
  go_ret
  exact ⟨rfl, rfl⟩
set_option maxRecDepth 100000 in
theorem node_nilT (d k : Int) (w : World) : Calls Tryz.prog 23 #[.pointer none, .int .i64 d, .int .i64 k] w fun e w' => e = .returned (.agg (zeros 32)) ∧ Below w.heap.size w w' := by
  have hz := zero_dig
  have hb1 : Below w.heap.size w (w.alloc (.cells (zeros 32) DgT)) := (Below.refl _ _).alloc (Nat.le_refl _) _
  have HX := Lib.hid (heap_alloc_new w (.cells (zeros 32) DgT))
  have HI := Lib.hid (info_dig (cs := zeros 32) (by simp [zeros]))
  have HO : Hid ((zeros 32).all (·.oneCell') = true) := Lib.hid (by kernel_rfl)
  have HFX := Lib.hid (setRow_heap _ _ _ (zeros 32) _ _ (heap_alloc_new w (.cells (zeros 32) DgT)))
  have HFB := Lib.hid (below_setRow (g := w.heap.size) hb1 (Nat.le_refl _) (zeros 32))
  clear hb1
  go_enter Tryz.func23, Tryz.ntmps23
  go_wp2_with fail
  refine (tn_none _).mono ?_
  rintro e w' ⟨rfl, rfl⟩
  go_wp2_with (with_reducible refine wpList_store_row rfl DgT (.tmp 6) (.tmp 35) rfl _ _ rfl rfl DgT _ HX.out HI.out rfl HO.out ?_)
  exact bodyPost_ret (v := .agg (zeros 32)) (results_cell_row rfl _ _ _ DgT _ (0, 0) _ rfl HFX.out Tryz.underlying37 rfl HI.out) rfl ⟨rfl, HFB.out⟩
set_option maxRecDepth 100000 in
theorem root_nilT (w : World) : Calls Tryz.prog 14 #[.pointer none] w fun e w' => e = .returned (.agg (zeros 32)) ∧ Below w.heap.size w w' := by
  have hz := zero_dig
  have hb1 : Below w.heap.size w (w.alloc (.cells (zeros 32) DgT)) := (Below.refl _ _).alloc (Nat.le_refl _) _
  have HX := Lib.hid (heap_alloc_new w (.cells (zeros 32) DgT))
  have HI := Lib.hid (info_dig (cs := zeros 32) (by simp [zeros]))
  have HO : Hid ((zeros 32).all (·.oneCell') = true) := Lib.hid (by kernel_rfl)
  have HFX := Lib.hid (setRow_heap _ _ _ (zeros 32) _ _ (heap_alloc_new w (.cells (zeros 32) DgT)))
  have HFB := Lib.hid (below_setRow (g := w.heap.size) hb1 (Nat.le_refl _) (zeros 32))
  clear hb1
  go_enter Tryz.func14, Tryz.ntmps14
  go_wp2_with fail
  refine (tn_none _).mono ?_
  rintro e w' ⟨rfl, rfl⟩
  go_wp2_with (with_reducible refine wpList_store_row rfl DgT (.tmp 2) (.tmp 5) rfl _ _ rfl rfl DgT _ HX.out HI.out rfl HO.out ?_)
  exact bodyPost_ret (v := .agg (zeros 32)) (results_cell_row rfl _ _ _ DgT _ (0, 0) _ rfl HFX.out Tryz.underlying37 rfl HI.out) rfl ⟨rfl, HFB.out⟩
set_option maxRecDepth 100000 in
theorem at_nilT (k : Int) (w : World) : Calls Tryz.prog 20 #[.pointer none, .int .i64 k] w fun e w' => e = .returned (.agg (zeros 32)) ∧ Below w.heap.size w w' := by
  have hz := zero_dig
  obtain ⟨W0, hW0⟩ : ∃ W0, W0 = w.alloc (.cells (zeros 32) DgT) := ⟨_, rfl⟩
  have hb1 : Below w.heap.size w W0 := by rw [hW0]; exact (Below.refl _ _).alloc (Nat.le_refl _) _
  have HX : Hid (W0.heap[w.heap.size]? = some (.cells (zeros 32) DgT (0, 0))) := Lib.hid (by rw [hW0]; exact heap_alloc_new w _)
  have HB1 := Lib.hid hb1
  have HI := Lib.hid (info_dig (cs := zeros 32) (by simp [zeros]))
  have HO : Hid ((zeros 32).all (·.oneCell') = true) := Lib.hid (by kernel_rfl)
  have HW0 := Lib.hid hW0
  clear hb1 hW0
  go_enter Tryz.func20, Tryz.ntmps20
  go_wp2_with fail
  rw [← HW0.out]
  refine (node_nilT 0 k W0).mono ?_
  rintro e w3 ⟨rfl, hb4⟩
  have HX4 : Hid (w3.heap[w.heap.size]? = some (.cells (zeros 32) DgT (0, 0))) := Lib.hid ((hb4.block _ (blk_lt HX.out)).trans HX.out)
  have HFX := Lib.hid (setRow_heap _ _ _ (zeros 32) _ _ HX4.out)
  have HFB := Lib.hid (below_setRow (g := w.heap.size) (HB1.out.trans (hb4.mono HB1.out.size)) (Nat.le_refl _) (zeros 32))
  clear hb4
  go_wp2_with (with_reducible refine wpList_store_row rfl DgT (.tmp 4) (.tmp 7) rfl _ _ rfl rfl DgT _ HX4.out HI.out rfl HO.out ?_)
  exact bodyPost_ret (v := .agg (zeros 32)) (results_cell_row rfl _ _ _ DgT _ (0, 0) _ rfl HFX.out Tryz.underlying37 rfl HI.out) rfl ⟨rfl, HFB.out⟩
theorem zero32_cellsN : dA zero32L = zeros 32 := by kernel_rfl
abbrev LfX : TypeId := 39
def lfX (k : Int) : Array Value := rowV (fun i => if i = 0 then .int .i64 k else .int .u8 0) 33
theorem lfx_info : (Tryz.prog.info? LfX).map (fun i => (i.zero, i.size, i.bytes)) = some (some (.agg (lfX 0)), 33, 40) := by kernel_rfl
theorem wp_build_eq9 {P : Program} {ops : Array Oper} {rest : List Oper} {o : Oper} {a : Act} {w : World} {Q : Exit → Act → World → Prop} (hg : o.guard = none) (t : TypeId) (parts : Array (Nat × Operand)) (ho : o.op = .build t parts)
    (cs : Array Value) (hf : P.built t (parts.map fun (i, x) => (i, a.eval x)).toList = some cs) (h : wpList P ops Q rest (a.put o.dst (.agg cs)) w) : wpList P ops Q (o :: rest) a w := by
  refine wpList_build hg t parts ho (by rw [hf]; rfl) ?_
  rw [hf]
  exact h
theorem lfx_built (k : Int) : Tryz.prog.built LfX [(0, .int .i64 k)] = some (lfX k) := by kernel_rfl
theorem fill_lfx (xd : Array Value) (hx : xd.size = 33) : Instr.fill (fun i => some (i * 33, 33)) ((Array.range (1 * 33)).map ((Value.agg (lfX 0)).cells[· % (Value.agg (lfX 0)).cells.size]!)) [(0, .agg xd)] = some xd := by
  have h := Go.Great.fill_whole (s := 33) (by omega) [.agg xd] ((Array.range (1 * 33)).map ((Value.agg (lfX 0)).cells[· % (Value.agg (lfX 0)).cells.size]!)) (fun v hv => by
    have e : v = .agg xd := by simpa using hv
    rw [e]; exact hx) (by simp)
  have e1 : (([Value.agg xd].flatMap fun v => v.cells.toList).toArray) = xd := by simp [Value.cells]
  rw [e1] at h
  exact h
theorem fill_dgx (xd : Array Value) (hx : xd.size = 32) : Instr.fill (fun i => some (i * 32, 32)) ((Array.range (1 * 32)).map ((Value.agg (zeros 32)).cells[· % (Value.agg (zeros 32)).cells.size]!)) [(0, .agg xd)] = some xd := by
  have h := Go.Great.fill_whole (s := 32) (by omega) [.agg xd] ((Array.range (1 * 32)).map ((Value.agg (zeros 32)).cells[· % (Value.agg (zeros 32)).cells.size]!)) (fun v hv => by
    have e : v = .agg xd := by simpa using hv
    rw [e]; exact hx) (by simp)
  have e1 : (([Value.agg xd].flatMap fun v => v.cells.toList).toArray) = xd := by simp [Value.cells]
  rw [e1] at h
  exact h
theorem wpList_buildL {ops : Array Oper} {rest : List Oper} {o : Oper} {a : Act} {w : World} {Q : Exit → Act → World → Prop} (hg : o.guard = none) (x : Operand) (ho : o.op = .buildSlice 35 1 #[(0, x)]) (xd : Array Value) (hx2 : xd.size = 33) (hx : a.eval x = .agg xd)
    (h : wpList Tryz.prog ops Q rest (a.put o.dst (.slice (some ⟨w.heap.size, 0, none⟩) 1 1)) (w.alloc (.cells xd LfX))) : wpList Tryz.prog ops Q (o :: rest) a w := by
  obtain ⟨ie, h0, h1, h2, h3⟩ := info_parts lfx_info
  refine wpList_buildSlice hg 35 LfX 1 #[(0, x)] ho xd ie _ Tryz.underlying35 h0 h1 (by rw [h2]; omega) (by rw [h2]; omega) ?_ h
  rw [h2]
  simp only [List.map_toArray, List.map_cons, List.map_nil, hx]
  exact fill_lfx xd hx2
theorem wpList_buildD {ops : Array Oper} {rest : List Oper} {o : Oper} {a : Act} {w : World} {Q : Exit → Act → World → Prop} (hg : o.guard = none) (x : Operand) (ho : o.op = .buildSlice 31 1 #[(0, x)]) (xd : Array Value) (hx2 : xd.size = 32) (hx : a.eval x = .agg xd)
    (h : wpList Tryz.prog ops Q rest (a.put o.dst (.slice (some ⟨w.heap.size, 0, none⟩) 1 1)) (w.alloc (.cells xd DgT))) : wpList Tryz.prog ops Q (o :: rest) a w := by
  obtain ⟨ie, h0, h1, h2, h3⟩ := info_parts dg_info
  refine wpList_buildSlice hg 31 DgT 1 #[(0, x)] ho xd ie _ Tryz.underlying31 h0 h1 (by rw [h2]; omega) (by rw [h2]; omega) ?_ h
  rw [h2]
  simp only [List.map_toArray, List.map_cons, List.map_nil, hx]
  exact fill_dgx xd hx2
set_option maxHeartbeats 2000000 in
set_option maxRecDepth 100000 in
theorem treeNil_any (k : Int) (w : World) : Calls Tryz.prog 5 #[.int .i64 k] w fun e w' => e = .returned (.bool true) ∧ Below w.heap.size w w' := by
  have hz := zero_dig
  have HBL := Lib.hid (lfx_built k)
  have HNEW := Lib.hid (fun A n c W => new_nilT A n c W)
  have HSET := Lib.hid (fun A n c W => set_nilT A n c W)
  have HROOT := Lib.hid (fun W => root_nilT W)
  have HAT := Lib.hid (fun W => at_nilT k W)
  have HND := Lib.hid (fun W => node_nilT k k W)
  have hq : ∀ W, (Op.equalIn 10000 DgT (.agg (zeros 32)) (.agg (zeros 32))).run Tryz.prog W = .ok true W := fun W => by
    rw [← zero32_cellsN, equal_row DgT 32 Tryz.underlying37 zero32L zero32L (by rfl) (by rfl) W]; simp
  obtain ⟨W1, hW1⟩ : ∃ W1, W1 = w.alloc (.cells (zeros 32) DgT) := ⟨_, rfl⟩
  have HB1 : Hid (Below w.heap.size w W1) := Lib.hid (by rw [hW1]; exact (Below.refl _ _).alloc (Nat.le_refl _) _)
  obtain ⟨W2, hW2⟩ : ∃ W2, W2 = W1.alloc (.cells (lfX k) LfX) := ⟨_, rfl⟩
  have HB2 : Hid (Below w.heap.size w W2) := Lib.hid (by rw [hW2]; exact HB1.out.alloc HB1.out.size _)
  have HZS : Hid ((zeros 32).size = 32) := Lib.hid (by simp [zeros])
  have HLS : Hid ((lfX k).size = 33) := Lib.hid (rowV_size _ _)
  have HW1 := Lib.hid hW1
  have HW2 := Lib.hid hW2
  clear hW1 hW2
  obtain ⟨zz, hzz⟩ : ∃ z, z = zeros 32 := ⟨_, rfl⟩
  obtain ⟨lf, hlf⟩ : ∃ z, z = lfX k := ⟨_, rfl⟩
  rw [← hzz] at hz hq HROOT HAT HND HZS HW1
  rw [← hlf] at HBL HLS HW2
  clear hzz hlf
  go_enter Tryz.func5, Tryz.ntmps5
  go_wp2_with (first
    | (with_reducible refine wpList_buildD rfl (.tmp 9) rfl zz HZS.out rfl ?_)
    | (with_reducible refine wpList_buildL rfl (.tmp 17) rfl lf HLS.out rfl ?_)
    | (with_reducible refine wp_build_eq9 rfl LfX #[(0, .tmp 16)] rfl lf (by first | exact HBL.out | (simp [Act.eval, Act.put]; exact HBL.out)) ?_))
  rw [← HW1.out]
  refine (HNEW.out _ _ _ _).mono ?_
  rintro e w' ⟨rfl, rfl⟩
  go_wp2_with (first
    | (with_reducible refine wpList_buildL rfl (.tmp 17) rfl lf HLS.out rfl ?_)
    | (with_reducible refine wp_build_eq9 rfl LfX #[(0, .tmp 16)] rfl lf (by first | exact HBL.out | (simp [Act.eval, Act.put]; exact HBL.out)) ?_))
  rw [← HW2.out]
  refine (HSET.out _ _ _ _).mono ?_
  rintro e w' ⟨rfl, rfl⟩
  go_wp2_with fail
  refine (HROOT.out _).mono ?_
  rintro e w3 ⟨rfl, hb⟩
  have HB3 := Lib.hid (HB2.out.trans (hb.mono HB2.out.size))
  clear hb
  go_wp2_with fail
  refine (len_nilT _).mono ?_
  rintro e w' ⟨rfl, rfl⟩
  go_wp2_with fail
  refine (HAT.out _).mono ?_
  rintro e w4 ⟨rfl, hb⟩
  have HB4 := Lib.hid (HB3.out.trans (hb.mono HB3.out.size))
  clear hb
  go_wp2_with fail
  refine (path_nilT k _).mono ?_
  rintro e w' ⟨rfl, rfl⟩
  go_wp2_with fail
  refine (copy_nilT _).mono ?_
  rintro e w' ⟨rfl, rfl⟩
  go_wp2_with fail
  refine (depth_nilT _).mono ?_
  rintro e w' ⟨rfl, rfl⟩
  go_wp2_with fail
  refine (HND.out _).mono ?_
  rintro e w5 ⟨rfl, hb⟩
  have HB5 := Lib.hid (HB4.out.trans (hb.mono HB4.out.size))
  clear hb
  go_wp2_with fail
  refine (awake12_any _).mono ?_
  rintro e w6 ⟨rfl, hb⟩
  have HB6 := Lib.hid (HB5.out.trans (hb.mono HB5.out.size))
  clear hb
  go_wp2
  go_ret
  exact ⟨rfl, HB6.out⟩
end
end Go.Proofs.YtogipflmnnmhiaaGreat
