/-
  Package script: beyond, some kinds.
-/
import Derived.Test.YtcaogiaoabdkdaaDoorZScH
namespace Go.Proofs.YtcaogiaoabdkdaaDoor
open Go.RowKit Go
set_option linter.unusedVariables false
set_option linter.unusedSimpArgs false
set_option maxRecDepth 100000
set_option maxHeartbeats 2000000 in
theorem bey_15 (y : Bool) (z1 z2 z3 z4 : Int) (A : Option Addr) (n c : Nat) (w : World) :
    Calls Tryd.prog 34 #[.agg #[.int .i64 15, .bool y, .int .i64 z1, .int .i64 z2, .int .i64 z3, .int .i64 z4, .slice A n c]] w (BeyTo w #[.int .i64 15, .bool y, .int .i64 z1, .int .i64 z2, .int .i64 z3, .int .i64 z4, .slice A n c] true) := by
  obtain ⟨W0, hW, hb0, hsz, hx, hr⟩ := two_blk w (.cells #[.int .i64 15, .bool y, .int .i64 z1, .int .i64 z2, .int .i64 z3, .int .i64 z4, .slice A n c] 30) (.cells #[.int .i64 0, .bool false, .int .i64 0, .int .i64 0, .int .i64 0, .int .i64 0, .slice none 0 0] 30)
  have HR := Lib.hid hr
  have HB0 := Lib.hid hb0
  have HW := Lib.hid hW.symm
  clear hW hb0 hr
  have p0 : W0.cell? ⟨w.heap.size, 0, none⟩ = some (.int .i64 15) := blk_cell hx 0
  have p1 : W0.cell? ⟨w.heap.size, 1, none⟩ = some (.bool y) := blk_cell hx 1
  have p2 : W0.cell? ⟨w.heap.size, 2, none⟩ = some (.int .i64 z1) := blk_cell hx 2
  have p3 : W0.cell? ⟨w.heap.size, 3, none⟩ = some (.int .i64 z2) := blk_cell hx 3
  have p4 : W0.cell? ⟨w.heap.size, 4, none⟩ = some (.int .i64 z3) := blk_cell hx 4
  have p5 : W0.cell? ⟨w.heap.size, 5, none⟩ = some (.int .i64 z4) := blk_cell hx 5
  have p6 : W0.cell? ⟨w.heap.size, 6, none⟩ = some (.slice A n c) := blk_cell hx 6
  clear hx
  have HX1 : Hid ((W0).heap[w.heap.size + 1]? = some (.cells #[.int .i64 0, .bool false, .int .i64 0, .int .i64 0, .int .i64 0, .int .i64 0, .slice none 0 0] 30 (0, 0))) := Lib.hid (HR.out)
  have HB1 : Hid (Below w.heap.size w (W0)) := Lib.hid (HB0.out)
  go_enter Tryd.func34, Tryd.ntmps34
  go_upto_region 1 with (fail)
  rw [HW.out]
  go_wp2_with (with_reducible refine wpList_store_row rfl 30 (.tmp 2) (.tmp 52) rfl (w.heap.size + 1) #[.int .i64 15, .bool y, .int .i64 z1, .int .i64 z2, .int .i64 z3, .int .i64 z4, .slice A n c] rfl rfl _ _ HX1.out (info7 _ _ _ _ _ _ _ _ _) rfl (one7 _ _ _ _ _ _ _ _ _) ?_)
  exact bodyPost_ret (v := .tuple #[.agg #[.int .i64 15, .bool y, .int .i64 z1, .int .i64 z2, .int .i64 z3, .int .i64 z4, .slice A n c], .bool true]) (results_row_tmp rfl _ _ (w.heap.size + 1) 30 #[.int .i64 15, .bool y, .int .i64 z1, .int .i64 z2, .int .i64 z3, .int .i64 z4, .slice A n c] (0, 0) _ (.bool true) rfl rfl (setRow_heap _ _ _ _ _ _ HX1.out) Tryd.underlying30 rfl (info7 _ _ _ _ _ _ _ _ _)) rfl ⟨rfl, below_setRow HB1.out (by omega) _⟩
set_option maxHeartbeats 2000000 in
theorem bey_16 (y : Bool) (z1 z2 z3 z4 : Int) (A : Option Addr) (n c : Nat) (w : World) :
    Calls Tryd.prog 34 #[.agg #[.int .i64 16, .bool y, .int .i64 z1, .int .i64 z2, .int .i64 z3, .int .i64 z4, .slice A n c]] w (BeyTo w #[.int .i64 16, .bool y, .int .i64 z1, .int .i64 z2, .int .i64 z3, .int .i64 z4, .slice none 0 0] true) := by
  obtain ⟨W0, hW, hb0, hsz, hx, hr⟩ := two_blk w (.cells #[.int .i64 16, .bool y, .int .i64 z1, .int .i64 z2, .int .i64 z3, .int .i64 z4, .slice A n c] 30) (.cells #[.int .i64 0, .bool false, .int .i64 0, .int .i64 0, .int .i64 0, .int .i64 0, .slice none 0 0] 30)
  have HR := Lib.hid hr
  have HB0 := Lib.hid hb0
  have HW := Lib.hid hW.symm
  clear hW hb0 hr
  have p0 : W0.cell? ⟨w.heap.size, 0, none⟩ = some (.int .i64 16) := blk_cell hx 0
  have p1 : W0.cell? ⟨w.heap.size, 1, none⟩ = some (.bool y) := blk_cell hx 1
  have p2 : W0.cell? ⟨w.heap.size, 2, none⟩ = some (.int .i64 z1) := blk_cell hx 2
  have p3 : W0.cell? ⟨w.heap.size, 3, none⟩ = some (.int .i64 z2) := blk_cell hx 3
  have p4 : W0.cell? ⟨w.heap.size, 4, none⟩ = some (.int .i64 z3) := blk_cell hx 4
  have p5 : W0.cell? ⟨w.heap.size, 5, none⟩ = some (.int .i64 z4) := blk_cell hx 5
  have p6 : W0.cell? ⟨w.heap.size, 6, none⟩ = some (.slice A n c) := blk_cell hx 6
  have f6 : W0.frozen? ⟨w.heap.size, 6, none⟩ = false := blk_free hx 6
  clear hx
  have HX1 : Hid (((W0).setCell ⟨w.heap.size, 6, none⟩ (.slice none 0 0)).heap[w.heap.size + 1]? = some (.cells #[.int .i64 0, .bool false, .int .i64 0, .int .i64 0, .int .i64 0, .int .i64 0, .slice none 0 0] 30 (0, 0))) := Lib.hid ((blk_far (HR.out) (p := ⟨w.heap.size, 6, none⟩) (by show w.heap.size + 1 ≠ w.heap.size; omega) _))
  have HB1 : Hid (Below w.heap.size w ((W0).setCell ⟨w.heap.size, 6, none⟩ (.slice none 0 0))) := Lib.hid ((Below.setCell (HB0.out) (p := ⟨w.heap.size, 6, none⟩) (Nat.le_refl _) _))
  go_enter Tryd.func34, Tryd.ntmps34
  go_upto_region 1 with (fail)
  rw [HW.out]
  go_wp2_with (with_reducible refine wpList_store_row rfl 30 (.tmp 2) (.tmp 52) rfl (w.heap.size + 1) #[.int .i64 16, .bool y, .int .i64 z1, .int .i64 z2, .int .i64 z3, .int .i64 z4, .slice none 0 0] rfl rfl _ _ HX1.out (info7 _ _ _ _ _ _ _ _ _) rfl (one7 _ _ _ _ _ _ _ _ _) ?_)
  exact bodyPost_ret (v := .tuple #[.agg #[.int .i64 16, .bool y, .int .i64 z1, .int .i64 z2, .int .i64 z3, .int .i64 z4, .slice none 0 0], .bool true]) (results_row_tmp rfl _ _ (w.heap.size + 1) 30 #[.int .i64 16, .bool y, .int .i64 z1, .int .i64 z2, .int .i64 z3, .int .i64 z4, .slice none 0 0] (0, 0) _ (.bool true) rfl rfl (setRow_heap _ _ _ _ _ _ HX1.out) Tryd.underlying30 rfl (info7 _ _ _ _ _ _ _ _ _)) rfl ⟨rfl, below_setRow HB1.out (by omega) _⟩
set_option maxHeartbeats 2000000 in
theorem bey_17 (y : Bool) (z1 z2 z3 z4 : Int) (A : Option Addr) (n c : Nat) (w : World) :
    Calls Tryd.prog 34 #[.agg #[.int .i64 17, .bool y, .int .i64 z1, .int .i64 z2, .int .i64 z3, .int .i64 z4, .slice A n c]] w (BeyTo w #[.int .i64 17, .bool y, .int .i64 z1, .int .i64 z2, .int .i64 0, .int .i64 z4, .slice none 0 0] true) := by
  obtain ⟨W0, hW, hb0, hsz, hx, hr⟩ := two_blk w (.cells #[.int .i64 17, .bool y, .int .i64 z1, .int .i64 z2, .int .i64 z3, .int .i64 z4, .slice A n c] 30) (.cells #[.int .i64 0, .bool false, .int .i64 0, .int .i64 0, .int .i64 0, .int .i64 0, .slice none 0 0] 30)
  have HR := Lib.hid hr
  have HB0 := Lib.hid hb0
  have HW := Lib.hid hW.symm
  clear hW hb0 hr
  have p0 : W0.cell? ⟨w.heap.size, 0, none⟩ = some (.int .i64 17) := blk_cell hx 0
  have p1 : W0.cell? ⟨w.heap.size, 1, none⟩ = some (.bool y) := blk_cell hx 1
  have p2 : W0.cell? ⟨w.heap.size, 2, none⟩ = some (.int .i64 z1) := blk_cell hx 2
  have p3 : W0.cell? ⟨w.heap.size, 3, none⟩ = some (.int .i64 z2) := blk_cell hx 3
  have p4 : W0.cell? ⟨w.heap.size, 4, none⟩ = some (.int .i64 z3) := blk_cell hx 4
  have p5 : W0.cell? ⟨w.heap.size, 5, none⟩ = some (.int .i64 z4) := blk_cell hx 5
  have p6 : W0.cell? ⟨w.heap.size, 6, none⟩ = some (.slice A n c) := blk_cell hx 6
  have f4 : W0.frozen? ⟨w.heap.size, 4, none⟩ = false := blk_free hx 4
  have f6 : W0.frozen? ⟨w.heap.size, 6, none⟩ = false := blk_free hx 6
  clear hx
  have HX1 : Hid ((((W0).setCell ⟨w.heap.size, 4, none⟩ (.int .i64 0)).setCell ⟨w.heap.size, 6, none⟩ (.slice none 0 0)).heap[w.heap.size + 1]? = some (.cells #[.int .i64 0, .bool false, .int .i64 0, .int .i64 0, .int .i64 0, .int .i64 0, .slice none 0 0] 30 (0, 0))) := Lib.hid ((blk_far ((blk_far (HR.out) (p := ⟨w.heap.size, 4, none⟩) (by show w.heap.size + 1 ≠ w.heap.size; omega) _)) (p := ⟨w.heap.size, 6, none⟩) (by show w.heap.size + 1 ≠ w.heap.size; omega) _))
  have HB1 : Hid (Below w.heap.size w (((W0).setCell ⟨w.heap.size, 4, none⟩ (.int .i64 0)).setCell ⟨w.heap.size, 6, none⟩ (.slice none 0 0))) := Lib.hid ((Below.setCell ((Below.setCell (HB0.out) (p := ⟨w.heap.size, 4, none⟩) (Nat.le_refl _) _)) (p := ⟨w.heap.size, 6, none⟩) (Nat.le_refl _) _))
  go_enter Tryd.func34, Tryd.ntmps34
  go_upto_region 1 with (fail)
  rw [HW.out]
  go_wp2_with (with_reducible refine wpList_store_row rfl 30 (.tmp 2) (.tmp 52) rfl (w.heap.size + 1) #[.int .i64 17, .bool y, .int .i64 z1, .int .i64 z2, .int .i64 0, .int .i64 z4, .slice none 0 0] rfl rfl _ _ HX1.out (info7 _ _ _ _ _ _ _ _ _) rfl (one7 _ _ _ _ _ _ _ _ _) ?_)
  exact bodyPost_ret (v := .tuple #[.agg #[.int .i64 17, .bool y, .int .i64 z1, .int .i64 z2, .int .i64 0, .int .i64 z4, .slice none 0 0], .bool true]) (results_row_tmp rfl _ _ (w.heap.size + 1) 30 #[.int .i64 17, .bool y, .int .i64 z1, .int .i64 z2, .int .i64 0, .int .i64 z4, .slice none 0 0] (0, 0) _ (.bool true) rfl rfl (setRow_heap _ _ _ _ _ _ HX1.out) Tryd.underlying30 rfl (info7 _ _ _ _ _ _ _ _ _)) rfl ⟨rfl, below_setRow HB1.out (by omega) _⟩
set_option maxHeartbeats 2000000 in
theorem bey_18 (y : Bool) (z1 z2 z3 z4 : Int) (A : Option Addr) (n c : Nat) (w : World) :
    Calls Tryd.prog 34 #[.agg #[.int .i64 18, .bool y, .int .i64 z1, .int .i64 z2, .int .i64 z3, .int .i64 z4, .slice A n c]] w (BeyTo w #[.int .i64 18, .bool y, .int .i64 z1, .int .i64 z2, .int .i64 z3, .int .i64 0, .slice none 0 0] true) := by
  obtain ⟨W0, hW, hb0, hsz, hx, hr⟩ := two_blk w (.cells #[.int .i64 18, .bool y, .int .i64 z1, .int .i64 z2, .int .i64 z3, .int .i64 z4, .slice A n c] 30) (.cells #[.int .i64 0, .bool false, .int .i64 0, .int .i64 0, .int .i64 0, .int .i64 0, .slice none 0 0] 30)
  have HR := Lib.hid hr
  have HB0 := Lib.hid hb0
  have HW := Lib.hid hW.symm
  clear hW hb0 hr
  have p0 : W0.cell? ⟨w.heap.size, 0, none⟩ = some (.int .i64 18) := blk_cell hx 0
  have p1 : W0.cell? ⟨w.heap.size, 1, none⟩ = some (.bool y) := blk_cell hx 1
  have p2 : W0.cell? ⟨w.heap.size, 2, none⟩ = some (.int .i64 z1) := blk_cell hx 2
  have p3 : W0.cell? ⟨w.heap.size, 3, none⟩ = some (.int .i64 z2) := blk_cell hx 3
  have p4 : W0.cell? ⟨w.heap.size, 4, none⟩ = some (.int .i64 z3) := blk_cell hx 4
  have p5 : W0.cell? ⟨w.heap.size, 5, none⟩ = some (.int .i64 z4) := blk_cell hx 5
  have p6 : W0.cell? ⟨w.heap.size, 6, none⟩ = some (.slice A n c) := blk_cell hx 6
  have f5 : W0.frozen? ⟨w.heap.size, 5, none⟩ = false := blk_free hx 5
  have f6 : W0.frozen? ⟨w.heap.size, 6, none⟩ = false := blk_free hx 6
  clear hx
  have HX1 : Hid ((((W0).setCell ⟨w.heap.size, 5, none⟩ (.int .i64 0)).setCell ⟨w.heap.size, 6, none⟩ (.slice none 0 0)).heap[w.heap.size + 1]? = some (.cells #[.int .i64 0, .bool false, .int .i64 0, .int .i64 0, .int .i64 0, .int .i64 0, .slice none 0 0] 30 (0, 0))) := Lib.hid ((blk_far ((blk_far (HR.out) (p := ⟨w.heap.size, 5, none⟩) (by show w.heap.size + 1 ≠ w.heap.size; omega) _)) (p := ⟨w.heap.size, 6, none⟩) (by show w.heap.size + 1 ≠ w.heap.size; omega) _))
  have HB1 : Hid (Below w.heap.size w (((W0).setCell ⟨w.heap.size, 5, none⟩ (.int .i64 0)).setCell ⟨w.heap.size, 6, none⟩ (.slice none 0 0))) := Lib.hid ((Below.setCell ((Below.setCell (HB0.out) (p := ⟨w.heap.size, 5, none⟩) (Nat.le_refl _) _)) (p := ⟨w.heap.size, 6, none⟩) (Nat.le_refl _) _))
  go_enter Tryd.func34, Tryd.ntmps34
  go_upto_region 1 with (fail)
  rw [HW.out]
  go_wp2_with (with_reducible refine wpList_store_row rfl 30 (.tmp 2) (.tmp 52) rfl (w.heap.size + 1) #[.int .i64 18, .bool y, .int .i64 z1, .int .i64 z2, .int .i64 z3, .int .i64 0, .slice none 0 0] rfl rfl _ _ HX1.out (info7 _ _ _ _ _ _ _ _ _) rfl (one7 _ _ _ _ _ _ _ _ _) ?_)
  exact bodyPost_ret (v := .tuple #[.agg #[.int .i64 18, .bool y, .int .i64 z1, .int .i64 z2, .int .i64 z3, .int .i64 0, .slice none 0 0], .bool true]) (results_row_tmp rfl _ _ (w.heap.size + 1) 30 #[.int .i64 18, .bool y, .int .i64 z1, .int .i64 z2, .int .i64 z3, .int .i64 0, .slice none 0 0] (0, 0) _ (.bool true) rfl rfl (setRow_heap _ _ _ _ _ _ HX1.out) Tryd.underlying30 rfl (info7 _ _ _ _ _ _ _ _ _)) rfl ⟨rfl, below_setRow HB1.out (by omega) _⟩
set_option maxHeartbeats 2000000 in
theorem bey_19 (y : Bool) (z1 z2 z3 z4 : Int) (A : Option Addr) (n c : Nat) (w : World) :
    Calls Tryd.prog 34 #[.agg #[.int .i64 19, .bool y, .int .i64 z1, .int .i64 z2, .int .i64 z3, .int .i64 z4, .slice A n c]] w (BeyTo w #[.int .i64 19, .bool y, .int .i64 z1, .int .i64 z2, .int .i64 z3, .int .i64 z4, .slice A n c] true) := by
  obtain ⟨W0, hW, hb0, hsz, hx, hr⟩ := two_blk w (.cells #[.int .i64 19, .bool y, .int .i64 z1, .int .i64 z2, .int .i64 z3, .int .i64 z4, .slice A n c] 30) (.cells #[.int .i64 0, .bool false, .int .i64 0, .int .i64 0, .int .i64 0, .int .i64 0, .slice none 0 0] 30)
  have HR := Lib.hid hr
  have HB0 := Lib.hid hb0
  have HW := Lib.hid hW.symm
  clear hW hb0 hr
  have p0 : W0.cell? ⟨w.heap.size, 0, none⟩ = some (.int .i64 19) := blk_cell hx 0
  have p1 : W0.cell? ⟨w.heap.size, 1, none⟩ = some (.bool y) := blk_cell hx 1
  have p2 : W0.cell? ⟨w.heap.size, 2, none⟩ = some (.int .i64 z1) := blk_cell hx 2
  have p3 : W0.cell? ⟨w.heap.size, 3, none⟩ = some (.int .i64 z2) := blk_cell hx 3
  have p4 : W0.cell? ⟨w.heap.size, 4, none⟩ = some (.int .i64 z3) := blk_cell hx 4
  have p5 : W0.cell? ⟨w.heap.size, 5, none⟩ = some (.int .i64 z4) := blk_cell hx 5
  have p6 : W0.cell? ⟨w.heap.size, 6, none⟩ = some (.slice A n c) := blk_cell hx 6
  clear hx
  have HX1 : Hid ((W0).heap[w.heap.size + 1]? = some (.cells #[.int .i64 0, .bool false, .int .i64 0, .int .i64 0, .int .i64 0, .int .i64 0, .slice none 0 0] 30 (0, 0))) := Lib.hid (HR.out)
  have HB1 : Hid (Below w.heap.size w (W0)) := Lib.hid (HB0.out)
  go_enter Tryd.func34, Tryd.ntmps34
  go_upto_region 1 with (fail)
  rw [HW.out]
  go_wp2_with (with_reducible refine wpList_store_row rfl 30 (.tmp 2) (.tmp 52) rfl (w.heap.size + 1) #[.int .i64 19, .bool y, .int .i64 z1, .int .i64 z2, .int .i64 z3, .int .i64 z4, .slice A n c] rfl rfl _ _ HX1.out (info7 _ _ _ _ _ _ _ _ _) rfl (one7 _ _ _ _ _ _ _ _ _) ?_)
  exact bodyPost_ret (v := .tuple #[.agg #[.int .i64 19, .bool y, .int .i64 z1, .int .i64 z2, .int .i64 z3, .int .i64 z4, .slice A n c], .bool true]) (results_row_tmp rfl _ _ (w.heap.size + 1) 30 #[.int .i64 19, .bool y, .int .i64 z1, .int .i64 z2, .int .i64 z3, .int .i64 z4, .slice A n c] (0, 0) _ (.bool true) rfl rfl (setRow_heap _ _ _ _ _ _ HX1.out) Tryd.underlying30 rfl (info7 _ _ _ _ _ _ _ _ _)) rfl ⟨rfl, below_setRow HB1.out (by omega) _⟩
end Go.Proofs.YtcaogiaoabdkdaaDoor
