/-
  Joined: ScHa, ScJ.
-/
import Derived.Test.YtcaogiaoabdkdaaDoorZScH
import Derived.Test.YtcaogiaoabdkdaaDoorZScHb
import Derived.Test.YtcaogiaoabdkdaaDoorZScHc
import Derived.Test.YtcaogiaoabdkdaaDoorZScHd
namespace Go.Proofs.YtcaogiaoabdkdaaDoor
set_option maxRecDepth 100000
section
open Go.RowKit Go
set_option linter.unusedVariables false
set_option linter.unusedSimpArgs false
set_option maxRecDepth 100000
set_option maxHeartbeats 2000000 in
theorem bey_0 (y : Bool) (z1 z2 z3 z4 : Int) (A : Option Addr) (n c : Nat) (w : World) :
    Calls Tryd.prog 34 #[.agg #[.int .i64 0, .bool y, .int .i64 z1, .int .i64 z2, .int .i64 z3, .int .i64 z4, .slice A n c]] w (BeyTo w #[.int .i64 0, .bool y, .int .i64 z1, .int .i64 z2, .int .i64 z3, .int .i64 z4, .slice A n c] true) := by
  obtain ⟨W0, hW, hb0, hsz, hx, hr⟩ := two_blk w (.cells #[.int .i64 0, .bool y, .int .i64 z1, .int .i64 z2, .int .i64 z3, .int .i64 z4, .slice A n c] 30) (.cells #[.int .i64 0, .bool false, .int .i64 0, .int .i64 0, .int .i64 0, .int .i64 0, .slice none 0 0] 30)
  have HR := Lib.hid hr
  have HB0 := Lib.hid hb0
  have HW := Lib.hid hW.symm
  clear hW hb0 hr
  have p0 : W0.cell? ⟨w.heap.size, 0, none⟩ = some (.int .i64 0) := blk_cell hx 0
  have p1 : W0.cell? ⟨w.heap.size, 1, none⟩ = some (.bool y) := blk_cell hx 1
  have p2 : W0.cell? ⟨w.heap.size, 2, none⟩ = some (.int .i64 z1) := blk_cell hx 2
  have p3 : W0.cell? ⟨w.heap.size, 3, none⟩ = some (.int .i64 z2) := blk_cell hx 3
  have p4 : W0.cell? ⟨w.heap.size, 4, none⟩ = some (.int .i64 z3) := blk_cell hx 4
  have p5 : W0.cell? ⟨w.heap.size, 5, none⟩ = some (.int .i64 z4) := blk_cell hx 5
  have p6 : W0.cell? ⟨w.heap.size, 6, none⟩ = some (.slice A n c) := blk_cell hx 6
  clear hx
  have HX1 : Hid ((W0).heap[w.heap.size + 1]? = some (.cells #[.int .i64 0, .bool false, .int .i64 0, .int .i64 0, .int .i64 0, .int .i64 0, .slice none 0 0] 30 (0, 0))) := Lib.hid (HR.out)
  have HB1 : Hid (Below w.heap.size w (W0)) := Lib.hid (HB0.out)
  go_enter Tryd.func34, Tryd.ntmps34
  go_upto_region 1 with (fail)
  rw [HW.out]
  go_wp2_with (with_reducible refine wpList_store_row rfl 30 (.tmp 2) (.tmp 52) rfl (w.heap.size + 1) #[.int .i64 0, .bool y, .int .i64 z1, .int .i64 z2, .int .i64 z3, .int .i64 z4, .slice A n c] rfl rfl _ _ HX1.out (info7 _ _ _ _ _ _ _ _ _) rfl (one7 _ _ _ _ _ _ _ _ _) ?_)
  exact bodyPost_ret (v := .tuple #[.agg #[.int .i64 0, .bool y, .int .i64 z1, .int .i64 z2, .int .i64 z3, .int .i64 z4, .slice A n c], .bool true]) (results_row_tmp rfl _ _ (w.heap.size + 1) 30 #[.int .i64 0, .bool y, .int .i64 z1, .int .i64 z2, .int .i64 z3, .int .i64 z4, .slice A n c] (0, 0) _ (.bool true) rfl rfl (setRow_heap _ _ _ _ _ _ HX1.out) Tryd.underlying30 rfl (info7 _ _ _ _ _ _ _ _ _)) rfl ⟨rfl, below_setRow HB1.out (by omega) _⟩
set_option maxHeartbeats 2000000 in
theorem bey_1 (y : Bool) (z1 z2 z3 z4 : Int) (A : Option Addr) (n c : Nat) (w : World) :
    Calls Tryd.prog 34 #[.agg #[.int .i64 1, .bool y, .int .i64 z1, .int .i64 z2, .int .i64 z3, .int .i64 z4, .slice A n c]] w (BeyTo w #[.int .i64 1, .bool false, .int .i64 z1, .int .i64 z2, .int .i64 z3, .int .i64 z4, .slice A n c] true) := by
  obtain ⟨W0, hW, hb0, hsz, hx, hr⟩ := two_blk w (.cells #[.int .i64 1, .bool y, .int .i64 z1, .int .i64 z2, .int .i64 z3, .int .i64 z4, .slice A n c] 30) (.cells #[.int .i64 0, .bool false, .int .i64 0, .int .i64 0, .int .i64 0, .int .i64 0, .slice none 0 0] 30)
  have HR := Lib.hid hr
  have HB0 := Lib.hid hb0
  have HW := Lib.hid hW.symm
  clear hW hb0 hr
  have p0 : W0.cell? ⟨w.heap.size, 0, none⟩ = some (.int .i64 1) := blk_cell hx 0
  have p1 : W0.cell? ⟨w.heap.size, 1, none⟩ = some (.bool y) := blk_cell hx 1
  have p2 : W0.cell? ⟨w.heap.size, 2, none⟩ = some (.int .i64 z1) := blk_cell hx 2
  have p3 : W0.cell? ⟨w.heap.size, 3, none⟩ = some (.int .i64 z2) := blk_cell hx 3
  have p4 : W0.cell? ⟨w.heap.size, 4, none⟩ = some (.int .i64 z3) := blk_cell hx 4
  have p5 : W0.cell? ⟨w.heap.size, 5, none⟩ = some (.int .i64 z4) := blk_cell hx 5
  have p6 : W0.cell? ⟨w.heap.size, 6, none⟩ = some (.slice A n c) := blk_cell hx 6
  have f1 : W0.frozen? ⟨w.heap.size, 1, none⟩ = false := blk_free hx 1
  clear hx
  have HX1 : Hid (((W0).setCell ⟨w.heap.size, 1, none⟩ (.bool false)).heap[w.heap.size + 1]? = some (.cells #[.int .i64 0, .bool false, .int .i64 0, .int .i64 0, .int .i64 0, .int .i64 0, .slice none 0 0] 30 (0, 0))) := Lib.hid ((blk_far (HR.out) (p := ⟨w.heap.size, 1, none⟩) (by show w.heap.size + 1 ≠ w.heap.size; omega) _))
  have HB1 : Hid (Below w.heap.size w ((W0).setCell ⟨w.heap.size, 1, none⟩ (.bool false))) := Lib.hid ((Below.setCell (HB0.out) (p := ⟨w.heap.size, 1, none⟩) (Nat.le_refl _) _))
  go_enter Tryd.func34, Tryd.ntmps34
  go_upto_region 1 with (fail)
  rw [HW.out]
  go_wp2_with (with_reducible refine wpList_store_row rfl 30 (.tmp 2) (.tmp 52) rfl (w.heap.size + 1) #[.int .i64 1, .bool false, .int .i64 z1, .int .i64 z2, .int .i64 z3, .int .i64 z4, .slice A n c] rfl rfl _ _ HX1.out (info7 _ _ _ _ _ _ _ _ _) rfl (one7 _ _ _ _ _ _ _ _ _) ?_)
  exact bodyPost_ret (v := .tuple #[.agg #[.int .i64 1, .bool false, .int .i64 z1, .int .i64 z2, .int .i64 z3, .int .i64 z4, .slice A n c], .bool true]) (results_row_tmp rfl _ _ (w.heap.size + 1) 30 #[.int .i64 1, .bool false, .int .i64 z1, .int .i64 z2, .int .i64 z3, .int .i64 z4, .slice A n c] (0, 0) _ (.bool true) rfl rfl (setRow_heap _ _ _ _ _ _ HX1.out) Tryd.underlying30 rfl (info7 _ _ _ _ _ _ _ _ _)) rfl ⟨rfl, below_setRow HB1.out (by omega) _⟩
set_option maxHeartbeats 2000000 in
theorem bey_2 (y : Bool) (z1 z2 z3 z4 : Int) (A : Option Addr) (n c : Nat) (w : World) :
    Calls Tryd.prog 34 #[.agg #[.int .i64 2, .bool y, .int .i64 z1, .int .i64 z2, .int .i64 z3, .int .i64 z4, .slice A n c]] w (BeyTo w #[.int .i64 2, .bool y, .int .i64 z1, .int .i64 z2, .int .i64 z3, .int .i64 z4, .slice A n c] true) := by
  obtain ⟨W0, hW, hb0, hsz, hx, hr⟩ := two_blk w (.cells #[.int .i64 2, .bool y, .int .i64 z1, .int .i64 z2, .int .i64 z3, .int .i64 z4, .slice A n c] 30) (.cells #[.int .i64 0, .bool false, .int .i64 0, .int .i64 0, .int .i64 0, .int .i64 0, .slice none 0 0] 30)
  have HR := Lib.hid hr
  have HB0 := Lib.hid hb0
  have HW := Lib.hid hW.symm
  clear hW hb0 hr
  have p0 : W0.cell? ⟨w.heap.size, 0, none⟩ = some (.int .i64 2) := blk_cell hx 0
  have p1 : W0.cell? ⟨w.heap.size, 1, none⟩ = some (.bool y) := blk_cell hx 1
  have p2 : W0.cell? ⟨w.heap.size, 2, none⟩ = some (.int .i64 z1) := blk_cell hx 2
  have p3 : W0.cell? ⟨w.heap.size, 3, none⟩ = some (.int .i64 z2) := blk_cell hx 3
  have p4 : W0.cell? ⟨w.heap.size, 4, none⟩ = some (.int .i64 z3) := blk_cell hx 4
  have p5 : W0.cell? ⟨w.heap.size, 5, none⟩ = some (.int .i64 z4) := blk_cell hx 5
  have p6 : W0.cell? ⟨w.heap.size, 6, none⟩ = some (.slice A n c) := blk_cell hx 6
  clear hx
  have HX1 : Hid ((W0).heap[w.heap.size + 1]? = some (.cells #[.int .i64 0, .bool false, .int .i64 0, .int .i64 0, .int .i64 0, .int .i64 0, .slice none 0 0] 30 (0, 0))) := Lib.hid (HR.out)
  have HB1 : Hid (Below w.heap.size w (W0)) := Lib.hid (HB0.out)
  go_enter Tryd.func34, Tryd.ntmps34
  go_upto_region 1 with (fail)
  rw [HW.out]
  go_wp2_with (with_reducible refine wpList_store_row rfl 30 (.tmp 2) (.tmp 52) rfl (w.heap.size + 1) #[.int .i64 2, .bool y, .int .i64 z1, .int .i64 z2, .int .i64 z3, .int .i64 z4, .slice A n c] rfl rfl _ _ HX1.out (info7 _ _ _ _ _ _ _ _ _) rfl (one7 _ _ _ _ _ _ _ _ _) ?_)
  exact bodyPost_ret (v := .tuple #[.agg #[.int .i64 2, .bool y, .int .i64 z1, .int .i64 z2, .int .i64 z3, .int .i64 z4, .slice A n c], .bool true]) (results_row_tmp rfl _ _ (w.heap.size + 1) 30 #[.int .i64 2, .bool y, .int .i64 z1, .int .i64 z2, .int .i64 z3, .int .i64 z4, .slice A n c] (0, 0) _ (.bool true) rfl rfl (setRow_heap _ _ _ _ _ _ HX1.out) Tryd.underlying30 rfl (info7 _ _ _ _ _ _ _ _ _)) rfl ⟨rfl, below_setRow HB1.out (by omega) _⟩
set_option maxHeartbeats 2000000 in
theorem bey_3 (y : Bool) (z1 z2 z3 z4 : Int) (A : Option Addr) (n c : Nat) (w : World) :
    Calls Tryd.prog 34 #[.agg #[.int .i64 3, .bool y, .int .i64 z1, .int .i64 z2, .int .i64 z3, .int .i64 z4, .slice A n c]] w (BeyTo w #[.int .i64 3, .bool y, .int .i64 z1, .int .i64 z2, .int .i64 z3, .int .i64 z4, .slice A n c] true) := by
  obtain ⟨W0, hW, hb0, hsz, hx, hr⟩ := two_blk w (.cells #[.int .i64 3, .bool y, .int .i64 z1, .int .i64 z2, .int .i64 z3, .int .i64 z4, .slice A n c] 30) (.cells #[.int .i64 0, .bool false, .int .i64 0, .int .i64 0, .int .i64 0, .int .i64 0, .slice none 0 0] 30)
  have HR := Lib.hid hr
  have HB0 := Lib.hid hb0
  have HW := Lib.hid hW.symm
  clear hW hb0 hr
  have p0 : W0.cell? ⟨w.heap.size, 0, none⟩ = some (.int .i64 3) := blk_cell hx 0
  have p1 : W0.cell? ⟨w.heap.size, 1, none⟩ = some (.bool y) := blk_cell hx 1
  have p2 : W0.cell? ⟨w.heap.size, 2, none⟩ = some (.int .i64 z1) := blk_cell hx 2
  have p3 : W0.cell? ⟨w.heap.size, 3, none⟩ = some (.int .i64 z2) := blk_cell hx 3
  have p4 : W0.cell? ⟨w.heap.size, 4, none⟩ = some (.int .i64 z3) := blk_cell hx 4
  have p5 : W0.cell? ⟨w.heap.size, 5, none⟩ = some (.int .i64 z4) := blk_cell hx 5
  have p6 : W0.cell? ⟨w.heap.size, 6, none⟩ = some (.slice A n c) := blk_cell hx 6
  clear hx
  have HX1 : Hid ((W0).heap[w.heap.size + 1]? = some (.cells #[.int .i64 0, .bool false, .int .i64 0, .int .i64 0, .int .i64 0, .int .i64 0, .slice none 0 0] 30 (0, 0))) := Lib.hid (HR.out)
  have HB1 : Hid (Below w.heap.size w (W0)) := Lib.hid (HB0.out)
  go_enter Tryd.func34, Tryd.ntmps34
  go_upto_region 1 with (fail)
  rw [HW.out]
  go_wp2_with (with_reducible refine wpList_store_row rfl 30 (.tmp 2) (.tmp 52) rfl (w.heap.size + 1) #[.int .i64 3, .bool y, .int .i64 z1, .int .i64 z2, .int .i64 z3, .int .i64 z4, .slice A n c] rfl rfl _ _ HX1.out (info7 _ _ _ _ _ _ _ _ _) rfl (one7 _ _ _ _ _ _ _ _ _) ?_)
  exact bodyPost_ret (v := .tuple #[.agg #[.int .i64 3, .bool y, .int .i64 z1, .int .i64 z2, .int .i64 z3, .int .i64 z4, .slice A n c], .bool true]) (results_row_tmp rfl _ _ (w.heap.size + 1) 30 #[.int .i64 3, .bool y, .int .i64 z1, .int .i64 z2, .int .i64 z3, .int .i64 z4, .slice A n c] (0, 0) _ (.bool true) rfl rfl (setRow_heap _ _ _ _ _ _ HX1.out) Tryd.underlying30 rfl (info7 _ _ _ _ _ _ _ _ _)) rfl ⟨rfl, below_setRow HB1.out (by omega) _⟩
set_option maxHeartbeats 2000000 in
theorem bey_4 (y : Bool) (z1 z2 z3 z4 : Int) (A : Option Addr) (n c : Nat) (w : World) :
    Calls Tryd.prog 34 #[.agg #[.int .i64 4, .bool y, .int .i64 z1, .int .i64 z2, .int .i64 z3, .int .i64 z4, .slice A n c]] w (BeyTo w #[.int .i64 4, .bool y, .int .i64 z1, .int .i64 z2, .int .i64 z3, .int .i64 z4, .slice A n c] true) := by
  obtain ⟨W0, hW, hb0, hsz, hx, hr⟩ := two_blk w (.cells #[.int .i64 4, .bool y, .int .i64 z1, .int .i64 z2, .int .i64 z3, .int .i64 z4, .slice A n c] 30) (.cells #[.int .i64 0, .bool false, .int .i64 0, .int .i64 0, .int .i64 0, .int .i64 0, .slice none 0 0] 30)
  have HR := Lib.hid hr
  have HB0 := Lib.hid hb0
  have HW := Lib.hid hW.symm
  clear hW hb0 hr
  have p0 : W0.cell? ⟨w.heap.size, 0, none⟩ = some (.int .i64 4) := blk_cell hx 0
  have p1 : W0.cell? ⟨w.heap.size, 1, none⟩ = some (.bool y) := blk_cell hx 1
  have p2 : W0.cell? ⟨w.heap.size, 2, none⟩ = some (.int .i64 z1) := blk_cell hx 2
  have p3 : W0.cell? ⟨w.heap.size, 3, none⟩ = some (.int .i64 z2) := blk_cell hx 3
  have p4 : W0.cell? ⟨w.heap.size, 4, none⟩ = some (.int .i64 z3) := blk_cell hx 4
  have p5 : W0.cell? ⟨w.heap.size, 5, none⟩ = some (.int .i64 z4) := blk_cell hx 5
  have p6 : W0.cell? ⟨w.heap.size, 6, none⟩ = some (.slice A n c) := blk_cell hx 6
  clear hx
  have HX1 : Hid ((W0).heap[w.heap.size + 1]? = some (.cells #[.int .i64 0, .bool false, .int .i64 0, .int .i64 0, .int .i64 0, .int .i64 0, .slice none 0 0] 30 (0, 0))) := Lib.hid (HR.out)
  have HB1 : Hid (Below w.heap.size w (W0)) := Lib.hid (HB0.out)
  go_enter Tryd.func34, Tryd.ntmps34
  go_upto_region 1 with (fail)
  rw [HW.out]
  go_wp2_with (with_reducible refine wpList_store_row rfl 30 (.tmp 2) (.tmp 52) rfl (w.heap.size + 1) #[.int .i64 4, .bool y, .int .i64 z1, .int .i64 z2, .int .i64 z3, .int .i64 z4, .slice A n c] rfl rfl _ _ HX1.out (info7 _ _ _ _ _ _ _ _ _) rfl (one7 _ _ _ _ _ _ _ _ _) ?_)
  exact bodyPost_ret (v := .tuple #[.agg #[.int .i64 4, .bool y, .int .i64 z1, .int .i64 z2, .int .i64 z3, .int .i64 z4, .slice A n c], .bool true]) (results_row_tmp rfl _ _ (w.heap.size + 1) 30 #[.int .i64 4, .bool y, .int .i64 z1, .int .i64 z2, .int .i64 z3, .int .i64 z4, .slice A n c] (0, 0) _ (.bool true) rfl rfl (setRow_heap _ _ _ _ _ _ HX1.out) Tryd.underlying30 rfl (info7 _ _ _ _ _ _ _ _ _)) rfl ⟨rfl, below_setRow HB1.out (by omega) _⟩
end
section
open Go.RowKit Go
set_option linter.unusedVariables false
set_option linter.unusedSimpArgs false
set_option maxRecDepth 100000
theorem bey_any (k : Nat) (hk : k < 20) (y : Bool) (z1 z2 z3 z4 : Int) (A : Option Addr) (n c : Nat) (b : List Nat) (w : World) (hs : BS w w.heap.size A n c b) :
    Calls Tryd.prog 34 #[.agg #[.int .i64 (k : Int), .bool y, .int .i64 z1, .int .i64 z2, .int .i64 z3, .int .i64 z4, .slice A n c]] w (fun e w' => ∃ (A' : Option Addr) (c' : Nat) (zb : List Nat), zb = (if hasF (k : Int) 98 = true then [] else b) ∧ e = .returned (.tuple #[.agg #[.int .i64 (k : Int), .bool (!hasF (k : Int) 121 && y), .int .i64 (if hasF (k : Int) 119 = true then 0 else z1), .int .i64 (if hasF (k : Int) 107 = true then 0 else z2), .int .i64 (if hasF (k : Int) 110 = true then 0 else z3), .int .i64 (if hasF (k : Int) 97 = true then 0 else z4), .slice A' zb.length c'], .bool true]) ∧ Below w.heap.size w w' ∧ BS w w.heap.size A' zb.length c' zb) := by
  have hl := hs.len
  subst hl
  match k, hk with
  | 0, _ => exact (bey_0 y z1 z2 z3 z4 A b.length c w).mono fun e w' h => ⟨A, c, b, rfl, h.1, h.2, hs⟩
  | 1, _ => exact (bey_1 y z1 z2 z3 z4 A b.length c w).mono fun e w' h => ⟨A, c, b, rfl, h.1, h.2, hs⟩
  | 2, _ => exact (bey_2 y z1 z2 z3 z4 A b.length c w).mono fun e w' h => ⟨A, c, b, rfl, h.1, h.2, hs⟩
  | 3, _ => exact (bey_3 y z1 z2 z3 z4 A b.length c w).mono fun e w' h => ⟨A, c, b, rfl, h.1, h.2, hs⟩
  | 4, _ => exact (bey_4 y z1 z2 z3 z4 A b.length c w).mono fun e w' h => ⟨A, c, b, rfl, h.1, h.2, hs⟩
  | 5, _ => exact (bey_5 y z1 z2 z3 z4 A b.length c w).mono fun e w' h => ⟨A, c, b, rfl, h.1, h.2, hs⟩
  | 6, _ => exact (bey_6 y z1 z2 z3 z4 A b.length c w).mono fun e w' h => ⟨A, c, b, rfl, h.1, h.2, hs⟩
  | 7, _ => exact (bey_7 y z1 z2 z3 z4 A b.length c w).mono fun e w' h => ⟨A, c, b, rfl, h.1, h.2, hs⟩
  | 8, _ => exact (bey_8 y z1 z2 z3 z4 A b.length c w).mono fun e w' h => ⟨A, c, b, rfl, h.1, h.2, hs⟩
  | 9, _ => exact (bey_9 y z1 z2 z3 z4 A b.length c w).mono fun e w' h => ⟨none, 0, [], rfl, h.1, h.2, BS.nil _ _⟩
  | 10, _ => exact (bey_10 y z1 z2 z3 z4 A b.length c w).mono fun e w' h => ⟨A, c, b, rfl, h.1, h.2, hs⟩
  | 11, _ => exact (bey_11 y z1 z2 z3 z4 A b.length c w).mono fun e w' h => ⟨A, c, b, rfl, h.1, h.2, hs⟩
  | 12, _ => exact (bey_12 y z1 z2 z3 z4 A b.length c w).mono fun e w' h => ⟨A, c, b, rfl, h.1, h.2, hs⟩
  | 13, _ => exact (bey_13 y z1 z2 z3 z4 A b.length c w).mono fun e w' h => ⟨A, c, b, rfl, h.1, h.2, hs⟩
  | 14, _ => exact (bey_14 y z1 z2 z3 z4 A b.length c w).mono fun e w' h => ⟨A, c, b, rfl, h.1, h.2, hs⟩
  | 15, _ => exact (bey_15 y z1 z2 z3 z4 A b.length c w).mono fun e w' h => ⟨A, c, b, rfl, h.1, h.2, hs⟩
  | 16, _ => exact (bey_16 y z1 z2 z3 z4 A b.length c w).mono fun e w' h => ⟨none, 0, [], rfl, h.1, h.2, BS.nil _ _⟩
  | 17, _ => exact (bey_17 y z1 z2 z3 z4 A b.length c w).mono fun e w' h => ⟨none, 0, [], rfl, h.1, h.2, BS.nil _ _⟩
  | 18, _ => exact (bey_18 y z1 z2 z3 z4 A b.length c w).mono fun e w' h => ⟨none, 0, [], rfl, h.1, h.2, BS.nil _ _⟩
  | 19, _ => exact (bey_19 y z1 z2 z3 z4 A b.length c w).mono fun e w' h => ⟨A, c, b, rfl, h.1, h.2, hs⟩
  | k + 20, h => exact absurd h (by omega)
theorem may_split (k : Nat) (hk : k < 20) (y : Bool) (z1 z2 z3 z4 : Int) (b zb : List Nat) (hz : zb = (if hasF (k : Int) 98 = true then [] else b)) :
    mayA ⟨(k : Int), y, z1, z2, z3, z4, b⟩ = ((sameH (k : Int) (k : Int) (if hasF (k : Int) 119 = true then 0 else z1) 0 (if hasF (k : Int) 107 = true then 0 else z2) 0 (if hasF (k : Int) 110 = true then 0 else z3) 0 (if hasF (k : Int) 97 = true then 0 else z4) 0 (!hasF (k : Int) 121 && y) false && decide (zb = [])) && fitsB z1 z2 z3 z4 b.length) := by
  subst hz
  unfold mayA mayN' sameH fitsB numF
  dsimp only
  generalize hasF (k : Int) 119 = q1
  generalize hasF (k : Int) 107 = q2
  generalize hasF (k : Int) 110 = q3
  generalize hasF (k : Int) 97 = q4
  generalize hasF (k : Int) 121 = q5
  generalize hasF (k : Int) 98 = q6
  rw [Bool.eq_iff_iff]
  simp only [Bool.and_eq_true, Bool.or_eq_true, decide_eq_true_eq, Bool.not_eq_true']
  have h0 : (0 : Int) ≤ (k : Int) := by omega
  have h1 : (k : Int) ≤ 19 := by omega
  have e : ∀ (q : Bool) (z : Int), ((if q = true then (0 : Int) else z) = 0) ↔ (q = true ∨ z = 0) := fun q z => by cases q <;> simp
  have eb : ((if q6 = true then [] else b) = []) ↔ (b.length = 0 ∨ q6 = true) := by cases q6 <;> simp
  have ey : ((!q5 && y) = false) ↔ (y = false ∨ q5 = true) := by cases q5 <;> cases y <;> simp
  rw [e, e, e, e, eb, ey]
  constructor
  · rintro ⟨⟨_, _, h2⟩, ⟨a1, a2, a3⟩, ⟨b1, b2, b3⟩, ⟨c1, c2, c3⟩, ⟨d1, d2, d3⟩, g1, g2⟩
    exact ⟨⟨⟨trivial, g1, a3, b3, c3, d3⟩, g2⟩, ⟨⟨a1, a2⟩, ⟨b1, b2⟩, ⟨c1, c2⟩, d1, d2⟩, h2⟩
  · rintro ⟨⟨⟨_, g1, a3, b3, c3, d3⟩, g2⟩, ⟨⟨a1, a2⟩, ⟨b1, b2⟩, ⟨c1, c2⟩, d1, d2⟩, h2⟩
    exact ⟨⟨h0, h1, h2⟩, ⟨a1, a2, a3⟩, ⟨b1, b2, b3⟩, ⟨c1, c2, c3⟩, ⟨d1, d2, d3⟩, g1, g2⟩
set_option maxHeartbeats 4000000 in
theorem pmay_in (k : Nat) (hk : k < 20) (y : Bool) (z1 z2 z3 z4 : Int) (A : Option Addr) (n c : Nat) (b : List Nat) (w : World) (hs : BS w w.heap.size A n c b) :
    Calls Tryd.prog 17 #[.agg #[.int .i64 (k : Int), .bool y, .int .i64 z1, .int .i64 z2, .int .i64 z3, .int .i64 z4, .slice A n c]] w (SameTo w (mayA ⟨(k : Int), y, z1, z2, z3, z4, b⟩)) := by
  obtain ⟨W0, hW⟩ : ∃ W0, W0 = w.alloc (.cells #[.int .i64 (k : Int), .bool y, .int .i64 z1, .int .i64 z2, .int .i64 z3, .int .i64 z4, .slice A n c] 30) := ⟨_, rfl⟩
  have HX : Hid (W0.heap[w.heap.size]? = some (.cells #[.int .i64 (k : Int), .bool y, .int .i64 z1, .int .i64 z2, .int .i64 z3, .int .i64 z4, .slice A n c] 30 (0, 0))) := Lib.hid (by rw [hW]; exact heap_alloc_new w _)
  have HB0 : Hid (Below w.heap.size w W0) := Lib.hid (by rw [hW]; exact al1 _ _)
  have hsz : W0.heap.size = w.heap.size + 1 := by rw [hW]; simp
  have HSZ := Lib.hid hsz
  have HS : Hid (BS W0 w.heap.size A n c b) := Lib.hid (hs.below HB0.out)
  have HL := Lib.hid hs.len
  have HBE := Lib.hid (bey_any k hk y z1 z2 z3 z4 A n c b W0 (HS.out.more (by omega)))
  have HM := Lib.hid (fun zb hz => may_split k hk y z1 z2 z3 z4 b zb hz)
  have HFI := Lib.hid (fits_any (k : Int) y z1 z2 z3 z4 A n c)
  have HW := Lib.hid hW.symm
  clear hW hsz hs
  generalize (if hasF (k : Int) 119 = true then 0 else z1) = z1' at *
  generalize (if hasF (k : Int) 107 = true then 0 else z2) = z2' at *
  generalize (if hasF (k : Int) 110 = true then 0 else z3) = z3' at *
  generalize (if hasF (k : Int) 97 = true then 0 else z4) = z4' at *
  generalize (!hasF (k : Int) 121 && y) = y' at *
  generalize mayA ⟨(k : Int), y, z1, z2, z3, z4, b⟩ = R at *
  have p := blk_cell HX.out
  clear p
  have p0 : W0.cell? ⟨w.heap.size, 0, none⟩ = some (.int .i64 (k : Int)) := blk_cell HX.out 0
  have p1 : W0.cell? ⟨w.heap.size, 1, none⟩ = some (.bool y) := blk_cell HX.out 1
  have p2 : W0.cell? ⟨w.heap.size, 2, none⟩ = some (.int .i64 z1) := blk_cell HX.out 2
  have p3 : W0.cell? ⟨w.heap.size, 3, none⟩ = some (.int .i64 z2) := blk_cell HX.out 3
  have p4 : W0.cell? ⟨w.heap.size, 4, none⟩ = some (.int .i64 z3) := blk_cell HX.out 4
  have p5 : W0.cell? ⟨w.heap.size, 5, none⟩ = some (.int .i64 z4) := blk_cell HX.out 5
  have p6 : W0.cell? ⟨w.heap.size, 6, none⟩ = some (.slice A n c) := blk_cell HX.out 6
  go_enter Tryd.func17, Tryd.ntmps17
  go_upto_region 1 with (fail)
  rw [HW.out]
  go_wp2_with fail
  refine HBE.out.mono ?_
  rintro e w1 ⟨A', c', zb, hzb, rfl, hb1, hs1⟩
  obtain ⟨n', hn'⟩ : ∃ n', zb.length = n' := ⟨_, rfl⟩
  rw [hn'] at hs1 ⊢
  have HR := Lib.hid (HM.out zb hzb)
  rw [HL.out] at HR
  clear HM hzb p0 p1 p2 p3 p4 p5 p6
  have HB1 : Hid (Below W0.heap.size W0 w1) := Lib.hid hb1
  have HS1 : Hid (BS W0 W0.heap.size A' n' c' zb) := Lib.hid hs1
  obtain ⟨W2, hW2⟩ : ∃ W2, W2 = w1.alloc (.cells #[.int .i64 (k : Int), .bool y', .int .i64 z1', .int .i64 z2', .int .i64 z3', .int .i64 z4', .slice A' n' c'] 30) := ⟨_, rfl⟩
  have HA2 : Hid (After W0 W2) := Lib.hid (by rw [hW2]; exact Below.alloc hb1 hb1.size _)
  have HX2 : Hid (W2.heap[w1.heap.size]? = some (.cells #[.int .i64 (k : Int), .bool y', .int .i64 z1', .int .i64 z2', .int .i64 z3', .int .i64 z4', .slice A' n' c'] 30 (0, 0))) := Lib.hid (by rw [hW2]; exact heap_alloc_new _ _)
  have HXB : Hid (W2.heap[w.heap.size]? = some (.cells #[.int .i64 (k : Int), .bool y, .int .i64 z1, .int .i64 z2, .int .i64 z3, .int .i64 z4, .slice A n c] 30 (0, 0))) := Lib.hid ((Below.block HA2.out _ (by rw [HSZ.out]; omega)).trans HX.out)
  have HBW : Hid (∀ w', After W2 w' → Below w.heap.size w w') := Lib.hid (fun w' h => HB0.out.trans (Below.mono (Below.trans HA2.out (Below.mono h (Below.size HA2.out))) (by rw [HSZ.out]; omega)))
  have HSM := Lib.hid (same_in (k : Int) y' z1' z2' z3' z4' A' n' c' (k : Int) false 0 0 0 0 none 0 0 zb [] W2 ((HS1.out.below HA2.out).more (Below.size HA2.out)) (BS.nil _ _))
  have HW2 := Lib.hid hW2.symm
  clear hb1 hs1 hW2 hn'
  have q0 : W2.cell? ⟨w1.heap.size, 0, none⟩ = some (.int .i64 (k : Int)) := blk_cell HX2.out 0
  have q1 : W2.cell? ⟨w1.heap.size, 1, none⟩ = some (.bool y') := blk_cell HX2.out 1
  have q2 : W2.cell? ⟨w1.heap.size, 2, none⟩ = some (.int .i64 z1') := blk_cell HX2.out 2
  have q3 : W2.cell? ⟨w1.heap.size, 3, none⟩ = some (.int .i64 z2') := blk_cell HX2.out 3
  have q4 : W2.cell? ⟨w1.heap.size, 4, none⟩ = some (.int .i64 z3') := blk_cell HX2.out 4
  have q5 : W2.cell? ⟨w1.heap.size, 5, none⟩ = some (.int .i64 z4') := blk_cell HX2.out 5
  have q6 : W2.cell? ⟨w1.heap.size, 6, none⟩ = some (.slice A' n' c') := blk_cell HX2.out 6
  have r0 : W2.cell? ⟨w.heap.size, 0, none⟩ = some (.int .i64 (k : Int)) := blk_cell HXB.out 0
  have r1 : W2.cell? ⟨w.heap.size, 1, none⟩ = some (.bool y) := blk_cell HXB.out 1
  have r2 : W2.cell? ⟨w.heap.size, 2, none⟩ = some (.int .i64 z1) := blk_cell HXB.out 2
  have r3 : W2.cell? ⟨w.heap.size, 3, none⟩ = some (.int .i64 z2) := blk_cell HXB.out 3
  have r4 : W2.cell? ⟨w.heap.size, 4, none⟩ = some (.int .i64 z3) := blk_cell HXB.out 4
  have r5 : W2.cell? ⟨w.heap.size, 5, none⟩ = some (.int .i64 z4) := blk_cell HXB.out 5
  have r6 : W2.cell? ⟨w.heap.size, 6, none⟩ = some (.slice A n c) := blk_cell HXB.out 6
  go_upto_region 2 with (fail)
  rw [HW2.out]
  go_wp2_with fail
  refine HSM.out.mono ?_
  rintro e w3 ⟨rfl, hb3⟩
  have HB3 : Hid (After W2 w3) := Lib.hid hb3
  have HX3 : Hid (w3.heap[w.heap.size]? = some (.cells #[.int .i64 (k : Int), .bool y, .int .i64 z1, .int .i64 z2, .int .i64 z3, .int .i64 z4, .slice A n c] 30 (0, 0))) := Lib.hid ((hb3.block _ (blk_lt HXB.out)).trans HXB.out)
  clear hb3 q0 q1 q2 q3 q4 q5 q6 r0 r1 r2 r3 r4 r5 r6
  cases hr : (sameH (k : Int) (k : Int) z1' 0 z2' 0 z3' 0 z4' 0 y' false && decide (zb = []))
  · have HF : Hid (SameTo w R (.returned (.bool false)) w3) := Lib.hid ⟨by rw [HR.out, hr]; rfl, HBW.out _ HB3.out⟩
    clear hr
    go_wp2
    go_ret
    exact HF.out
  · have HRR : Hid (R = fitsB z1 z2 z3 z4 n) := Lib.hid (by rw [HR.out, hr]; rfl)
    clear hr
    have q0 : w3.cell? ⟨w.heap.size, 0, none⟩ = some (.int .i64 (k : Int)) := blk_cell HX3.out 0
    have q1 : w3.cell? ⟨w.heap.size, 1, none⟩ = some (.bool y) := blk_cell HX3.out 1
    have q2 : w3.cell? ⟨w.heap.size, 2, none⟩ = some (.int .i64 z1) := blk_cell HX3.out 2
    have q3 : w3.cell? ⟨w.heap.size, 3, none⟩ = some (.int .i64 z2) := blk_cell HX3.out 3
    have q4 : w3.cell? ⟨w.heap.size, 4, none⟩ = some (.int .i64 z3) := blk_cell HX3.out 4
    have q5 : w3.cell? ⟨w.heap.size, 5, none⟩ = some (.int .i64 z4) := blk_cell HX3.out 5
    have q6 : w3.cell? ⟨w.heap.size, 6, none⟩ = some (.slice A n c) := blk_cell HX3.out 6
    go_wp2_with fail
    refine (HFI.out _).mono ?_
    rintro e w4 ⟨rfl, hb4⟩
    have HF : Hid (SameTo w R (.returned (.bool (fitsB z1 z2 z3 z4 n))) w4) := Lib.hid ⟨by rw [HRR.out], HBW.out _ (After.next HB3.out hb4)⟩
    generalize fitsB z1 z2 z3 z4 n = d at *
    clear hb4 q0 q1 q2 q3 q4 q5 q6
    go_wp2
    go_ret
    exact HF.out
set_option maxHeartbeats 4000000 in
theorem pmay_no (kd : Int) (hk : kd < 0 ∨ 19 < kd) (y : Bool) (z1 z2 z3 z4 : Int) (A : Option Addr) (n c : Nat) (b : List Nat) (w : World) :
    Calls Tryd.prog 17 #[.agg #[.int .i64 kd, .bool y, .int .i64 z1, .int .i64 z2, .int .i64 z3, .int .i64 z4, .slice A n c]] w (SameTo w (mayA ⟨kd, y, z1, z2, z3, z4, b⟩)) := by
  have HM : Hid (mayA ⟨kd, y, z1, z2, z3, z4, b⟩ = false) := Lib.hid (by unfold mayA; rw [decide_eq_false (by dsimp only; omega), Bool.false_and])
  have HX := Lib.hid (heap_alloc_new w (.cells #[.int .i64 kd, .bool y, .int .i64 z1, .int .i64 z2, .int .i64 z3, .int .i64 z4, .slice A n c] 30))
  have HB0 := Lib.hid (al1 w (.cells #[.int .i64 kd, .bool y, .int .i64 z1, .int .i64 z2, .int .i64 z3, .int .i64 z4, .slice A n c] 30))
  have hx := HX.out
  have HBE := Lib.hid (bey_no kd hk y z1 z2 z3 z4 A n c (w.alloc (.cells #[.int .i64 kd, .bool y, .int .i64 z1, .int .i64 z2, .int .i64 z3, .int .i64 z4, .slice A n c] 30)))
  clear hk
  go_enter Tryd.func17, Tryd.ntmps17
  go_wp2_with fail
  refine HBE.out.mono ?_
  rintro e w1 ⟨rfl, hb1⟩
  have HF : Hid (∀ o, SameTo w (mayA ⟨kd, y, z1, z2, z3, z4, b⟩) (.returned (.bool false)) (w1.alloc o)) := Lib.hid (fun o => ⟨by rw [HM.out], HB0.out.trans ((Below.alloc hb1 hb1.size o).mono (Below.size HB0.out))⟩)
  clear hb1
  go_wp2
  go_ret
  exact HF.out _
theorem pmay_any (a : Ac) (A : Option Addr) (n c : Nat) (w : World) (hs : BS w w.heap.size A n c a.b) :
    Calls Tryd.prog 17 #[.agg #[.int .i64 a.kind, .bool a.yes, .int .i64 a.which, .int .i64 a.k, .int .i64 a.n, .int .i64 a.pos, .slice A n c]] w (SameTo w (mayA a)) := by
  by_cases h : a.kind < 0 ∨ 19 < a.kind
  · exact pmay_no a.kind h a.yes a.which a.k a.n a.pos A n c a.b w
  · obtain ⟨k, hk⟩ : ∃ k : Nat, a.kind = (k : Int) := ⟨a.kind.toNat, by omega⟩
    have := pmay_in k (by omega) a.yes a.which a.k a.n a.pos A n c a.b w hs
    rw [← hk] at this
    exact this
end
end Go.Proofs.YtcaogiaoabdkdaaDoor
