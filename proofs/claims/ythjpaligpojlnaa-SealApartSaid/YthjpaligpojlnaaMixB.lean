/-
  Mix and Unmix.
-/
import Derived.Test.YthjpaligpojlnaaMixA
import Derived.Test.YthjpaligpojlnaaSl
import Derived.Deep.RegionWith
import Derived.Laws.CopyOwn
import Derived.Laws.Tables
namespace Go.Proofs.Ythjpaligpojlnaa
open Go.RowKit
set_option linter.unusedVariables false
def colA (C : Nat → Nat) : Array Value := #[.int .u8 ((C 0 : Nat) : Int), .int .u8 ((C 1 : Nat) : Int), .int .u8 ((C 2 : Nat) : Int), .int .u8 ((C 3 : Nat) : Int)]
def funA (fid : Nat → FuncId) : Array Value := #[.func (Fn.func (fid 0)) #[] #[], .func (Fn.func (fid 1)) #[] #[], .func (Fn.func (fid 2)) #[] #[], .func (Fn.func (fid 3)) #[] #[]]
theorem colA_at (C : Nat → Nat) {i : Nat} (h : i < 4) : (colA C)[i]? = some (.int .u8 ((C i : Nat) : Int)) := by
  rcases (by omega : i = 0 ∨ i = 1 ∨ i = 2 ∨ i = 3) with rfl | rfl | rfl | rfl <;> rfl
theorem funA_at (fid : Nat → FuncId) {i : Nat} (h : i < 4) : (funA fid)[i]? = some (.func (Fn.func (fid i)) #[] #[]) := by
  rcases (by omega : i = 0 ∨ i = 1 ∨ i = 2 ∨ i = 3) with rfl | rfl | rfl | rfl <;> rfl
theorem row4 (f : Nat → Nat) : rowOf f 4 4 = colA f := rfl
theorem info_col (C : Nat → Nat) : (Try.prog.info? 69).map (·.size) = some (colA C).size := by kernel_rfl
theorem one_col (C : Nat → Nat) : (colA C).all (·.oneCell') = true := by simp [colA, Value.oneCell']
def MixedRel (w : World) (C : Nat → Nat) (fid : Nat → FuncId) (M : Nat → Nat) (v : Value) (wr : World) : Prop :=
  ∃ n : Nat, v = .int .i64 (n : Int) ∧ n ≤ 4 ∧ Below w.heap.size w wr ∧ w.heap.size + 4 ≤ wr.heap.size ∧ wr.heap[w.heap.size]? = some (.cells (colA C) 69 (0, 0)) ∧
    wr.heap[w.heap.size + 1]? = some (.cells (funA fid) 168 (0, 0)) ∧ wr.heap[w.heap.size + 1 + 1]? = some (.cells (zeros 4) 69 (0, 0)) ∧ wr.heap[w.heap.size + 1 + 1 + 1]? = some (.cells (rowOf M 4 n) 69 (0, 0))
theorem mixed_start (w : World) (C : Nat → Nat) (fid : Nat → FuncId) (M : Nat → Nat) : MixedRel w C fid M (.int .i64 0)
    ((((w.alloc (.cells (colA C) 69)).alloc (.cells (funA fid) 168)).alloc (.cells #[.int .u8 0, .int .u8 0, .int .u8 0, .int .u8 0] 69)).alloc (.cells #[.int .u8 0, .int .u8 0, .int .u8 0, .int .u8 0] 69)) := by
  have b1 : (w.alloc (.cells (colA C) 69)).heap[w.heap.size]? = some (.cells (colA C) 69 (0, 0)) := heap_alloc_new w _
  have e1 : ∀ o, (w.alloc o).heap.size = w.heap.size + 1 := fun o => by simp
  have b2 := heap_alloc_new (w.alloc (.cells (colA C) 69)) (.cells (funA fid) 168)
  rw [e1] at b2
  have b3 := heap_alloc_new ((w.alloc (.cells (colA C) 69)).alloc (.cells (funA fid) 168)) (.cells (zeros 4) 69)
  have e2 : ∀ o o', ((w.alloc o).alloc o').heap.size = w.heap.size + 1 + 1 := fun o o' => by simp
  rw [e2] at b3
  have b4 := heap_alloc_new (((w.alloc (.cells (colA C) 69)).alloc (.cells (funA fid) 168)).alloc (.cells (zeros 4) 69)) (.cells (zeros 4) 69)
  have e3 : ∀ o o' o'', (((w.alloc o).alloc o').alloc o'').heap.size = w.heap.size + 1 + 1 + 1 := fun o o' o'' => by simp
  rw [e3] at b4
  refine ⟨0, rfl, by omega, ?_, by simp, ?_, ?_, ?_, b4⟩
  · exact ((((Below.refl _ _).alloc (Nat.le_refl _) _).alloc (by rw [e1]; omega) _).alloc (by rw [e2]; omega) _).alloc (by rw [e3]; omega) _
  · exact blk_alloc (blk_alloc (blk_alloc b1 _) _) _
  · exact blk_alloc (blk_alloc b2 _) _
  · exact blk_alloc b3 _
theorem below_drewN' {B : Nat} {a w : World} (h : Below B a w) (n : Nat) : Below B a (w.drewN n) := ⟨h.os, h.tape, h.output, h.size, h.block⟩
theorem mixed_step {w W : World} {C : Nat → Nat} {fid : Nat → FuncId} {M : Nat → Nat} {n q : Nat} (hn : n < 4) (hb : Below w.heap.size w W) (hs : w.heap.size + 4 ≤ W.heap.size)
    (d1 : W.heap[w.heap.size]? = some (.cells (colA C) 69 (0, 0))) (d2 : W.heap[w.heap.size + 1]? = some (.cells (funA fid) 168 (0, 0)))
    (d3 : W.heap[w.heap.size + 1 + 1]? = some (.cells (zeros 4) 69 (0, 0))) (d4 : W.heap[w.heap.size + 1 + 1 + 1]? = some (.cells (rowOf M 4 n) 69 (0, 0))) :
    MixedRel w C fid M (.int .i64 ((n : Int) + 1)) ((W.drewN q).setCell ⟨w.heap.size + 1 + 1 + 1, n, none⟩ (.int .u8 ((M n : Nat) : Int))) := by
  have e1 : (W.drewN q).heap[w.heap.size]? = some (.cells (colA C) 69 (0, 0)) := d1
  have e2 : (W.drewN q).heap[w.heap.size + 1]? = some (.cells (funA fid) 168 (0, 0)) := d2
  have e3 : (W.drewN q).heap[w.heap.size + 1 + 1]? = some (.cells (zeros 4) 69 (0, 0)) := d3
  have e4 : (W.drewN q).heap[w.heap.size + 1 + 1 + 1]? = some (.cells (rowOf M 4 n) 69 (0, 0)) := d4
  refine ⟨n + 1, rfl, by omega, (below_drewN' hb q).setCell (by show w.heap.size ≤ w.heap.size + 1 + 1 + 1; omega) _, ?_, ?_, ?_, ?_, ?_⟩
  · rw [size_set]; exact hs
  · exact blk_far e1 (p := ⟨w.heap.size + 1 + 1 + 1, n, none⟩) (by show w.heap.size ≠ w.heap.size + 1 + 1 + 1; omega) _
  · exact blk_far e2 (p := ⟨w.heap.size + 1 + 1 + 1, n, none⟩) (by show w.heap.size + 1 ≠ w.heap.size + 1 + 1 + 1; omega) _
  · exact blk_far e3 (p := ⟨w.heap.size + 1 + 1 + 1, n, none⟩) (by show w.heap.size + 1 + 1 ≠ w.heap.size + 1 + 1 + 1; omega) _
  · exact blk_set e4 n _
set_option maxHeartbeats 1000000 in
theorem mixed_any (fid : Nat → FuncId) (C fac : Nat → Nat) (hC : ∀ i, C i < 256) (hT : ∀ j, j < 4 → Times (fid j) (fac j) ∧ Enters (fid j)) (w : World) :
    Calls Try.prog 98 #[.agg (colA C), .agg (funA fid)] w fun e w' => e = .returned (.agg (colA fun k => mixS C fac k 4)) ∧ Below w.heap.size w w' := by
  have H0 := Lib.hid (mixed_start w C fid (fun k => mixS C fac k 4))
  have HC := Lib.hid hC
  have HT := Lib.hid hT
  clear hC hT
  go_enter Try.func98, Try.ntmps98
  go_wp2
  go_loopw [7] (fun v wr => MixedRel w C fid (fun k => mixS C fac k 4) v wr) (fun v _ => (4 - intOf v).toNat)
  case atStart => exact H0.out
  case round =>
    obtain ⟨n, rfl, hn, hb, hsz, c1, c2, c3, c4⟩ := hrel
    have C1 := Lib.hid c1
    have C2 := Lib.hid c2
    have C3 := Lib.hid c3
    have C4 := Lib.hid c4
    clear c1 c2 c3 c4 H0
    by_cases hlt : n < 4
    · have hb1 : Below w.heap.size w (wr.alloc (.cells #[.int .i64 (n : Int)] 3)) := hb.alloc hb.size _
      have D1 := Lib.hid (blk_alloc C1.out (.cells #[.int .i64 (n : Int)] 3))
      have D2 := Lib.hid (blk_alloc C2.out (.cells #[.int .i64 (n : Int)] 3))
      have D3 := Lib.hid (blk_alloc C3.out (.cells #[.int .i64 (n : Int)] 3))
      have D4 := Lib.hid (blk_alloc C4.out (.cells #[.int .i64 (n : Int)] 3))
      have D5 := Lib.hid (heap_alloc_new wr (.cells #[.int .i64 (n : Int)] 3))
      have hsz1 : w.heap.size + 4 ≤ (wr.alloc (.cells #[.int .i64 (n : Int)] 3)).heap.size := by simp; omega
      clear hb C1 C2 C3 C4 hsz
      go_wp2
      generalize (wr.alloc (.cells #[.int .i64 (n : Int)] 3)) = W at *
      generalize wr.heap.size = b3 at *
      have k3 : W.cell? ⟨b3, 0, none⟩ = some (.int .i64 (n : Int)) := by simpa using blk_cell D5.out 0
      have k4 : W.cell? ⟨w.heap.size + 1 + 1 + 1, n, none⟩ = some _ := (blk_cell D4.out n).trans (Array.getElem?_eq_getElem (by rw [rowOf_size]; omega))
      have k5 := blk_free D4.out n
      generalize (rowOf (fun k => mixS C fac k 4) 4 n)[n]'_ = old at k4
      go_region_with (first
        | (go_at_call 45; refine (sum_mix fid C fac n hlt HC.out HT.out _ _ _ _ (by intro j hj; exact (blk_cell D2.out j).trans (funA_at fid hj)) (by intro j hj; exact (blk_cell D1.out j).trans (colA_at C hj)) (by exact k3)).mono ?_; rintro e w' ⟨rfl, q, rfl⟩))
      all_goals
        go_wp2
        go_roundw
        case rel => exact mixed_step (q := 1 + q) hlt hb1 hsz1 D1.out D2.out D3.out D4.out
        case measure => simp [intOf]; omega
    · obtain rfl : n = 4 := by omega
      rw [row4] at C4
      have hx : ((wr.setRow (w.heap.size + 1 + 1) (colA fun k => mixS C fac k 4))).heap[w.heap.size + 1 + 1]? = some (.cells (colA fun k => mixS C fac k 4) 69 (0, 0)) := setRow_heap wr _ _ _ _ _ C3.out
      have hb2 : Below w.heap.size w (wr.setRow (w.heap.size + 1 + 1) (colA fun k => mixS C fac k 4)) := below_setRow hb (by omega) _
      have HX := Lib.hid hx
      have HB := Lib.hid hb2
      clear hx hb2 hb
      go_wp2_with (first
        | (with_reducible refine wpList_load_row rfl 69 (.tmp 5) rfl _ rfl 69 _ _ _ C4.out Try.underlying69 rfl (info_col _) ?_)
        | (with_reducible refine wpList_store_row rfl 69 (.tmp 4) (.tmp 15) rfl _ _ rfl rfl 69 _ C3.out (info_col _) rfl (one_col _) ?_))
      exact bodyPost_ret (v := .agg (colA fun k => mixS C fac k 4)) (results_cell_row rfl _ _ _ 69 _ (0, 0) _ rfl HX.out Try.underlying69 rfl (info_col _)) rfl ⟨rfl, HB.out⟩

def facM (j : Nat) : Nat := match j with | 0 => 2 | 1 => 3 | 2 => 1 | _ => 1
def facU (j : Nat) : Nat := match j with | 0 => 14 | 1 => 11 | 2 => 13 | _ => 9
def fidM (j : Nat) : FuncId := match j with | 0 => 79 | 1 => 99 | 2 => 100 | _ => 100
theorem times_of {f : FuncId} {k : Nat} (h : ∀ (p : Nat), p < 256 → ∀ w : World, Calls Try.prog f #[.int .u8 p] w fun e w' => e = .returned (.int .u8 (Gf.tm p k : Nat)) ∧ w = w') : Times f k :=
  fun p hp w => (h p hp w).mono fun _ _ ⟨he, hw⟩ => ⟨he, hw.symm⟩
set_option maxRecDepth 100000 in
theorem fidM_all : ∀ j, j < 4 → Times (fidM j) (facM j) ∧ Enters (fidM j) := by
  intro j hj
  rcases (by omega : j = 0 ∨ j = 1 ∨ j = 2 ∨ j = 3) with rfl | rfl | rfl | rfl
  · exact ⟨times_of twice_tm, fun _ _ => rfl⟩
  · exact ⟨times_of thrice_any, fun _ _ => rfl⟩
  · exact ⟨times_of once_any, fun _ _ => rfl⟩
  · exact ⟨times_of once_any, fun _ _ => rfl⟩
/-- a column of which each byte is such a sum -/
def mixC (fac C : Nat → Nat) (k : Nat) : Nat := mixS C fac k 4
set_option maxHeartbeats 1000000 in
theorem mix_any (C : Nat → Nat) (hC : ∀ i, C i < 256) (w : World) :
    Calls Try.prog 95 #[.agg (colA C)] w fun e w' => e = .returned (.agg (colA (mixC facM C))) ∧ Below w.heap.size w w' := by
  have HC := Lib.hid hC
  clear hC
  have HG : Hid (∀ o, ((w.alloc (.cells (colA C) 69)).alloc o).heap[w.heap.size]? = some (.cells (colA C) 69 (0, 0))) := Lib.hid (fun o => blk_alloc (heap_alloc_new w _) o)
  have e1 : (w.alloc (.cells (colA C) 69)).heap.size = w.heap.size + 1 := by simp
  have h2 := heap_alloc_new (w.alloc (.cells (colA C) 69)) (.cells (zeros 4) 69)
  rw [e1] at h2
  have b2 : Below w.heap.size w ((w.alloc (.cells (colA C) 69)).alloc (.cells (zeros 4) 69)) := ((Below.refl _ _).alloc (Nat.le_refl _) _).alloc (by rw [e1]; omega) _
  have e2 : ((w.alloc (.cells (colA C) 69)).alloc (.cells (zeros 4) 69)).heap.size = w.heap.size + 2 := by simp
  have H2 := Lib.hid h2
  have B2 := Lib.hid b2
  have E2 := Lib.hid e2
  clear e1 h2 b2 e2
  go_enter Try.func95, Try.ntmps95
  go_wp2_with (first
    | (with_reducible refine wpList_load_row rfl 69 (.tmp 1) rfl _ rfl 69 _ _ _ (HG.out _) Try.underlying69 rfl (info_col _) ?_))
  refine (mixed_any fidM C facM HC.out fidM_all _).mono ?_
  rintro e w' ⟨rfl, hb⟩
  have hb' : Below ((w.alloc (.cells (colA C) 69)).alloc (.cells (zeros 4) 69)).heap.size ((w.alloc (.cells (colA C) 69)).alloc (.cells (zeros 4) 69)) w' := hb
  have hx : w'.heap[w.heap.size + 1]? = some (.cells (zeros 4) 69 (0, 0)) := (hb'.block _ (by rw [E2.out]; omega)).trans H2.out
  have hbw : Below w.heap.size w w' := B2.out.trans (hb'.mono (by rw [E2.out]; omega))
  have HX := Lib.hid hx
  have HS := Lib.hid (setRow_heap w' _ _ (colA fun k => mixS C facM k 4) _ _ hx)
  have HB := Lib.hid (below_setRow (g := w.heap.size + 1) hbw (by omega) (colA fun k => mixS C facM k 4))
  clear hb hb' hx hbw
  go_wp2_with (first
    | (with_reducible refine wpList_store_row rfl 69 (.tmp 2) (.tmp 5) rfl _ _ rfl rfl 69 _ HX.out (info_col _) rfl (one_col _) ?_))
  exact bodyPost_ret (v := .agg (colA fun k => mixS C facM k 4)) (results_cell_row rfl _ _ _ 69 _ (0, 0) _ rfl HS.out Try.underlying69 rfl (info_col _)) rfl ⟨rfl, HB.out⟩
end Go.Proofs.Ythjpaligpojlnaa
