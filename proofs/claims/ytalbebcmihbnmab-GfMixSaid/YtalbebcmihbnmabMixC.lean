/-
  The document's own column.
-/
import Derived.Test.YtalbebcmihbnmabMixB
import Derived.Deep.RegionLaw
import Derived.Deep.RegionWith
import Derived.StillTailTactics
import Derived.Deep.RegionHeld3
namespace Go.Proofs.Ytalbebcmihbnmab
open Go.RowKit
set_option linter.unusedVariables false
theorem colA_set (g : Nat → Nat) (x : Nat) {k : Nat} (h : k < 4) : (colA g).setIfInBounds k (.int .u8 (x : Int)) = colA (fun i => if i = k then x else g i) := by
  rcases (by omega : k = 0 ∨ k = 1 ∨ k = 2 ∨ k = 3) with rfl | rfl | rfl | rfl <;> simp [colA]
theorem colA_congr {g g' : Nat → Nat} (h : ∀ i, i < 4 → g i = g' i) : colA g = colA g' := by
  simp [colA, h 0 (by omega), h 1 (by omega), h 2 (by omega), h 3 (by omega)]
def colS (C F : Nat → Nat) (k : Nat) : Nat → Nat
  | 0 => 0
  | j + 1 => colS C F k j ^^^ Gf.rm (F j) (C ((k + j) % 4))
theorem colS_lt (C F : Nat → Nat) (k : Nat) : ∀ j, colS C F k j < 256 := by
  intro j
  induction j with
  | zero => simp [colS]
  | succ j ih => exact Gf.xor_lt ih (Gf.rm_lt _ _)
def colG (C F : Nat → Nat) (k j : Nat) (i : Nat) : Nat := if i < k then colS C F i 4 else if i = k then colS C F k j else 0
theorem colG_step {C F : Nat → Nat} {k j x : Nat} (hk : k < 4) (hx : x = colS C F k (j + 1)) : (colA (colG C F k j)).setIfInBounds k (.int .u8 (x : Int)) = colA (colG C F k (j + 1)) := by
  rw [colA_set _ _ hk]
  refine colA_congr fun i hi => ?_
  unfold colG
  by_cases h : i = k
  · subst h; simp [hx]
  · simp [h]
theorem colG_next {C F : Nat → Nat} {k : Nat} : colA (colG C F k 4) = colA (colG C F (k + 1) 0) := by
  refine colA_congr fun i hi => ?_
  unfold colG
  by_cases h : i = k
  · subst h; simp
  · by_cases h2 : i < k
    · rw [if_pos h2, if_pos (by omega)]
    · rw [if_neg h2, if_neg h, if_neg (by omega)]
      split <;> rfl
theorem colG_zero {C F : Nat → Nat} : colA (colG C F 0 0) = zeros 4 := by
  have : colA (colG C F 0 0) = colA fun _ => 0 := colA_congr fun i hi => by
    unfold colG
    rw [if_neg (by omega)]
    split <;> rfl
  rw [this]
  rfl
theorem colG_end {C F : Nat → Nat} : colA (colG C F 4 0) = colA fun k => colS C F k 4 := colA_congr fun i hi => by unfold colG; rw [if_pos hi]
def ColRel (w : World) (C F : Nat → Nat) (k j : Nat) (wr : World) : Prop :=
  Below w.heap.size w wr ∧ w.heap.size + 4 ≤ wr.heap.size ∧ wr.heap[w.heap.size]? = some (.cells (colA C) 22 (0, 0)) ∧ wr.heap[w.heap.size + 1]? = some (.cells (colA F) 22 (0, 0)) ∧
    wr.heap[w.heap.size + 1 + 1]? = some (.cells (zeros 4) 22 (0, 0)) ∧ wr.heap[w.heap.size + 1 + 1 + 1]? = some (.cells (colA (colG C F k j)) 22 (0, 0))
theorem col_start (w : World) (C F : Nat → Nat) : ColRel w C F 0 0
    ((((w.alloc (.cells (colA C) 22)).alloc (.cells (colA F) 22)).alloc (.cells (zeros 4) 22)).alloc (.cells (zeros 4) 22)) := by
  have b1 : (w.alloc (.cells (colA C) 22)).heap[w.heap.size]? = some (.cells (colA C) 22 (0, 0)) := heap_alloc_new w _
  have e1 : ∀ o, (w.alloc o).heap.size = w.heap.size + 1 := fun o => by simp
  have b2 := heap_alloc_new (w.alloc (.cells (colA C) 22)) (.cells (colA F) 22)
  rw [e1] at b2
  have b3 := heap_alloc_new ((w.alloc (.cells (colA C) 22)).alloc (.cells (colA F) 22)) (.cells (zeros 4) 22)
  have e2 : ∀ o o', ((w.alloc o).alloc o').heap.size = w.heap.size + 1 + 1 := fun o o' => by simp
  rw [e2] at b3
  have b4 := heap_alloc_new (((w.alloc (.cells (colA C) 22)).alloc (.cells (colA F) 22)).alloc (.cells (zeros 4) 22)) (.cells (zeros 4) 22)
  have e3 : ∀ o o' o'', (((w.alloc o).alloc o').alloc o'').heap.size = w.heap.size + 1 + 1 + 1 := fun o o' o'' => by simp
  rw [e3] at b4
  refine ⟨?_, by simp, ?_, ?_, ?_, by rw [colG_zero]; exact b4⟩
  · exact ((((Below.refl _ _).alloc (Nat.le_refl _) _).alloc (by rw [e1]; omega) _).alloc (by rw [e2]; omega) _).alloc (by rw [e3]; omega) _
  · exact blk_alloc (blk_alloc (blk_alloc b1 _) _) _
  · exact blk_alloc (blk_alloc b2 _) _
  · exact blk_alloc b3 _
theorem col_step {w W : World} {C F : Nat → Nat} {k j x q : Nat} (hk : k < 4) (h : ColRel w C F k j W) (hx : x = colS C F k (j + 1)) :
    ColRel w C F k (j + 1) ((W.drewN q).setCell ⟨w.heap.size + 1 + 1 + 1, k, none⟩ (.int .u8 (x : Int))) := by
  obtain ⟨hb, hs, d1, d2, d3, d4⟩ := h
  have e1 : (W.drewN q).heap[w.heap.size]? = some (.cells (colA C) 22 (0, 0)) := d1
  have e2 : (W.drewN q).heap[w.heap.size + 1]? = some (.cells (colA F) 22 (0, 0)) := d2
  have e3 : (W.drewN q).heap[w.heap.size + 1 + 1]? = some (.cells (zeros 4) 22 (0, 0)) := d3
  have e4 : (W.drewN q).heap[w.heap.size + 1 + 1 + 1]? = some (.cells (colA (colG C F k j)) 22 (0, 0)) := d4
  refine ⟨(below_drewN' hb q).setCell (by show w.heap.size ≤ w.heap.size + 1 + 1 + 1; omega) _, ?_, ?_, ?_, ?_, ?_⟩
  · rw [size_set]; exact hs
  · exact blk_far e1 (p := ⟨w.heap.size + 1 + 1 + 1, k, none⟩) (by show w.heap.size ≠ w.heap.size + 1 + 1 + 1; omega) _
  · exact blk_far e2 (p := ⟨w.heap.size + 1 + 1 + 1, k, none⟩) (by show w.heap.size + 1 ≠ w.heap.size + 1 + 1 + 1; omega) _
  · exact blk_far e3 (p := ⟨w.heap.size + 1 + 1 + 1, k, none⟩) (by show w.heap.size + 1 + 1 ≠ w.heap.size + 1 + 1 + 1; omega) _
  · have := blk_set e4 k (.int .u8 (x : Int))
    rwa [colG_step hk hx] at this
def ColOuter (w : World) (C F : Nat → Nat) (v : Value) (wr : World) : Prop := ∃ k : Nat, v = .int .i64 (k : Int) ∧ k ≤ 4 ∧ ColRel w C F k 0 wr
def ColInner (w : World) (C F : Nat → Nat) (k : Nat) (v : Value) (wr : World) : Prop := ∃ j : Nat, v = .int .i64 (j : Int) ∧ j ≤ 4 ∧ ColRel w C F k j wr
set_option maxHeartbeats 2000000 in
theorem column_any (C F : Nat → Nat) (hC : ∀ i, C i < 256) (hF : ∀ i, F i < 256) (w : World) :
    Calls Try.prog 5 #[.agg (colA C), .agg (colA F)] w fun e w' => e = .returned (.agg (colA fun k => colS C F k 4)) ∧ Below w.heap.size w w' := by
  have H0 := Lib.hid (col_start w C F)
  have HC := Lib.hid hC
  have HF := Lib.hid hF
  clear hC hF
  go_enter Try.func5, Try.ntmps5
  go_wp2
  go_loopw [6] (fun v wr => ColOuter w C F v wr) (fun v _ => (4 - intOf v).toNat)
  case atStart => exact ⟨0, rfl, by omega, H0.out⟩
  case round =>
    obtain ⟨k, rfl, hk, hr⟩ := hrel
    have HR := Lib.hid hr
    clear hr H0
    by_cases hlt : k < 4
    · have g3 : (k : Int) < 4 := by omega
      go_wp2
      obtain ⟨wo, hwo⟩ : ∃ wo : World, wo = wr := ⟨_, rfl⟩
      subst hwo
      go_loopw [7] (fun v wr => ColInner w C F k v wr) (fun v _ => (4 - intOf v).toNat)
      case atStart => exact ⟨0, rfl, by omega, HR.out⟩
      case round =>
        obtain ⟨j, rfl, hj, hr2⟩ := hrel
        have HR2 := Lib.hid hr2
        clear hr2
        by_cases hjt : j < 4
        · have y1 := HC.out ((k + j) % 4)
          have y2 := HF.out j
          have k1 : wr.cell? ⟨w.heap.size + 1 + 1 + 1, k, none⟩ = some (.int .u8 ((colG C F k j k : Nat) : Int)) := (blk_cell HR2.out.2.2.2.2.2 k).trans (colA_at _ hlt)
          have k2 : wr.cell? ⟨w.heap.size + 1, j, none⟩ = some (.int .u8 ((F j : Nat) : Int)) := (blk_cell HR2.out.2.2.2.1 j).trans (colA_at _ hjt)
          have k3 : wr.cell? ⟨w.heap.size, (k + j) % 4, none⟩ = some (.int .u8 ((C ((k + j) % 4) : Nat) : Int)) := (blk_cell HR2.out.2.2.1 _).trans (colA_at _ (Nat.mod_lt _ (by omega)))
          have k4 := blk_free HR2.out.2.2.2.2.2 k
          have e0 : colG C F k j k = colS C F k j := by unfold colG; rw [if_neg (by omega), if_pos rfl]
          rw [e0] at k1
          have z1 := colS_lt C F k j
          have HST : Hid (∀ q, ColInner w C F k (.int .i64 ((j : Int) + 1)) ((wr.drewN q).setCell ⟨w.heap.size + 1 + 1 + 1, k, none⟩ (.int .u8 (bits BinOp.xor IntKind.u8 ((colS C F k j : Nat) : Int) ((Gf.rm (F j) (C ((k + j) % 4)) : Nat) : Int))))) :=
            Lib.hid (fun q => ⟨j + 1, rfl, by omega, by rw [xor8 (colS_lt C F k j) (Gf.rm_lt _ _)]; exact col_step hlt HR2.out rfl⟩)
          have s1 : IntKind.i64.wrap ((k : Int) + (j : Int)) = (k : Int) + (j : Int) := IntWalk.i64_in _ (by omega)
          have s2 : ((k : Int) + (j : Int)).tmod 4 = (((k + j) % 4 : Nat) : Int) := by rw [Int.tmod_eq_emod_of_nonneg (by omega)]; omega
          have g1 : (((k + j) % 4 : Nat) : Int) < 4 := by omega
          have g2 : (j : Int) < 4 := by omega
          clear e0 HR2
          generalize colS C F k j = z at *
          generalize C ((k + j) % 4) = x at *
          generalize F j = y at *
          generalize (k + j) % 4 = i at *
          go_wp2
          go_region_with (first
            | (go_at_call 12; refine (refMul_any y x (by omega) (by omega) _).mono ?_; rintro e w' ⟨rfl, rfl⟩))
          all_goals
            go_wp2
            go_roundw
            case rel => exact HST.out 1
            case measure => simp [intOf]; omega
        · obtain rfl : j = 4 := by omega
          have hr3 : ColRel w C F (k + 1) 0 wr := by
            have h := HR2.out
            unfold ColRel at h ⊢
            rw [colG_next] at h
            exact h
          have H3 : Hid (ColOuter w C F (.int .i64 ((k : Int) + 1)) wr) := Lib.hid ⟨k + 1, rfl, by omega, hr3⟩
          clear hr3 HR2
          go_wp2
          go_roundw
          case rel => exact H3.out
          case measure => simp [intOf]; omega
    · obtain rfl : k = 4 := by omega
      obtain ⟨hb, hsz, _, _, c3, c4⟩ := HR.out
      rw [colG_end] at c4
      have C3 := Lib.hid c3
      have C4 := Lib.hid c4
      have HX := Lib.hid (setRow_heap wr (w.heap.size + 1 + 1) _ (colA fun k => colS C F k 4) _ _ c3)
      have HB := Lib.hid (below_setRow (g := w.heap.size + 1 + 1) hb (by omega) (colA fun k => colS C F k 4))
      clear c3 c4 hb HR
      go_wp2_with (first
        | (with_reducible refine wpList_load_row rfl 22 (.tmp 5) rfl _ rfl 22 _ _ _ C4.out Try.underlying22 rfl (info_col _) ?_)
        | (with_reducible refine wpList_store_row rfl 22 (.tmp 4) (.tmp 32) rfl _ _ rfl rfl 22 _ C3.out (info_col _) rfl (one_col _) ?_))
      exact bodyPost_ret (v := .agg (colA fun k => colS C F k 4)) (results_cell_row rfl _ _ _ 22 _ (0, 0) _ rfl HX.out Try.underlying22 rfl (info_col _)) rfl ⟨rfl, HB.out⟩
theorem colS_mix {C F : Nat → Nat} (hC : ∀ i, C i < 256) (hF : ∀ i, F i < 256) (k : Nat) : ∀ j, colS C F k j = mixS C F k j := by
  intro j
  induction j with
  | zero => rfl
  | succ j ih => rw [colS, mixS, ih, ← Gf.tm_rm (hF j) (hC _), Gf.tm_comm (hF j) (hC _)]
end Go.Proofs.Ytalbebcmihbnmab
