/-
  Gauge: Most, the rooms held against one another, the example; GaugeMost's walk.
-/
import Derived.Test.YtdknalihgblfcaaDoorGaB
import Derived.Laws.CopyOwn
import Derived.Test.YtdknalihgblfcaaDoorHeldF
namespace Go.Proofs.YtdknalihgblfcaaDoor
open Go.RowKit Go
set_option linter.unusedVariables false
set_option linter.unusedSimpArgs false
set_option maxRecDepth 100000
def upTo (s : Nat → Int) (k : Nat) (i : Nat) : Int := if i < k then s i else 0
theorem upTo_set (f l : Int) (s : Nat → Int) (k : Nat) (hk : k < 8) : (rmC f l (upTo s k)).setIfInBounds (2 + k) (.int .i64 (s k)) = rmC f l (upTo s (k + 1)) := by
  rcases (by omega : k = 0 ∨ k = 1 ∨ k = 2 ∨ k = 3 ∨ k = 4 ∨ k = 5 ∨ k = 6 ∨ k = 7) with rfl | rfl | rfl | rfl | rfl | rfl | rfl | rfl <;> rfl
theorem upTo_all (f l : Int) (s : Nat → Int) : rmC f l (upTo s 8) = rmC f l s := rfl
theorem upTo_none (f l : Int) (s : Nat → Int) : rmC f l (upTo s 0) = rmC f l (fun _ => 0) := rfl
theorem rm_cells {W : World} {g : Nat} {t : TypeId} {f l : Int} {s : Nat → Int} (h : W.heap[g]? = some (.cells (rmC f l s) t (0, 0))) : W.cell? ⟨g, 0, none⟩ = some (.int .i64 f) ∧ W.cell? ⟨g, 1, none⟩ = some (.int .i64 l) ∧ W.cell? ⟨g, 2, none⟩ = some (.int .i64 (s 0)) ∧ W.cell? ⟨g, 3, none⟩ = some (.int .i64 (s 1)) ∧ W.cell? ⟨g, 4, none⟩ = some (.int .i64 (s 2)) ∧ W.cell? ⟨g, 5, none⟩ = some (.int .i64 (s 3)) ∧ W.cell? ⟨g, 6, none⟩ = some (.int .i64 (s 4)) ∧ W.cell? ⟨g, 7, none⟩ = some (.int .i64 (s 5)) ∧ W.cell? ⟨g, 8, none⟩ = some (.int .i64 (s 6)) ∧ W.cell? ⟨g, 9, none⟩ = some (.int .i64 (s 7)) := by
  refine ⟨?_, ?_, ?_, ?_, ?_, ?_, ?_, ?_, ?_, ?_⟩ <;> (rw [blk_cell h]; rfl)
set_option maxHeartbeats 4000000 in
theorem plain_any (f l : Int) (s : Nat → Int) (w : World) :
    Calls Tryd.prog 6 #[.agg (rmC f l s)] w fun e w' => e = .returned (.agg (rmC f l s)) ∧ Below w.heap.size w w' := by
  obtain ⟨W1, hW⟩ : ∃ W1, W1 = ((w.alloc (.cells (rmC f l s) 24)).alloc (.cells (rmC 0 0 (fun _ => 0)) 27)).alloc (.cells (rmC f l (fun _ => 0)) 27) := ⟨_, rfl⟩
  have hb1 : Below w.heap.size w W1 := by rw [hW]; exact (((Below.refl _ _).alloc (Nat.le_refl _) _).alloc (by simp) _).alloc (by simp; omega) _
  have hx1 : W1.heap[w.heap.size]? = some (.cells (rmC f l s) 24 (0, 0)) := by rw [hW]; exact blk_alloc (blk_alloc (heap_alloc_new w _) _) _
  have hx2 : W1.heap[w.heap.size + 1]? = some (.cells (rmC 0 0 (fun _ => 0)) 27 (0, 0)) := by
    rw [hW]; have := heap_alloc_new (w.alloc (.cells (rmC f l s) 24)) (.cells (rmC 0 0 (fun _ => 0)) 27)
    rw [show (w.alloc (.cells (rmC f l s) 24)).heap.size = w.heap.size + 1 by simp] at this
    exact blk_alloc this _
  have hx3 : W1.heap[w.heap.size + 1 + 1]? = some (.cells (rmC f l (upTo s 0)) 27 (0, 0)) := by
    rw [hW, upTo_none]; have := heap_alloc_new ((w.alloc (.cells (rmC f l s) 24)).alloc (.cells (rmC 0 0 (fun _ => 0)) 27)) (.cells (rmC f l (fun _ => 0)) 27)
    rw [show ((w.alloc (.cells (rmC f l s) 24)).alloc (.cells (rmC 0 0 (fun _ => 0)) 27)).heap.size = w.heap.size + 1 + 1 by simp] at this
    exact this
  have HB1 := Lib.hid hb1
  have HX1 := Lib.hid hx1
  have HX2 := Lib.hid hx2
  have HX3 := Lib.hid hx3
  have hW' := hW.symm
  simp only [rmC] at hW'
  have HW := Lib.hid hW'
  clear hb1 hW hW' hx1 hx2 hx3
  simp only [rmC]
  go_enter Tryd.func6, Tryd.ntmps6
  go_wp2_with fail
  rw [HW.out]
  go_loopw [10] (fun v10 wr => ∃ k : Nat, v10 = .int .i64 (k : Int) ∧ k ≤ 8 ∧ Below w.heap.size w wr ∧ wr.heap[w.heap.size]? = some (.cells (rmC f l s) 24 (0, 0)) ∧ wr.heap[w.heap.size + 1]? = some (.cells (rmC 0 0 (fun _ => 0)) 27 (0, 0)) ∧ wr.heap[w.heap.size + 1 + 1]? = some (.cells (rmC f l (upTo s k)) 27 (0, 0))) (fun v _ => (8 - intOf v).toNat)
  case atStart => exact ⟨0, rfl, by omega, HB1.out, HX1.out, HX2.out, HX3.out⟩
  case round =>
    obtain ⟨k, rfl, hk, hb, hx1, hx2, hx3⟩ := hrel
    have HB := Lib.hid hb
    have HY1 := Lib.hid hx1
    have HY2 := Lib.hid hx2
    have HY3 := Lib.hid hx3
    by_cases hlt : k < 8
    · have hk8 : (k : Int) < 8 := by omega
      have c : wr.cell? ⟨w.heap.size, 2 + k, none⟩ = some (.int .i64 (s k)) := (blk_cell hx1 (2 + k)).trans (rm_at f l s k hlt)
      have d : wr.cell? ⟨w.heap.size + 1 + 1, 2 + k, none⟩ = some (.int .i64 (upTo s k k)) := (blk_cell hx3 (2 + k)).trans (rm_at f l _ k hlt)
      have df : wr.frozen? ⟨w.heap.size + 1 + 1, 2 + k, none⟩ = false := blk_free hx3 _
      have HS : Hid ((rmC f l (upTo s k)).setIfInBounds (2 + k) (.int .i64 (s k)) = rmC f l (upTo s (k + 1))) := Lib.hid (upTo_set f l s k hlt)
      generalize hsk : s k = sk at *
      have hlt' : ¬ (8 : Int) ≤ (k : Int) := by omega
      clear hb hx1 hx2 hx3 hsk
      go_wp2
      go_roundw
      case rel =>
        refine ⟨k + 1, rfl, by omega, HB.out.setCell (p := ⟨w.heap.size + 1 + 1, 2 + k, none⟩) (by show w.heap.size ≤ w.heap.size + 1 + 1; omega) _, ?_, ?_, ?_⟩
        · exact (Below.heap_setCell _ _ _ _ (by show w.heap.size ≠ w.heap.size + 1 + 1; omega)).trans HY1.out
        · exact (Below.heap_setCell _ _ _ _ (by show w.heap.size + 1 ≠ w.heap.size + 1 + 1; omega)).trans HY2.out
        · have := blk_set HY3.out (2 + k) (.int .i64 sk)
          rw [HS.out] at this
          exact this
      case measure => simp [intOf]; omega
    · obtain rfl : k = 8 := by omega
      rw [upTo_all] at hx3
      obtain ⟨c0, c1, c2, c3, c4, c5, c6, c7, c8, c9⟩ := rm_cells hx3
      have HFX := Lib.hid (setRow_heap _ _ _ (rmC f l s) _ _ hx2)
      have HFB := Lib.hid (below_setRow (g := w.heap.size + 1) hb (by omega) (rmC f l s))
      have HI : Hid ((Tryd.prog.info? 27).map (·.size) = some (rmC f l s).size) := Lib.hid (by rw [show (rmC f l s).size = 10 from rfl]; kernel_rfl)
      have HO : Hid ((rmC f l s).all (·.oneCell') = true) := Lib.hid (by unfold rmC; simp [Value.oneCell'])
      have HR := Lib.hid hx2
      clear hb hx1 hx2 hx3
      simp only [rmC] at HFX HFB HI HO HR
      go_wp2_with (with_reducible refine wpList_store_row rfl 27 (.tmp 2) (.tmp 21) rfl _ _ rfl rfl 27 _ HR.out HI.out rfl HO.out ?_)
      exact bodyPost_ret (v := .agg (rmC f l s)) (results_cell_row rfl _ _ _ 27 _ (0, 0) _ rfl HFX.out Tryd.underlying27 rfl HI.out) rfl ⟨rfl, HFB.out⟩
theorem ga_and7 (c : Int) : ∃ r : Nat, r < 8 ∧ bits BinOp.and .i64 c 7 = (r : Int) := by
  have h : (BitVec.ofInt 64 c &&& BitVec.ofInt 64 7).toNat ≤ 7 := by
    rw [BitVec.toNat_and]
    exact Nat.and_le_right
  refine ⟨(BitVec.ofInt 64 c &&& BitVec.ofInt 64 7).toNat, by omega, ?_⟩
  show IntKind.i64.wrap (((BitVec.ofInt 64 c &&& BitVec.ofInt 64 7).toNat : Nat) : Int) = _
  exact IntWalk.i64_in _ (by omega)
def oneS (r : Nat) (v : Int) (i : Nat) : Int := if i = r then v else 0
theorem oneS_set (f l v : Int) (r : Nat) (hk : r < 8) : ([.int .i64 f, .int .i64 l, .int .i64 0, .int .i64 0, .int .i64 0, .int .i64 0, .int .i64 0, .int .i64 0, .int .i64 0, .int .i64 0].set (2 + r) (.int .i64 v)).toArray = rmC f l (oneS r v) := by
  rcases (by omega : r = 0 ∨ r = 1 ∨ r = 2 ∨ r = 3 ∨ r = 4 ∨ r = 5 ∨ r = 6 ∨ r = 7) with rfl | rfl | rfl | rfl | rfl | rfl | rfl | rfl <;> rfl
theorem fit55 : FitP 5 5 (fun _ => 0) 1280 := .inr ⟨by omega, by omega, by show ((5 : Nat) : Int) ≤ 5; omega⟩
theorem fit55n (n : Int) (h : 1281 ≤ n) : ¬ FitP 5 5 (fun _ => 0) n := by
  rintro (⟨j, hj, _⟩ | ⟨h1, h2, h3⟩)
  · have := hj.le; omega
  · have : 6 ≤ (n.toNat + 255) / 256 := by omega
    omega
theorem most55 : MostP 5 5 (fun _ => 0) 1280 := ⟨by omega, fun _ => fit55, fun k h1 _ => fit55n _ (by omega)⟩
set_option maxHeartbeats 4000000 in
theorem awake26_any (w : World) (hS : SZ w) :
    Calls Tryd.prog 8 #[] w fun e w' => e = .returned (.bool true) ∧ Below w.heap.size w w' := by
  obtain ⟨W1, hW⟩ : ∃ W1, W1 = w.alloc (.cells (rmC 5 5 (fun _ => 0)) 24) := ⟨_, rfl⟩
  have hb1 : Below w.heap.size w W1 := by rw [hW]; exact (Below.refl _ _).alloc (Nat.le_refl _) _
  have hx1 : W1.heap[w.heap.size]? = some (.cells (rmC 5 5 (fun _ => 0)) 24 (0, 0)) := by rw [hW]; exact heap_alloc_new w _
  have HB1 := Lib.hid hb1
  have HS1 := Lib.hid (hS.below hb1)
  have HK := Lib.hid (fun (W : World) (h : Below W1.heap.size W1 W) => rm_cells ((h.block _ (blk_lt hx1)).trans hx1))
  have hW' := hW.symm
  simp only [rmC] at hW'
  have HW := Lib.hid hW'
  obtain ⟨c0, c1, c2, c3, c4, c5, c6, c7, c8, c9⟩ := HK.out W1 (Below.refl _ _)
  clear hb1 hx1 hS hW hW'
  go_enter Tryd.func8, Tryd.ntmps8
  go_wp2_with fail
  rw [HW.out]
  go_wp2_with fail
  obtain ⟨b, hb, hc, _⟩ := fits_at 5 5 (fun _ => 0) 1280
  obtain rfl := hb.mpr fit55
  refine (hc W1 HS1.out).mono ?_
  rintro e w2 ⟨rfl, hb2⟩
  have HB2 := Lib.hid hb2
  clear hb hc hb2 c0 c1 c2 c3 c4 c5 c6 c7 c8 c9
  obtain ⟨c0, c1, c2, c3, c4, c5, c6, c7, c8, c9⟩ := HK.out w2 HB2.out
  go_wp2_with fail
  obtain ⟨b, hb, hc, _⟩ := fits_at 5 5 (fun _ => 0) 1281
  obtain rfl : b = false := by
    cases b
    · rfl
    · exact absurd (hb.mp rfl) (fit55n _ (by omega))
  refine (hc w2 (HS1.out.below HB2.out)).mono ?_
  rintro e w3 ⟨rfl, hb3⟩
  have HB3 := Lib.hid (HB2.out.trans (hb3.mono HB2.out.size))
  clear hb hc hb3 c0 c1 c2 c3 c4 c5 c6 c7 c8 c9
  obtain ⟨c0, c1, c2, c3, c4, c5, c6, c7, c8, c9⟩ := HK.out w3 HB3.out
  go_wp2_with fail
  refine (most_any 5 5 (fun _ => 0) 1280 most55 w3 (HS1.out.below HB3.out)).mono ?_
  rintro e w4 ⟨rfl, hb4⟩
  have HB4 := Lib.hid (HB1.out.trans ((HB3.out.trans (hb4.mono HB3.out.size)).mono HB1.out.size))
  clear hb4 c0 c1 c2 c3 c4 c5 c6 c7 c8 c9
  go_wp2
  go_ret
  exact ⟨rfl, HB4.out⟩
set_option maxHeartbeats 8000000 in
theorem gaugeMost_any (f l c sl n : Int) (w : World) (hS : SZ w) :
    Calls Tryd.prog 3 #[.int .i64 f, .int .i64 l, .int .i64 c, .int .i64 sl, .int .i64 n] w fun e w' => e = .returned (.bool true) ∧ Below w.heap.size w w' := by
  obtain ⟨r, hr, hrc⟩ := ga_and7 c
  obtain ⟨W1, hW⟩ : ∃ W1, W1 = w.alloc (.cells (rmC f l (oneS r sl)) 24) := ⟨_, rfl⟩
  have hb1 : Below w.heap.size w W1 := by rw [hW]; exact (Below.refl _ _).alloc (Nat.le_refl _) _
  have hx1 : W1.heap[w.heap.size]? = some (.cells (rmC f l (oneS r sl)) 24 (0, 0)) := by rw [hW]; exact heap_alloc_new w _
  have HL := Lib.hid (oneS_set f l sl r hr)
  obtain ⟨g, hg⟩ : ∃ g, g = w.heap.size := ⟨_, rfl⟩
  obtain ⟨s, hs⟩ : ∃ s, s = oneS r sl := ⟨_, rfl⟩
  rw [← hs, ← hg] at hx1
  have HB1 := Lib.hid hb1
  have HS1 := Lib.hid (hS.below hb1)
  have HK := Lib.hid (fun (W : World) (h : Below W1.heap.size W1 W) => (rm_cells ((h.block _ (blk_lt hx1)).trans hx1)))
  have HK2 := Lib.hid (fun (W : World) (h : Below W1.heap.size W1 W) => (show W.cell? ⟨g, 0, none⟩ = some (.int .i64 f) ∧ W.cell? ⟨g, 1, none⟩ = some (.int .i64 l) ∧ W.cell? ⟨g, 2, none⟩ = some (.int .i64 (s 0)) ∧ W.cell? ⟨g, 3, none⟩ = some (.int .i64 (s 1)) ∧ W.cell? ⟨g, 4, none⟩ = some (.int .i64 (s 2)) ∧ W.cell? ⟨g, 5, none⟩ = some (.int .i64 (s 3)) ∧ W.cell? ⟨g, 6, none⟩ = some (.int .i64 (s 4)) ∧ W.cell? ⟨g, 7, none⟩ = some (.int .i64 (s 5)) ∧ W.cell? ⟨g, 8, none⟩ = some (.int .i64 (s 6)) ∧ W.cell? ⟨g, 9, none⟩ = some (.int .i64 (s 7)) ∧ Below W1.heap.size W1 W from (by
    obtain ⟨c0, c1, c2, c3, c4, c5, c6, c7, c8, c9⟩ := HK.out W h
    exact ⟨c0, c1, c2, c3, c4, c5, c6, c7, c8, c9, h⟩)))
  have d2 : ([.int .i64 f, .int .i64 l, .int .i64 0, .int .i64 0, .int .i64 0, .int .i64 0, .int .i64 0, .int .i64 0, .int .i64 0, .int .i64 0] : List Value)[2 + r]? = some (.int .i64 0) := by
    rcases (by omega : r = 0 ∨ r = 1 ∨ r = 2 ∨ r = 3 ∨ r = 4 ∨ r = 5 ∨ r = 6 ∨ r = 7) with rfl | rfl | rfl | rfl | rfl | rfl | rfl | rfl <;> rfl
  have HW := Lib.hid hW.symm
  have HG := Lib.hid hg
  have hr8 : (r : Int) < 8 := by omega
  obtain ⟨b, hb, hc, hc'⟩ := fits_at f l s n
  obtain ⟨m, hm⟩ := MostP.ex f l s
  obtain ⟨b2, hbm, hd, hd'⟩ := fits_at f l s (m : Int)
  have HFB := Lib.hid hb
  have HF1 := Lib.hid hc
  have HF2 := Lib.hid hc'
  have HM := Lib.hid hm
  have HD := Lib.hid hbm
  have HD2 := Lib.hid hd'
  clear hb1 hx1 hS hW hg hs hb hc hc' hm hbm hd hd'
  go_enter Tryd.func3, Tryd.ntmps3
  go_wp2_with fail
  rw [HL.out, HW.out, ← HG.out]
  clear HL d2
  refine wp_region_F (S := fun (W : World) => W.cell? ⟨g, 0, none⟩ = some (.int .i64 f) ∧ W.cell? ⟨g, 1, none⟩ = some (.int .i64 l) ∧ W.cell? ⟨g, 2, none⟩ = some (.int .i64 (s 0)) ∧ W.cell? ⟨g, 3, none⟩ = some (.int .i64 (s 1)) ∧ W.cell? ⟨g, 4, none⟩ = some (.int .i64 (s 2)) ∧ W.cell? ⟨g, 5, none⟩ = some (.int .i64 (s 3)) ∧ W.cell? ⟨g, 6, none⟩ = some (.int .i64 (s 4)) ∧ W.cell? ⟨g, 7, none⟩ = some (.int .i64 (s 5)) ∧ W.cell? ⟨g, 8, none⟩ = some (.int .i64 (s 6)) ∧ W.cell? ⟨g, 9, none⟩ = some (.int .i64 (s 7)) ∧ Below W1.heap.size W1 W) [] (by kernel_rfl) (HK2.out _ (Below.refl _ _).drew) (fun hHeld => ?_)
  refine wpAnyF_take (i := 0) (oi := _) (v := ?_) rfl (by kernel_rfl) (by kernel_rfl) (by kernel_rfl) (by kernel_rfl) (fun _ _ _ h => h) (Or.inl ⟨by rfl, ?_⟩) (by assumption) ?_
  rotate_left 1
  · intro w hSw
    (try dsimp only at hSw)
    (first | (go_simp; done) | (go_simp; with_reducible rfl))
  (try simp only [Act.put, List.getElem_toArray, List.getElem_cons_succ, List.getElem_cons_zero, List.setIfInBounds_toArray, List.set_cons_zero, List.set_cons_succ])
  refine wpAnyF_take (i := 1) (oi := _) (v := ?_) rfl (by kernel_rfl) (by kernel_rfl) (by kernel_rfl) (by kernel_rfl) (fun _ _ _ h => h) (Or.inl ⟨by rfl, ?_⟩) (by assumption) ?_
  rotate_left 1
  · intro w hSw
    (try dsimp only at hSw)
    (first | (go_simp; done) | (go_simp; with_reducible rfl))
  (try simp only [Act.put, List.getElem_toArray, List.getElem_cons_succ, List.getElem_cons_zero, List.setIfInBounds_toArray, List.set_cons_zero, List.set_cons_succ])
  refine wpAnyF_take (i := 3) (oi := _) (v := ?_) rfl (by kernel_rfl) (by kernel_rfl) (by kernel_rfl) (by kernel_rfl) (fun _ _ _ h => h) (Or.inl ⟨by rfl, ?_⟩) (by assumption) ?_
  rotate_left 1
  · intro w hSw
    (try dsimp only at hSw)
    (first | (go_simp; done) | (go_simp; with_reducible rfl))
  (try simp only [Act.put, List.getElem_toArray, List.getElem_cons_succ, List.getElem_cons_zero, List.setIfInBounds_toArray, List.set_cons_zero, List.set_cons_succ])
  refine wpAnyF_take (i := 5) (oi := _) (v := ?_) rfl (by kernel_rfl) (by kernel_rfl) (by kernel_rfl) (by kernel_rfl) (fun _ _ _ h => h) (Or.inl ⟨by rfl, ?_⟩) (by assumption) ?_
  rotate_left 1
  · intro w hSw
    (try dsimp only at hSw)
    (first | (go_simp; done) | (go_simp; with_reducible rfl))
  (try simp only [Act.put, List.getElem_toArray, List.getElem_cons_succ, List.getElem_cons_zero, List.setIfInBounds_toArray, List.set_cons_zero, List.set_cons_succ])
  refine wpAnyF_ready (rs := [2]) (by kernel_rfl) (by simp) ?_
  refine AllReadyF.cons (o := _) rfl (fun K hK => ?_) AllReadyF.nil
  go_simp
  (go_at_call 4)
  refine (HF1.out _ (HS1.out.below (Below.refl _ _).drew)).mono ?_
  rintro e v2 ⟨rfl, hb2⟩
  have HC2 := Lib.hid ((Below.refl W1.heap.size W1).drew.trans (hb2.mono (Below.refl W1.heap.size W1).drew.size))
  clear hb2
  refine hK.out _ _ (HK2.out _ HC2.out) (fun hHeld2 => ?_)
  clear hK K
  (try simp only [Act.put, List.getElem_toArray, List.getElem_cons_succ, List.getElem_cons_zero, List.setIfInBounds_toArray, List.set_cons_zero, List.set_cons_succ])
  refine wpAnyF_ready (rs := [4]) (by kernel_rfl) (by simp) ?_
  refine AllReadyF.cons (o := _) rfl (fun K hK => ?_) AllReadyF.nil
  go_simp
  (go_at_call 6)
  refine (plain_any f l s _).mono ?_
  rintro e v4 ⟨rfl, hb4⟩
  have HC4 := Lib.hid (HC2.out.trans (hb4.mono HC2.out.size))
  clear hb4
  refine hK.out _ _ (HK2.out _ HC4.out) (fun hHeld4 => ?_)
  clear hK K
  (try simp only [Act.put, List.getElem_toArray, List.getElem_cons_succ, List.getElem_cons_zero, List.setIfInBounds_toArray, List.set_cons_zero, List.set_cons_succ])
  refine wpAnyF_ready (rs := [6]) (by kernel_rfl) (by simp) ?_
  refine AllReadyF.cons (o := _) rfl (fun K hK => ?_) AllReadyF.nil
  go_simp
  (go_at_call 5)
  refine (HF2.out _ (HS1.out.below HC4.out)).mono ?_
  rintro e v6 ⟨rfl, hb6⟩
  have HC6 := Lib.hid (HC4.out.trans (hb6.mono HC4.out.size))
  clear hb6
  refine hK.out _ _ (HK2.out _ HC6.out) (fun hHeld6 => ?_)
  clear hK K
  (try simp only [Act.put, List.getElem_toArray, List.getElem_cons_succ, List.getElem_cons_zero, List.setIfInBounds_toArray, List.set_cons_zero, List.set_cons_succ])
  refine wpAnyF_take (i := 7) (oi := _) (v := ?_) rfl (by kernel_rfl) (by kernel_rfl) (by kernel_rfl) (by kernel_rfl) (fun _ _ _ h => h) (Or.inl ⟨by rfl, ?_⟩) (by assumption) ?_
  rotate_left 1
  · intro w hSw
    (try dsimp only at hSw)
    (first | (go_simp; done) | (go_simp; with_reducible rfl))
  (try simp only [Act.put, List.getElem_toArray, List.getElem_cons_succ, List.getElem_cons_zero, List.setIfInBounds_toArray, List.set_cons_zero, List.set_cons_succ])
  refine wpAnyF_done (by kernel_rfl) ?_ _
  clear hHeld hHeld2 hHeld4 hHeld6
  have hbb : (b != b) = false := bne_self_eq_false b
  obtain ⟨c0, c1, c2, c3, c4, c5, c6, c7, c8, c9⟩ := HK.out v6 HC6.out
  go_wp2_with fail
  refine (most_any f l s m HM.out v6 (HS1.out.below HC6.out)).mono ?_
  rintro e v7 ⟨rfl, hb7⟩
  have HC7 := Lib.hid (HC6.out.trans (hb7.mono HC6.out.size))
  clear hb7 hbb c0 c1 c2 c3 c4 c5 c6 c7 c8 c9
  obtain ⟨c0, c1, c2, c3, c4, c5, c6, c7, c8, c9⟩ := HK.out v7 HC7.out
  by_cases hm0 : (0 : Int) < (m : Int)
  · obtain rfl : b2 = true := HD.out.mpr (HM.out.fit (by omega))
    go_wp2_with fail
    refine (plain_any f l s v7).mono ?_
    rintro e v8 ⟨rfl, hb8⟩
    have HC8 := Lib.hid (HC7.out.trans (hb8.mono HC7.out.size))
    clear hb8 c0 c1 c2 c3 c4 c5 c6 c7 c8 c9
    go_wp2_with fail
    refine (HD2.out v8 (HS1.out.below HC8.out)).mono ?_
    rintro e v9 ⟨rfl, hb9⟩
    have HC9 := Lib.hid (HC8.out.trans (hb9.mono HC8.out.size))
    clear hb9
    by_cases hle : n ≤ (m : Int)
    · obtain ⟨c0, c1, c2, c3, c4, c5, c6, c7, c8, c9⟩ := HK.out v9 HC9.out
      go_wp2_with fail
      refine (awake26_any v9 (HS1.out.below HC9.out)).mono ?_
      rintro e v11 ⟨rfl, hb11⟩
      have HC11 := Lib.hid (HC9.out.trans (hb11.mono HC9.out.size))
      clear hb11 c0 c1 c2 c3 c4 c5 c6 c7 c8 c9
      go_wp2
      go_ret
      exact ⟨rfl, HB1.out.trans (HC11.out.mono HB1.out.size)⟩
    · obtain ⟨c0, c1, c2, c3, c4, c5, c6, c7, c8, c9⟩ := HK.out v9 HC9.out
      go_wp2_with fail
      refine (HF1.out v9 (HS1.out.below HC9.out)).mono ?_
      rintro e v10 ⟨rfl, hb10⟩
      have HC10 := Lib.hid (HC9.out.trans (hb10.mono HC9.out.size))
      obtain rfl : b = false := by
        cases b
        · rfl
        · refine absurd (HFB.out.mp rfl) ?_
          by_cases h4 : n ≤ 4096
          · obtain ⟨k, rfl⟩ : ∃ k : Nat, n = (k : Int) := ⟨n.toNat, by omega⟩
            exact HM.out.hi k (by omega) (by omega)
          · exact fit_out (.inr (by omega))
      clear hb10 c0 c1 c2 c3 c4 c5 c6 c7 c8 c9
      go_wp2_with fail
      refine (awake26_any v10 (HS1.out.below HC10.out)).mono ?_
      rintro e v11 ⟨rfl, hb11⟩
      have HC11 := Lib.hid (HC10.out.trans (hb11.mono HC10.out.size))
      clear hb11
      go_wp2
      go_ret
      exact ⟨rfl, HB1.out.trans (HC11.out.mono HB1.out.size)⟩
  · clear c0 c1 c2 c3 c4 c5 c6 c7 c8 c9
    by_cases hle : n ≤ (m : Int)
    · obtain ⟨c0, c1, c2, c3, c4, c5, c6, c7, c8, c9⟩ := HK.out v7 HC7.out
      go_wp2_with fail
      refine (awake26_any v7 (HS1.out.below HC7.out)).mono ?_
      rintro e v11 ⟨rfl, hb11⟩
      have HC11 := Lib.hid (HC7.out.trans (hb11.mono HC7.out.size))
      clear hb11 c0 c1 c2 c3 c4 c5 c6 c7 c8 c9
      go_wp2
      go_ret
      exact ⟨rfl, HB1.out.trans (HC11.out.mono HB1.out.size)⟩
    · obtain ⟨c0, c1, c2, c3, c4, c5, c6, c7, c8, c9⟩ := HK.out v7 HC7.out
      go_wp2_with fail
      refine (HF1.out v7 (HS1.out.below HC7.out)).mono ?_
      rintro e v10 ⟨rfl, hb10⟩
      have HC10 := Lib.hid (HC7.out.trans (hb10.mono HC7.out.size))
      obtain rfl : b = false := by
        cases b
        · rfl
        · refine absurd (HFB.out.mp rfl) ?_
          by_cases h4 : n ≤ 4096
          · obtain ⟨k, rfl⟩ : ∃ k : Nat, n = (k : Int) := ⟨n.toNat, by omega⟩
            exact HM.out.hi k (by omega) (by omega)
          · exact fit_out (.inr (by omega))
      clear hb10 c0 c1 c2 c3 c4 c5 c6 c7 c8 c9
      go_wp2_with fail
      refine (awake26_any v10 (HS1.out.below HC10.out)).mono ?_
      rintro e v11 ⟨rfl, hb11⟩
      have HC11 := Lib.hid (HC10.out.trans (hb11.mono HC10.out.size))
      clear hb11
      go_wp2
      go_ret
      exact ⟨rfl, HB1.out.trans (HC11.out.mono HB1.out.size)⟩
end Go.Proofs.YtdknalihgblfcaaDoor
