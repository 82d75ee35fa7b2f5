/-
  Gauge: Most, the rooms held against one another, the example; GaugeMost's walk.
-/
import Derived.Test.YtdknalihgblfcaaGreatDoorGaA
import Derived.Test.YtdknalihgblfcaaGreatDoorHeldF
namespace Go.Proofs.YtdknalihgblfcaaGreatDoor
open Go.RowKit Go
set_option linter.unusedVariables false
set_option linter.unusedSimpArgs false
set_option maxRecDepth 100000
theorem fits1_at (f l : Int) (s : Nat → Int) (n : Int) : ∃ b : Bool, (b = true ↔ FitP f l s n) ∧ (∀ w, SZ w → Calls Tryz.prog 5 #[.agg (rmC f l s), .int .i64 n] w fun e w' => e = .returned (.bool b) ∧ Below w.heap.size w w') := by
  have key : ∀ b : Bool, (b = true ↔ FitP f l s n) → (∀ w, SZ w → Calls Tryz.prog 5 #[.agg (rmC f l s), .int .i64 n] w fun e w' => e = .returned (.bool b) ∧ Below w.heap.size w w') := by
    intro b hb w hS
    refine (fits_any f l s n w hS).mono ?_
    rintro e w' ⟨b', rfl, hb', hw⟩
    have : b' = b := by
      cases b <;> cases b'
      · rfl
      · exact absurd (hb.mpr (hb'.mp rfl)) (by simp)
      · exact absurd (hb'.mpr (hb.mp rfl)) (by simp)
      · rfl
    rw [this]
    exact ⟨rfl, hw⟩
  by_cases h : FitP f l s n
  · exact ⟨true, ⟨fun _ => h, fun _ => rfl⟩, key true ⟨fun _ => h, fun _ => rfl⟩⟩
  · exact ⟨false, ⟨fun g => (by cases g), fun g => absurd g h⟩, key false ⟨fun g => (by cases g), fun g => absurd g h⟩⟩
/-- the greatest number that fits; 0: none -/
structure MostP (f l : Int) (s : Nat → Int) (m : Nat) : Prop where
  le : m ≤ 4096
  fit : m ≠ 0 → FitP f l s (m : Int)
  hi : ∀ k : Nat, m < k → k ≤ 4096 → ¬ FitP f l s (k : Int)
theorem MostP.ex (f l : Int) (s : Nat → Int) : ∃ m, MostP f l s m := by
  have : ∀ j k : Nat, k + j = 4096 → (∃ m, MostP f l s m) ∨ (∀ i : Nat, k < i → i ≤ 4096 → ¬ FitP f l s (i : Int)) := by
    intro j
    induction j with
    | zero => intro k hk; exact .inr fun i h1 h2 => by omega
    | succ j ih =>
      intro k hk
      rcases ih (k + 1) (by omega) with h | h
      · exact .inl h
      · by_cases hf : FitP f l s ((k + 1 : Nat) : Int)
        · exact .inl ⟨k + 1, by omega, fun _ => hf, h⟩
        · refine .inr fun i h1 h2 => ?_
          by_cases e : i = k + 1
          · rw [e]; exact hf
          · exact h i (by omega) h2
  rcases this 4096 0 rfl with h | h
  · exact h
  · exact ⟨0, by omega, fun h => absurd rfl h, h⟩
set_option maxHeartbeats 2000000 in
theorem most_any (f l : Int) (s : Nat → Int) (m : Nat) (hm : MostP f l s m) (w : World) (hS : SZ w) :
    Calls Tryz.prog 6 #[.agg (rmC f l s)] w fun e w' => e = .returned (.int .i64 (m : Int)) ∧ Below w.heap.size w w' := by
  obtain ⟨W1, hW⟩ : ∃ W1, W1 = w.alloc (.cells (rmC f l s) 24) := ⟨_, rfl⟩
  have hb1 : Below w.heap.size w W1 := by rw [hW]; exact (Below.refl _ _).alloc (Nat.le_refl _) _
  have hx1 : W1.heap[w.heap.size]? = some (.cells (rmC f l s) 24 (0, 0)) := by rw [hW]; exact heap_alloc_new w _
  have HB1 := Lib.hid hb1
  have HX1 := Lib.hid hx1
  have HS1 := Lib.hid (hS.below hb1)
  have HM := Lib.hid hm
  have HW : Hid (w.alloc (.cells (rmC f l s) 24) = W1) := Lib.hid hW.symm
  have hm4 := hm.le
  clear hb1 hW hx1 hS hm
  go_enter Tryz.func6, Tryz.ntmps6
  go_wp2_with fail
  rw [HW.out]
  go_loopw [3] (fun v3 wr => ∃ k : Nat, v3 = .int .i64 (k : Int) ∧ m ≤ k ∧ k ≤ 4096 ∧ Below W1.heap.size W1 wr) (fun v _ => (intOf v).toNat)
  case atStart => exact ⟨4096, rfl, hm4, by omega, Below.refl _ _⟩
  case round =>
    obtain ⟨k, rfl, hk, hk4, hb⟩ := hrel
    have HB := Lib.hid hb
    have hS2 := HS1.out.below hb
    have HS2 := Lib.hid hS2
    have hx : wr.heap[w.heap.size]? = some (.cells (rmC f l s) 24 (0, 0)) := (hb.block _ (blk_lt HX1.out)).trans HX1.out
    have c0 := blk_cell hx 0
    have c1 := blk_cell hx 1
    have c2 := blk_cell hx 2
    have c3 := blk_cell hx 3
    have c4 := blk_cell hx 4
    have c5 := blk_cell hx 5
    have c6 := blk_cell hx 6
    have c7 := blk_cell hx 7
    have c8 := blk_cell hx 8
    have c9 := blk_cell hx 9
    simp only [rmC, List.getElem?_toArray, List.getElem?_cons_zero, List.getElem?_cons_succ] at c0 c1 c2 c3 c4 c5 c6 c7 c8 c9
    clear hb hS2 hx
    by_cases h0 : k = 0
    · obtain rfl : m = 0 := by omega
      subst h0
      go_wp2
      go_ret
      exact ⟨rfl, HB1.out.trans (HB.out.mono HB1.out.size)⟩
    · have hk0 : (0 : Int) < (k : Int) := by omega
      go_wp2_with fail
      obtain ⟨b, hbf, hbc⟩ := fits1_at f l s (k : Int)
      refine (hbc wr HS2.out).mono ?_
      rintro e w2 ⟨rfl, hb2⟩
      have HC := Lib.hid (HB.out.trans (hb2.mono HB.out.size))
      by_cases hkm : k = m
      · obtain rfl : b = true := hbf.mpr (by rw [hkm]; exact HM.out.fit (by omega))
        obtain rfl := hkm
        clear hbf hbc hb2 c0 c1 c2 c3 c4 c5 c6 c7 c8 c9
        go_wp2
        go_ret
        exact ⟨rfl, HB1.out.trans (HC.out.mono HB1.out.size)⟩
      · obtain rfl : b = false := by
          cases b
          · rfl
          · exact absurd (hbf.mp rfl) (HM.out.hi k (by omega) hk4)
        clear hbf hbc hb2 c0 c1 c2 c3 c4 c5 c6 c7 c8 c9
        go_wp2
        go_roundw
        case rel => exact ⟨k - 1, by congr 1; omega, by omega, by omega, HC.out⟩
        case measure => simp [intOf]; omega
end Go.Proofs.YtdknalihgblfcaaGreatDoor
