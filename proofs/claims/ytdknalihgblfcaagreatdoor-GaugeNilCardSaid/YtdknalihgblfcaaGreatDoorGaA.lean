/-
  Gauge: what fits in a room, for the package and the document; the greatest number that does.
-/
import Derived.Test.YtdknalihgblfcaaGreatDoorKlB
namespace Go.Proofs.YtdknalihgblfcaaGreatDoor
open Go.RowKit Go
set_option linter.unusedVariables false
set_option linter.unusedSimpArgs false
def rmC (f l : Int) (s : Nat → Int) : Array Value := #[.int .i64 f, .int .i64 l, .int .i64 (s 0), .int .i64 (s 1), .int .i64 (s 2), .int .i64 (s 3), .int .i64 (s 4), .int .i64 (s 5), .int .i64 (s 6), .int .i64 (s 7)]
theorem rm_at (f l : Int) (s : Nat → Int) (i : Nat) (h : i < 8) : (rmC f l s)[2 + i]? = some (.int .i64 (s i)) := by
  rcases (by omega : i = 0 ∨ i = 1 ∨ i = 2 ∨ i = 3 ∨ i = 4 ∨ i = 5 ∨ i = 6 ∨ i = 7) with rfl | rfl | rfl | rfl | rfl | rfl | rfl | rfl <;> rfl
theorem InCl.inj {n : Int} {i j : Nat} (h : InCl n i) (g : InCl n j) : i = j := by
  rcases Nat.lt_trichotomy i j with k | k | k
  · have := g.lo i k; have := h.hi; omega
  · exact k
  · have := h.lo j k; have := g.hi; omega
theorem InCl.le {n : Int} {i : Nat} (h : InCl n i) : n ≤ 120 := by have := h.hi; have := (szN_le i h.lt).2; omega
/-- there is a place for n bytes -/
def FitP (f l : Int) (s : Nat → Int) (n : Int) : Prop := (∃ i, InCl n i ∧ (0 < s i ∨ 0 < f)) ∨ (121 ≤ n ∧ n ≤ 4096 ∧ (((n.toNat + 255) / 256 : Nat) : Int) ≤ l)
def FitsTo (f l : Int) (s : Nat → Int) (n : Int) (w : World) (e : Ending) (w' : World) : Prop :=
  ∃ b : Bool, e = .returned (.bool b) ∧ (b = true ↔ FitP f l s n) ∧ Below w.heap.size w w'
theorem fit_in {f l : Int} {s : Nat → Int} {n : Int} {i : Nat} (h : InCl n i) : FitP f l s n ↔ (0 < s i ∨ 0 < f) := by
  constructor
  · rintro (⟨j, hj, hf⟩ | ⟨h1, _, _⟩)
    · rwa [h.inj hj]
    · have := h.le; omega
  · exact fun hf => .inl ⟨i, h, hf⟩
theorem fit_out {f l : Int} {s : Nat → Int} {n : Int} (h : n < 1 ∨ 4096 < n) : ¬ FitP f l s n := by
  rintro (⟨j, hj, _⟩ | ⟨h1, h2, _⟩)
  · have := hj.le; have := hj.one; omega
  · omega
theorem fit_pages {f l : Int} {s : Nat → Int} {n q : Nat} (h1 : 121 ≤ n) (h2 : n ≤ 4096) (hq : q = (n + 255) / 256) : FitP f l s (n : Int) ↔ (q : Int) ≤ l := by
  constructor
  · rintro (⟨j, hj, _⟩ | ⟨_, _, h⟩)
    · have := hj.le; omega
    · rw [hq]; exact h
  · intro h
    exact .inr ⟨by omega, by omega, by rw [hq] at h; exact h⟩
set_option maxHeartbeats 2000000 in
theorem fits_any (f l : Int) (s : Nat → Int) (n : Int) (w : World) (hS : SZ w) :
    Calls Tryz.prog 5 #[.agg (rmC f l s), .int .i64 n] w (FitsTo f l s n w) := by
  obtain ⟨W1, hW⟩ : ∃ W1, W1 = w.alloc (.cells (rmC f l s) 24) := ⟨_, rfl⟩
  have hb1 : Below w.heap.size w W1 := by rw [hW]; exact (Below.refl _ _).alloc (Nat.le_refl _) _
  have hx1 : W1.heap[w.heap.size]? = some (.cells (rmC f l s) 24 (0, 0)) := by rw [hW]; exact heap_alloc_new w _
  have hS1 : SZ W1 := hS.below hb1
  have HB1 := Lib.hid hb1
  have HX1 := Lib.hid hx1
  have HS1 := Lib.hid hS1
  have HW : Hid (w.alloc (.cells (rmC f l s) 24) = W1) := Lib.hid hW.symm
  clear hb1 hS1 hW hx1
  rcases (by omega : n < 1 ∨ (1 ≤ n ∧ n ≤ 120) ∨ (121 ≤ n ∧ n ≤ 4096) ∨ 4096 < n) with h | ⟨h1, h2⟩ | ⟨h1, h2⟩ | h
  · have HF : Hid (¬ FitP f l s n) := Lib.hid (fit_out (.inl h))
    go_enter Tryz.func5, Tryz.ntmps5
    go_wp2_with fail
    rw [HW.out]
    refine (of_low n h _ HS1.out).mono ?_
    rintro e w2 ⟨rfl, rfl⟩
    go_wp2_with fail
    refine (pages_out n (.inl (by omega)) _ HS1.out).mono ?_
    rintro e w2 ⟨rfl, rfl⟩
    go_wp2
    go_ret
    exact ⟨false, rfl, ⟨fun h => (by cases h), fun g => absurd g HF.out⟩, HB1.out⟩
  · obtain ⟨i, hi⟩ := InCl.ex n h1 h2
    have HI := Lib.hid hi
    have hi8 : (i : Int) < 8 := by have := hi.lt; omega
    have c0 : W1.cell? ⟨w.heap.size, 0, none⟩ = some (.int .i64 f) := blk_cell HX1.out 0
    have c2 : W1.cell? ⟨w.heap.size, 2 + i, none⟩ = some (.int .i64 (s i)) := (blk_cell HX1.out (2 + i)).trans (rm_at f l s i hi.lt)
    generalize hsi : s i = si at c2
    have HSI := Lib.hid hsi
    clear hi hsi
    go_enter Tryz.func5, Tryz.ntmps5
    go_wp2_with fail
    rw [HW.out]
    refine (of_in n i HI.out _ HS1.out).mono ?_
    rintro e w2 ⟨rfl, rfl⟩
    by_cases hs : 0 < si
    · go_wp2
      go_ret
      exact ⟨true, rfl, ⟨fun _ => (fit_in HI.out).2 (.inl (by rw [HSI.out]; exact hs)), fun _ => rfl⟩, HB1.out⟩
    · by_cases hf : 0 < f
      · go_wp2
        go_ret
        exact ⟨true, rfl, ⟨fun _ => (fit_in HI.out).2 (.inr hf), fun _ => rfl⟩, HB1.out⟩
      · go_wp2
        go_ret
        refine ⟨_, rfl, ?_, HB1.out⟩
        rw [fit_in HI.out, HSI.out]
        simp
  · obtain ⟨m, rfl⟩ : ∃ m : Nat, n = (m : Int) := ⟨n.toNat, by omega⟩
    obtain ⟨q, hq⟩ : ∃ q, q = (m + 255) / 256 := ⟨_, rfl⟩
    have HQ := Lib.hid hq
    have hm1 : 121 ≤ m := by omega
    have hm2 : m ≤ 4096 := by omega
    have c1 : W1.cell? ⟨w.heap.size, 1, none⟩ = some (.int .i64 l) := blk_cell HX1.out 1
    clear hq
    go_enter Tryz.func5, Tryz.ntmps5
    go_wp2_with fail
    rw [HW.out]
    refine (of_high _ (by omega) _ HS1.out).mono ?_
    rintro e w2 ⟨rfl, rfl⟩
    go_wp2_with fail
    refine (pages_in m q hm1 hm2 HQ.out _ HS1.out).mono ?_
    rintro e w2 ⟨rfl, rfl⟩
    by_cases hl : (q : Int) ≤ l
    · go_wp2
      go_ret
      refine ⟨_, rfl, ?_, HB1.out⟩
      rw [fit_pages hm1 hm2 HQ.out]
      simp [hl]
    · go_wp2
      go_ret
      refine ⟨_, rfl, ?_, HB1.out⟩
      rw [fit_pages hm1 hm2 HQ.out]
      simp
  · have HF : Hid (¬ FitP f l s n) := Lib.hid (fit_out (.inr h))
    go_enter Tryz.func5, Tryz.ntmps5
    go_wp2_with fail
    rw [HW.out]
    refine (of_high _ (by omega) _ HS1.out).mono ?_
    rintro e w2 ⟨rfl, rfl⟩
    go_wp2_with fail
    refine (pages_out n (.inr h) _ HS1.out).mono ?_
    rintro e w2 ⟨rfl, rfl⟩
    go_wp2
    go_ret
    exact ⟨false, rfl, ⟨fun h => (by cases h), fun g => absurd g HF.out⟩, HB1.out⟩
end Go.Proofs.YtdknalihgblfcaaGreatDoor
