/-
  A slice of slices of bytes that came in: opened.
-/
import Derived.Test.YtimonlkelgpekacShaZ
import Derived.Deep.Slices
namespace Go.Proofs.Ytimonlkelgpekac
open Go.RowKit Go Go.WideShapes Go.ChangeShapes Go.Deep
set_option linter.unusedVariables false
section
variable {H : Type} {enc : TypeId × Value → H} {P : Program} {w : World}
theorem bytes_of_cell {t e : TypeId} (ht : P.underlying t = some (.slice e)) (he : P.underlying e = some (.int .u8)) (hc : P.cellsOf e = 1) {fuel : Nat} {u : Value} {x : DataW H × List MemPlace}
    (h : DataW.trod enc P w 0 (fun _ => true) true fuel t [u] = some x) : ∃ A k c l, u = .slice A k c ∧ BS w w.heap.size A k c l ∧ (A = none → c = 0) := by
  rcases open_ints ht he hc h with ⟨hcs, _⟩ | ⟨x, l, c, zs, hcs, _, hl, hm, hz, _, hcell, hwz⟩
  · injection hcs with hcs
    subst hcs
    exact ⟨none, 0, 0, [], rfl, BS.nil _ _, fun _ => rfl⟩
  · injection hcs with hcs
    subst hcs
    obtain ⟨q, hq⟩ := BS.of_row (.inr ⟨_, rfl, hl, hm, by simpa using hz, hcell, hwz⟩)
    exact ⟨some x, l, c, q, rfl, hq, fun h => by cases h⟩
theorem argL_open {t e f : TypeId} (ht : P.underlying t = some (.slice e)) (he : P.underlying e = some (.slice f)) (hf : P.underlying f = some (.int .u8)) (hce : P.cellsOf e = 1) (hcf : P.cellsOf f = 1)
    {A : Option Addr} {n c : Nat} {d : DataW H} {p : List MemPlace} (h : DataW.Trod enc P w 0 (fun _ => true) true t (.slice A n c) d p) : ∃ Ls, ArgL w A n Ls := by
  obtain ⟨fuel, hfu⟩ := h
  rcases open_slice ht hfu with ⟨hcs, _⟩ | ⟨a, len, cap, m, k, D, Pl, hcs, _, hl, hm, hmm, _, hi⟩
  · simp [Value.cells] at hcs
    obtain ⟨rfl, rfl, rfl⟩ := hcs
    exact ⟨[], rfl, fun h => absurd h (by omega)⟩
  · simp [Value.cells] at hcs
    obtain ⟨rfl, rfl, rfl⟩ := hcs
    have hm2 : m = c := by simpa using hmm
    have hx : ∀ i, i < n → ∃ l, ∃ B k c, w.cell? (a.add i) = some (.slice B k c) ∧ BS w w.heap.size B k c l ∧ (B = none → c = 0) := fun i hin => by
      obtain ⟨cs', h1, h2⟩ := hi i (by omega)
      rw [hce] at h1
      obtain ⟨_, hcl, hat⟩ := World.cells?_some h1
      match cs', hcl with
      | [u], _ =>
        obtain ⟨B, k, c, l, rfl, hbs, hn⟩ := bytes_of_cell he hf hcf h2
        refine ⟨l, B, k, c, ?_, hbs, hn⟩
        have := hat 0 (by omega)
        rw [Nat.mul_one, Addr.add_zero'] at this
        simpa using this
    by_cases hn0 : n = 0
    · subst hn0
      exact ⟨[], rfl, fun h => absurd h (by omega)⟩
    · have hex : ∀ i, ∃ l, i < n → ∃ B k c, w.cell? (a.add i) = some (.slice B k c) ∧ BS w w.heap.size B k c l ∧ (B = none → c = 0) := fun i => by
        by_cases h : i < n
        · obtain ⟨l, hl⟩ := hx i h; exact ⟨l, fun _ => hl⟩
        · exact ⟨[], fun h' => absurd h' h⟩
      obtain ⟨b, off, spot⟩ := a
      obtain ⟨_, B0, k0, c0, hc0, _⟩ := hx 0 (by omega)
      have hspot : spot = none := by simpa [Addr.add] using World.cell?_spot hc0
      subst hspot
      refine ⟨(List.range n).map fun i => (hex i).choose, by simp, fun _ => ⟨b, off, rfl, block_lt_of_cell hc0, fun i l hl => ?_⟩⟩
      have hin : i < n := by
        have := (List.getElem?_eq_some_iff.mp hl).1
        simpa using this
      rw [List.getElem?_map, List.getElem?_range hin] at hl
      have hl' : (hex i).choose = l := by simpa using hl
      obtain ⟨B, k, c, h1, h2, h3⟩ := (hex i).choose_spec hin
      rw [hl'] at h2
      exact ⟨B, k, c, by rw [← Go.WideShapes.add_plain]; exact h1, h2, h3⟩
end
end Go.Proofs.Ytimonlkelgpekac
