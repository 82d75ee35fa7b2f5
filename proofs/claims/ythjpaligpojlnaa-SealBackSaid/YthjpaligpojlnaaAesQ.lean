/-
  The key of a law.
-/
import Derived.Test.YthjpaligpojlnaaAesP
import Derived.Test.YthjpaligpojlnaaOwn
namespace Go.Proofs.Ythjpaligpojlnaa
open Go.RowKit Go
set_option linter.unusedVariables false
theorem getD_append_byte {la lb : List Nat} (ha : ∀ i, la.getD i 0 < 256) (hb : ∀ i, lb.getD i 0 < 256) (i : Nat) : (la ++ lb).getD i 0 < 256 := by
  rw [List.getD_eq_getElem?_getD]
  by_cases h : i < la.length
  · rw [List.getElem?_append_left h, ← List.getD_eq_getElem?_getD]; exact ha i
  · rw [List.getElem?_append_right (by omega), ← List.getD_eq_getElem?_getD]; exact hb _
theorem own_gives {w' : World} {B : Nat} {v : Value} {l : List Nat} (h : Own w' B v l) (h2 : ∀ i, l.getD i 0 < 256) (hl : 0 < l.length) :
    ∃ b o c, v = .slice (some ⟨b, o, none⟩) l.length c ∧ BS w' w'.heap.size (some ⟨b, o, none⟩) l.length c l := by
  obtain ⟨A, c, rfl, hb⟩ := h.bs h2
  obtain ⟨b, o, rfl, _⟩ := hb.at_ hl
  exact ⟨b, o, c, rfl, hb⟩
end Go.Proofs.Ythjpaligpojlnaa
