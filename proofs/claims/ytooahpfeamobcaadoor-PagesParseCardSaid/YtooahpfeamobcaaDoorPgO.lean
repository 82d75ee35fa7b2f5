/-
  The statements' step, few, awake.
-/
import Derived.Test.YtooahpfeamobcaaDoorPgN
namespace Go.Proofs.YtooahpfeamobcaaDoor
open Go.RowKit Go
set_option linter.unusedVariables false
set_option linter.unusedSimpArgs false
set_option maxRecDepth 100000
def StepTo (w : World) (l : List Pg) (e : Ending) (w' : World) : Prop := ∃ (l' : List Pg) (A' : Option Addr) (c' : Nat), (l' = l ∨ mayL l' = true) ∧ e = .returned (.tuple #[.slice A' l'.length c', .bool true]) ∧ PS w' A' l'.length c' l' ∧ Below w.heap.size w w'
/-- what a call answers may be, or is an error -/
structure Good (R : Nat × List Pg) : Prop where
  may : R.1 = 0 → mayL R.2 = true
  len : R.2.length < 1000
theorem good_of {R : Nat × List Pg} (h1 : R.1 = 0 → mayL R.2 = true) (h2 : ErrNil R) : Good R := ⟨h1, by
  by_cases h : R.1 = 0
  · have := (mayL_iff.1 (h1 h)).1; omega
  · rw [h2 h]; decide⟩
theorem takeF_good (l : List Pg) (a s n : Int) : Good (takeF l a s n) := good_of takeF_may (takeF_err _ _ _ _)
theorem giveF_good (l : List Pg) (a : Int) : Good (giveF l a) := good_of giveF_may (giveF_err _ _)
theorem turnF_good (l : List Pg) (a c : Int) : Good (turnF l a c) := good_of turnF_may (turnF_err _ _ _)
theorem firstI_le (l : List Pg) (m : Int) : firstI l m 0 ≤ 9223372036854775807 ∨ 1000 ≤ l.length := by
  by_cases h : 1000 ≤ l.length
  · exact .inr h
  · refine .inl ?_
    rcases firstI_neg l m _ 0 (Nat.le_refl _) with h1 | h1 <;> omega
end Go.Proofs.YtooahpfeamobcaaDoor
