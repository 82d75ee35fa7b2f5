/-
  Layer 31: the kind that a word names, name by name. No program is named here.
-/
import Derived.Test.YtcaogiaoabdkdaaDoorZLnM
namespace Go.Proofs.YtcaogiaoabdkdaaDoor
set_option linter.unusedVariables false
set_option linter.unusedSimpArgs false
set_option maxRecDepth 100000
/-- the kind behind the first j names; -1: none -/
def kindF (w : List Nat) : Nat → Int
  | 0 => -1
  | j + 1 => if namesL.getD j [] = w then (j : Int) else kindF w j
theorem kindF_none (w : List Nat) (j : Nat) (h : ∀ k, k < j → namesL.getD k [] ≠ w) : kindF w j = -1 := by
  induction j with
  | zero => rfl
  | succ j ih => rw [kindF, if_neg (h j (by omega)), ih (fun k hk => h k (by omega))]
theorem kindF_name : ∀ k, k < 20 → kindF (namesL.getD k []) 20 = (k : Int) := by decide
theorem kindF_lt (w : List Nat) (j : Nat) : -1 ≤ kindF w j ∧ kindF w j < (j : Int) := by
  induction j with
  | zero => rw [kindF]; omega
  | succ j ih => rw [kindF]; split <;> omega
/-- all names held against a word: the kind that it names -/
theorem kindF_kind (w : List Nat) : kindF w 20 = match kindW w with | some k => (k : Int) | none => -1 := by
  cases h : kindW w with
  | none =>
    unfold kindW at h
    rw [List.find?_eq_none] at h
    refine kindF_none w 20 (fun k hk e => ?_)
    have := h k (List.mem_range.2 hk)
    rw [decide_eq_true_eq] at this
    exact this e
  | some k =>
    unfold kindW at h
    have h1 := List.find?_some h
    have h2 := List.mem_range.1 (List.mem_of_find?_eq_some h)
    rw [decide_eq_true_eq] at h1
    show kindF w 20 = (k : Int)
    rw [← h1]
    exact kindF_name k h2
theorem kindW_lt {w : List Nat} {k : Nat} (h : kindW w = some k) : k < 20 := by
  unfold kindW at h
  exact List.mem_range.1 (List.mem_of_find?_eq_some h)
end Go.Proofs.YtcaogiaoabdkdaaDoor
