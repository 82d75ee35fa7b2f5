/-
  slices.Concat of any few rows of bytes, none of them empty.
-/
import Derived.Test.YtooahpfeamobcaaDoorOwnW
import Derived.Test.YtooahpfeamobcaaDoorCls
import Derived.Shelf.Spec.SlicesGrow
namespace Go.Proofs.YtooahpfeamobcaaDoor
open Go.RowKit Go Go.Shelf
set_option linter.unusedVariables false
set_option linter.unusedSimpArgs false
/-! Concat -/
def CcTo (w : World) (l : List Nat) (e : Ending) (w' : World) : Prop := ∃ v, e = .returned v ∧ Own w' w.heap.size v l ∧ Below w.heap.size w w'
/-- rows stand in block b, and read so; none is empty -/
def RowsAt (w : World) (b : Nat) (xs : List (List Nat)) : Prop :=
  b < w.heap.size ∧ ∀ k, k < xs.length → 0 < (xs.getD k []).length ∧ (xs.getD k []).length ≤ 100 ∧ ∃ A c, w.cell? ⟨b, k, none⟩ = some (.slice A (xs.getD k []).length c) ∧ BS w w.heap.size A (xs.getD k []).length c (xs.getD k [])
theorem RowsAt.below {w w' : World} {b : Nat} {xs : List (List Nat)} (h : RowsAt w b xs) (hb : Below w.heap.size w w') : RowsAt w' b xs := by
  refine ⟨Nat.lt_of_lt_of_le h.1 hb.size, fun k hk => ?_⟩
  obtain ⟨h1, h2, A, c, h3, h4⟩ := h.2 k hk
  exact ⟨h1, h2, A, c, (hb.cell (p := ⟨b, k, none⟩) h.1).trans h3, (h4.below hb).more hb.size⟩
def sumL (xs : List (List Nat)) (k : Nat) : Nat := ((xs.take k).flatten).length
theorem sumL_0 (xs : List (List Nat)) : sumL xs 0 = 0 := by simp [sumL]
theorem flat_step (xs : List (List Nat)) {k : Nat} (hk : k < xs.length) : (xs.take (k + 1)).flatten = (xs.take k).flatten ++ xs.getD k [] := by
  rw [List.take_add_one, List.flatten_append, List.getElem?_eq_getElem hk]
  simp [List.getD, List.getElem?_eq_getElem hk]
theorem sumL_step (xs : List (List Nat)) {k : Nat} (hk : k < xs.length) : sumL xs (k + 1) = sumL xs k + (xs.getD k []).length := by
  unfold sumL
  rw [flat_step xs hk, List.length_append]
theorem sumL_le {w : World} {b : Nat} {xs : List (List Nat)} (h : RowsAt w b xs) : ∀ k, k ≤ xs.length → sumL xs k ≤ 100 * k
  | 0, _ => by rw [sumL_0]; omega
  | k + 1, hk => by
    have := sumL_le h k (by omega)
    have := (h.2 k (by omega)).2.1
    rw [sumL_step xs (by omega)]
    omega
theorem sumL_pos {w : World} {b : Nat} {xs : List (List Nat)} (h : RowsAt w b xs) : ∀ k, k ≤ xs.length → k ≤ sumL xs k
  | 0, _ => by omega
  | k + 1, hk => by
    have := sumL_pos h k (by omega)
    have := (h.2 k (by omega)).1
    rw [sumL_step xs (by omega)]
    omega
def CcR (w : World) (xs : List (List Nat)) (v iv : Value) (wr : World) : Prop := ∃ k : Nat, iv = .int .i64 (k : Int) ∧ k ≤ xs.length ∧ Own wr w.heap.size v (xs.take k).flatten ∧ Below w.heap.size w wr
end Go.Proofs.YtooahpfeamobcaaDoor
