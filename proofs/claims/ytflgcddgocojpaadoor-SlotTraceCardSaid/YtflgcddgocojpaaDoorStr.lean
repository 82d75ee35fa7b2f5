/-
  Strings that are held against one another. No program is named here.
-/
import Derived.Test.YtflgcddgocojpaaDoorSl
namespace Go.Proofs.YtflgcddgocojpaaDoor
open Go.RowKit Go
set_option linter.unusedVariables false
theorem loop_eq (s : ByteArray) : ∀ n i r, s.size - i = n → ByteArray.toList.loop s i r = r.reverse ++ s.data.toList.drop i := by
  intro n
  induction n with
  | zero =>
    intro i r h
    unfold ByteArray.toList.loop
    have hs : s.data.toList.length = s.size := Array.length_toList
    rw [if_neg (by omega), List.drop_eq_nil_of_le (by omega), List.append_nil]
  | succ n ih =>
    intro i r h
    unfold ByteArray.toList.loop
    have hs : s.data.toList.length = s.size := Array.length_toList
    rw [if_pos (by omega), ih (i + 1) _ (by omega), List.reverse_cons, List.append_assoc, List.singleton_append]
    congr 1
    rw [List.drop_eq_getElem_cons (by omega : i < s.data.toList.length)]
    congr 1
    have hlt : i < s.data.size := by have : s.data.size = s.size := rfl; omega
    show s.data[i]! = s.data.toList[i]
    rw [getElem!_pos s.data i hlt, Array.getElem_toList]
theorem toList_data (s : ByteArray) : s.toList = s.data.toList := by
  unfold ByteArray.toList
  rw [loop_eq s _ 0 [] rfl]
  simp
theorem str_toList {l m : List Nat} (hl : ∀ i, l.getD i 0 < 256) (hm : ∀ i, m.getD i 0 < 256) : ((str l).toList == (str m).toList) = decide (l = m) := by
  rw [toList_data, toList_data]
  by_cases h : l = m
  · subst h; simp
  · rw [decide_eq_false h, beq_eq_false_iff_ne]
    intro e
    exact h (str_inj hl hm (Go.WideShapes.bytes_inj e))
theorem str_ne {l m : List Nat} (hl : ∀ i, l.getD i 0 < 256) (hm : ∀ i, m.getD i 0 < 256) (h : ¬ l = m) : ((str l).toList == (str m).toList) = false := by
  rw [str_toList hl hm, decide_eq_false h]
end Go.Proofs.YtflgcddgocojpaaDoor
