/-
  WordRow's second argument: the questions.
-/
import Derived.Test.YthmjncfjaopfcaaRowD
import Derived.Test.YthmjncfjaopfcaaOpenF
namespace Go.Proofs.Ythmjncfjaopfcaa
open Go.RowKit Go Go.WideShapes Go.ChangeShapes Go.Deep
set_option linter.unusedVariables false
section
variable {H : Type} {enc : TypeId × Value → H} {w : World}
theorem qs_open {A : Option Addr} {n c : Nat} {d : DataW H} {p : List MemPlace} (h : DataW.Trod enc Try.prog w 0 (fun _ => true) true 23 (.slice A n c) d p) : QS w A n ∧ n ≤ 9223372036854775807 := by
  obtain ⟨h1, h2, h3, _⟩ := fields_open Try.underlying23 Try.underlying32 (by kernel_rfl) (by kernel_rfl) (by decide) h
  refine ⟨fun hn => ?_, by unfold maxLen at h3; omega⟩
  obtain ⟨b, o, hA, hb, hf⟩ := h1 hn
  refine ⟨b, o, hA, hb, fun i hi => ?_⟩
  obtain ⟨v0, _, y0, c0, t0⟩ := hf i hi 0 _ rfl
  obtain ⟨v1, _, y1, c1, t1⟩ := hf i hi 1 _ rfl
  obtain ⟨K, hK, _, _⟩ := DataW.trod_int Try.underlying3 t0
  obtain ⟨N, hN, _, _⟩ := DataW.trod_int Try.underlying3 t1
  injection hK with hK
  injection hN with hN
  subst hK hN
  exact ⟨K, N, by simpa using c0, by rw [Nat.add_assoc]; simpa using c1⟩
end
end Go.Proofs.Ythmjncfjaopfcaa
