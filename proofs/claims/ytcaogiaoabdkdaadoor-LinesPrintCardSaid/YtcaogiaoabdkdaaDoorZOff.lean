/-
  Where a slice that came in lies: in a block that was there, if it is not nil. No program is named here.
-/
import Derived.WalkKit
import Derived.OpenShut
namespace Go.Proofs.YtcaogiaoabdkdaaDoor
open Go.RowKit Go
set_option linter.unusedVariables false
theorem off_of_ok {P : Program} {W : World} {b : Nat} {t e : TypeId} {a : Option Addr} {len cap : Nat} (ht : P.underlying t = some (.slice e)) (h : Value.okWide P W .any b t (.slice a len cap)) : ∀ ad, a = some ad → ad.block < W.heap.size := by
  rintro ad rfl
  unfold Value.okWide at h
  rw [ht] at h
  simp only [Cell.okWide, Cell.ok, ht] at h
  obtain ⟨_, _, _, _, row, cells, hs, _⟩ := h
  rcases Nat.lt_or_ge ad.block W.heap.size with hlt | hge
  · exact hlt
  · unfold World.shape? at hs
    rw [Array.getElem?_eq_none hge] at hs
    cases hs
theorem nil_of_ok {P : Program} {W : World} {b : Nat} {t e : TypeId} {a : Option Addr} {len cap : Nat} (ht : P.underlying t = some (.slice e)) (h : Value.okWide P W .any b t (.slice a len cap)) : a = none → cap = 0 := by
  rintro rfl
  unfold Value.okWide at h
  rw [ht] at h
  simp only [Cell.okWide, Cell.ok, ht] at h
  split at h <;> simp_all
end Go.Proofs.YtcaogiaoabdkdaaDoor
