/-
  Joined: Open, Off.
-/
import Derived.WalkKit
import Derived.OpenShut
import Derived.ProofKit
import Derived.Test.YthjpaligpojlnaaByt
namespace Go.Proofs.Ythjpaligpojlnaa
set_option maxRecDepth 100000
section
open Go.RowKit Go Go.WideShapes
set_option linter.unusedVariables false
section
variable {H : Type} {enc : TypeId × Value → H} {P : Program} {w W : World} {base b0 : Nat} {spare : Nat → Bool} {held : Bool} {r : Reach}
theorem open_bytes {n : Nat} {t e : TypeId} {v : Value} {d : DataW H} {p : List MemPlace} (ht : P.underlying t = some (.array n e)) (he : P.underlying e = some (.int .u8)) (hc : P.cellsOf e = 1) (hct : P.cellsOf t = n)
    (hv : Value.okWide P W r b0 t v) (h : DataW.Trod enc P w base spare held t v d p) : ∃ l : List Nat, l.length = n ∧ (∀ i, l.getD i 0 < 256) ∧ v = .agg (rowV (bF l) n) := by
  unfold Value.okWide at hv
  rw [ht] at hv
  obtain ⟨cs, rfl, hsz, _⟩ := hv
  rw [hct] at hsz
  obtain ⟨m, hm⟩ := h
  obtain ⟨xs, k, _, _, hl, hxl, hel⟩ := DataW.trod_array ht hm
  have hcell : ∀ i, i < n → ∃ q : Nat, q < 256 ∧ cs[i]? = some (.int .u8 (q : Int)) := fun i hi => by
    have h1 := hel i hi
    rw [hc, Nat.mul_one] at h1
    obtain ⟨y, hy⟩ : ∃ y, xs[i]? = some y := ⟨_, List.getElem?_eq_getElem (by omega)⟩
    rw [hy] at h1
    obtain ⟨z, hz, _, hw⟩ := DataW.trod_int he h1
    have hb := bounds_u8 hw
    refine ⟨z.toNat, by omega, ?_⟩
    have h2 : ((Value.agg cs).cells.toList.drop i)[0]? = some (.int .u8 z) := by
      have := congrArg (fun l => l[0]?) hz
      simpa [List.getElem?_take] using this
    have h3 : cs[i]? = some (.int .u8 z) := by simpa [Value.cells] using h2
    rw [h3]
    congr 2
    omega
  have hq : ∀ i, ∃ q : Nat, q < 256 ∧ (i < n → cs[i]? = some (.int .u8 (q : Int))) := fun i => by
    by_cases hi : i < n
    · obtain ⟨q, h1, h2⟩ := hcell i hi
      exact ⟨q, h1, fun _ => h2⟩
    · exact ⟨0, by omega, fun h => absurd h hi⟩
  refine ⟨(List.range n).map fun i => (hq i).choose, by simp, fun i => ?_, ?_⟩
  · rw [List.getD_eq_getElem?_getD, List.getElem?_map]
    by_cases hi : i < n
    · rw [List.getElem?_range hi]
      exact (hq i).choose_spec.1
    · rw [List.getElem?_eq_none (by simp; omega)]; simp
  · congr 1
    refine rowV_ext hsz fun i hi => ?_
    rw [(hq i).choose_spec.2 hi]
    unfold bF u8
    rw [List.getD_eq_getElem?_getD, List.getElem?_map, List.getElem?_range hi]
    rfl
end
end
section
open Go.RowKit Go
set_option linter.unusedVariables false
theorem off_of_ok {P : Program} {W : World} {b : Nat} {t e : TypeId} {a : Option Addr} {len cap : Nat} (ht : P.underlying t = some (.slice e)) (h : Value.okWide P W .any b t (.slice a len cap)) : ∀ ad, a = some ad → ad.block < W.heap.size := by
  rintro ad rfl
  unfold Value.okWide at h
  rw [ht] at h
  simp only [Cell.okWide, Cell.ok, ht] at h
  obtain ⟨_, _, _, _, row, cells, hs, _⟩ := h
  rcases Nat.lt_or_ge ad.block W.heap.size with hlt | hge
  · exact hlt
  · unfold World.shape? at hs
    rw [Array.getElem?_eq_none hge] at hs
    cases hs
theorem nil_of_ok {P : Program} {W : World} {b : Nat} {t e : TypeId} {a : Option Addr} {len cap : Nat} (ht : P.underlying t = some (.slice e)) (h : Value.okWide P W .any b t (.slice a len cap)) : a = none → cap = 0 := by
  rintro rfl
  unfold Value.okWide at h
  rw [ht] at h
  simp only [Cell.okWide, Cell.ok, ht] at h
  split at h <;> simp_all
end
end Go.Proofs.Ythjpaligpojlnaa
