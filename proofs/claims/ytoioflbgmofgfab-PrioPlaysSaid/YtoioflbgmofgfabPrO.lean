/-
  A slice of things that came in.
-/
import Derived.Test.YtoioflbgmofgfabPrF
import Derived.Test.YtoioflbgmofgfabOpenF
namespace Go.Proofs.Ytoioflbgmofgfab
open Go.RowKit Go Go.WideShapes Go.ChangeShapes Go.Deep
set_option linter.unusedVariables false
section
variable {H : Type} {enc : TypeId × Value → H} {w : World}
theorem ts_open {A : Option Addr} {n c : Nat} {d : DataW H} {p : List MemPlace} (h : DataW.Trod enc Try.prog w 0 (fun _ => true) true 47 (.slice A n c) d p) : ∃ l, TS w A n c l := by
  obtain ⟨h1, h2, h3, _⟩ := fields_open Try.underlying47 Try.underlying45 (by kernel_rfl) (by kernel_rfl) (by decide) h
  by_cases hn : 0 < n
  · obtain ⟨b, o, hA, hb, hf⟩ := h1 hn
    have key : ∀ i, ∃ q : Int × Int, i < n → w.cell? ⟨b, o + i * 2, none⟩ = some (.int .i64 q.1) ∧ w.cell? ⟨b, o + i * 2 + 1, none⟩ = some (.int .i64 q.2) := fun i => by
      by_cases hi : i < n
      · obtain ⟨v0, _, y0, c0, t0⟩ := hf i hi 0 _ rfl
        obtain ⟨v1, _, y1, c1, t1⟩ := hf i hi 1 _ rfl
        obtain ⟨K, hK, _, _⟩ := DataW.trod_int Try.underlying3 t0
        obtain ⟨N, hN, _, _⟩ := DataW.trod_int Try.underlying3 t1
        injection hK with hK
        injection hN with hN
        subst hK hN
        exact ⟨(K, N), fun _ => ⟨by simpa using c0, by rw [Nat.add_assoc]; simpa using c1⟩⟩
      · exact ⟨(0, 0), fun q => absurd q hi⟩
    obtain ⟨f, hf⟩ := Classical.skolem.1 key
    refine ⟨(List.range n).map f, by simp, h2, by unfold maxLen at h3; omega, fun _ => ⟨b, o, hA, hb, fun i hi => ?_⟩⟩
    have e : ((List.range n).map f).getD i (0, 0) = f i := by rw [List.getD_eq_getElem?_getD, List.getElem?_map, List.getElem?_range hi]; rfl
    rw [e]
    exact hf i hi
  · obtain rfl : n = 0 := by omega
    exact ⟨[], rfl, by omega, by unfold maxLen at h3; omega, fun q => absurd q hn⟩
end
end Go.Proofs.Ytoioflbgmofgfab
