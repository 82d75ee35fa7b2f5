/-
  A slice of structs that came in, each field of one cell: opened. No program is named here.
-/
import Derived.WalkKit
import Derived.ProofKit
import Derived.OpenShut
import Derived.Deep.Slices
import Derived.Deep.Fields
import Derived.ChangeSame
namespace Go.Proofs.YtflgcddgocojpaaDoor
open Go.RowKit Go Go.WideShapes Go.ChangeShapes Go.Deep
set_option linter.unusedVariables false
section
variable {H : Type} {enc : TypeId × Value → H} {P : Program} {w : World}
/-- field j of element i lies in a cell of its own, and reads as its type does -/
def FieldsAt (enc : TypeId × Value → H) (P : Program) (w : World) (A : Option Addr) (n : Nat) (fs : Array Field) : Prop :=
  0 < n → ∃ b o, A = some ⟨b, o, none⟩ ∧ b < w.heap.size ∧ ∀ i, i < n → ∀ j f, fs[j]? = some f → ∃ v fuel y, w.cell? ⟨b, o + (i * fs.size + j), none⟩ = some v ∧ DataW.trod enc P w 0 (fun _ => true) true fuel f.type [v] = some y
theorem fields_open {t e : TypeId} {fs : Array Field} (ht : P.underlying t = some (.slice e)) (he : P.underlying e = some (.struct fs)) (hone : oneCellFields P fs = true) (hC : P.cellsOf e = fs.size) (h0 : 0 < fs.size)
    {A : Option Addr} {n c : Nat} {d : DataW H} {p : List MemPlace} (h : DataW.Trod enc P w 0 (fun _ => true) true t (.slice A n c) d p) :
    FieldsAt enc P w A n fs ∧ n ≤ c ∧ c ≤ maxLen ∧ (A = none → c = 0) := by
  obtain ⟨fuel, hfu⟩ := h
  rcases open_slice ht hfu with ⟨hcs, _⟩ | ⟨a, len, cap, m, k, D, Pl, hcs, _, hl, hm, hmm, _, hi⟩
  · simp [Value.cells] at hcs
    obtain ⟨rfl, rfl, rfl⟩ := hcs
    exact ⟨fun h => absurd h (by omega), by omega, by unfold maxLen; omega, fun _ => rfl⟩
  · simp [Value.cells] at hcs
    obtain ⟨rfl, rfl, rfl⟩ := hcs
    have hm2 : m = c := by simpa using hmm
    have key : ∀ i, i < n → ∀ j f, fs[j]? = some f → ∃ v fuel y, w.cell? ((a.add (i * fs.size)).add j) = some v ∧ DataW.trod enc P w 0 (fun _ => true) true fuel f.type [v] = some y := fun i hin j f hj => by
      obtain ⟨cs', hc, ht'⟩ := hi i (by omega)
      rw [hC] at hc
      obtain ⟨ys, n', _, _, _, hyl, hf⟩ := DataW.trod_struct he ht'
      obtain ⟨_, hcl, hat⟩ := World.cells?_some hc
      obtain ⟨ho, hk⟩ := hone_of hone j f hj
      have hjl : j < fs.size := (Array.getElem?_eq_some_iff.1 hj).1
      have h1 := hf j f hj
      rw [ho, hk] at h1
      have h2 : (cs'.drop j).take 1 = [cs'[j]'(by omega)] := by
        rw [List.drop_eq_getElem_cons (by omega)]
        rfl
      rw [h2] at h1
      have h3 : ys[j]? = some (ys[j]'(by omega)) := List.getElem?_eq_getElem (by omega)
      have h4 : cs'[j]? = some (cs'[j]'(by omega)) := List.getElem?_eq_getElem (by omega)
      exact ⟨cs'[j]'(by omega), n', _, (hat j hjl).trans h4, h1.trans h3⟩
    refine ⟨fun hn0 => ?_, hl, hm, fun h => by cases h⟩
    obtain ⟨b, off, spot⟩ := a
    obtain ⟨v0, _, _, hc0, _⟩ := key 0 hn0 0 _ (Array.getElem?_eq_getElem h0)
    have hspot : spot = none := by simpa [Addr.add] using World.cell?_spot hc0
    subst hspot
    refine ⟨b, off, rfl, by simpa [Go.WideShapes.add_plain] using block_lt_of_cell hc0, fun i hin j f hj => ?_⟩
    obtain ⟨v, fu, y, h1, h2⟩ := key i hin j f hj
    refine ⟨v, fu, y, ?_, h2⟩
    rw [← h1, Go.WideShapes.add_plain, Go.WideShapes.add_plain, Nat.add_assoc]
end
end Go.Proofs.YtflgcddgocojpaaDoor
