/-
  A byte of an own row is stored; integers that came in.
-/
import Derived.Test.YtnalebocfbbpdaaOwnW
import Derived.WalkKit
import Derived.ProofKit
import Derived.OpenShut
import Derived.Deep.Slices
import Derived.Deep.Fields
import Derived.ChangeSame
namespace Go.Proofs.Ytnalebocfbbpdaa
open Go.RowKit Go Go.WideShapes Go.ChangeShapes Go.Deep
set_option linter.unusedVariables false
set_option linter.unusedSimpArgs false
set_option maxRecDepth 100000
theorem Own.set {w : World} {B g n cap : Nat} {l : List Nat} (h : Own w B (.slice (some ⟨g, 0, none⟩) n cap) l) {k x : Nat} (hk : k < l.length) :
    Own (w.setCell ⟨g, k, none⟩ (.int .u8 (x : Int))) B (.slice (some ⟨g, 0, none⟩) n cap) (l.set k x) := by
  obtain ⟨h1, h2⟩ := h
  rcases h2 with ⟨e, _⟩ | ⟨g2, cap2, cur, e, hg, hh, hn, hm, hs, ht⟩
  · cases e
  · injection e with e1 e2 e3
    have e4 := Option.some.inj e1
    injection e4 with e5 _ _
    subst e5 e2 e3
    refine ⟨by rw [bvals_len, List.length_set, Nat.mul_one], .inr ⟨g, cap, _, by rw [List.length_set], hg, blk_set hh k _, by rw [List.length_set]; exact hn, hm, by simpa using hs, ?_⟩⟩
    rw [List.length_set, Nat.mul_one] at *
    rw [Array.toList_setIfInBounds, List.take_set, ht]
    unfold bvals
    rw [List.map_set]
theorem Own.at256 {w : World} {B : Nat} {v : Value} {l : List Nat} (h : Own w B v l) (hl : 0 < l.length) : ∃ g cap, v = .slice (some ⟨g, 0, none⟩) l.length cap ∧ l.length ≤ cap ∧ cap ≤ 9223372036854775807 ∧ ∀ k, k < l.length → (∃ u, w.cell? ⟨g, k, none⟩ = some u) ∧ w.frozen? ⟨g, k, none⟩ = false := by
  obtain ⟨h1, h2⟩ := h
  rcases h2 with ⟨rfl, e⟩ | ⟨g, cap, cur, rfl, hg, hh, hn, hm, hs, ht⟩
  · omega
  · refine ⟨g, cap, rfl, hn, by unfold maxLen at hm; omega, fun k hk => ⟨?_, blk_free hh k⟩⟩
    have hk2 : k < cur.size := by omega
    exact ⟨_, (blk_cell hh k).trans (Array.getElem?_eq_getElem hk2)⟩

/-- integers that came in -/
def IntsE (w : World) (A : Option Addr) (n : Nat) : Prop := n ≤ 9223372036854775807 ∧ (0 < n → ∃ b o, A = some ⟨b, o, none⟩ ∧ b < w.heap.size ∧ ∀ i, i < n → ∃ z : Int, w.cell? ⟨b, o + i, none⟩ = some (.int .i64 z))
section
variable {H : Type} {enc : TypeId × Value → H} {w : World}
theorem ints_open {A : Option Addr} {n c : Nat} {d : DataW H} {p : List MemPlace} (h : DataW.Trod enc Try.prog w 0 (fun _ => true) true 49 (.slice A n c) d p) : IntsE w A n := by
  obtain ⟨fuel, hf⟩ := h
  rcases open_ints Try.underlying49 Try.underlying3 (by kernel_rfl) hf with ⟨hcs, _⟩ | ⟨x, l, cc, zs, hcs, _, hl, hm, hz, _, hcell, hwz⟩
  · simp [Value.cells] at hcs
    obtain ⟨rfl, rfl, rfl⟩ := hcs
    exact ⟨by omega, fun h => absurd h (by omega)⟩
  · simp [Value.cells] at hcs
    obtain ⟨rfl, rfl, rfl⟩ := hcs
    have hz2 : zs.length = c := by simpa using hz
    refine ⟨by unfold maxLen at hm; omega, fun hn => ?_⟩
    obtain ⟨b, o, rfl, hc⟩ := ints_at hcell (by omega)
    exact ⟨b, o, rfl, block_lt_of_cell (hc 0 (by omega)), fun i hi => ⟨_, hc i (by omega)⟩⟩
end
theorem and255 (k : Int) : ∃ j : Nat, j < 256 ∧ bits .and .i64 k 255 = (j : Int) := by
  have h1 : (BitVec.ofInt 64 k).toNat &&& 255 ≤ 255 := Nat.and_le_right
  refine ⟨(BitVec.ofInt 64 k).toNat &&& 255, by omega, ?_⟩
  show IntKind.i64.wrap ((BitVec.ofInt 64 k &&& BitVec.ofInt 64 255).toNat : Int) = _
  rw [BitVec.toNat_and]
  have h2 : (BitVec.ofInt 64 255).toNat = 255 := by decide
  rw [h2]
  exact IntWalk.i64_in _ ⟨by omega, by omega⟩
/-- some 256 bytes of the call's own -/
def OwnB (W : World) (B : Nat) (v : Value) (n : Nat) : Prop := ∃ m : List Nat, m.length = n ∧ (∀ i, m.getD i 0 < 256) ∧ Own W B v m
def TurnR (w : World) (v i : Value) (n1 : Nat) (wr : World) : Prop := ∃ k : Nat, i = .int .i64 (k : Int) ∧ k ≤ n1 ∧ Below w.heap.size w wr ∧ OwnB wr w.heap.size v 256
end Go.Proofs.Ytnalebocfbbpdaa
