/-
  What the box answers.
-/
import Derived.Test.YthjpaligpojlnaaGfD
namespace Go.Proofs.Ythjpaligpojlnaa
set_option linter.unusedVariables false
open Go.RowKit
theorem boxAt_at (n : Nat) : n ≤ 256 → ∀ j, j < n → (Gf.boxAt n)[j]? = some (.int .u8 ((Gf.sub j : Nat) : Int)) ∧ (Gf.boxAt n)[256 + Gf.sub j]? = some (.int .u8 (j : Int)) := by
  induction n with
  | zero => intro _ j hj; omega
  | succ n ih =>
    intro hn j hj
    have hz := boxAt_size n
    have hsn := Gf.sub_lt (c := n) (by omega)
    have hsj := Gf.sub_lt (c := j) (by omega)
    unfold Gf.boxAt
    by_cases h : j = n
    · subst h
      refine ⟨?_, ?_⟩
      · rw [Array.getElem?_setIfInBounds_ne (by omega), Array.getElem?_setIfInBounds_self_of_lt (by omega)]
      · rw [Array.getElem?_setIfInBounds_self_of_lt (by rw [Array.size_setIfInBounds]; omega)]
    · have hne : Gf.sub n ≠ Gf.sub j := fun e => h (Gf.sub_inj (by omega) (by omega) e.symm)
      have hi := ih (by omega) j (by omega)
      refine ⟨?_, ?_⟩
      · rw [Array.getElem?_setIfInBounds_ne (by omega), Array.getElem?_setIfInBounds_ne (by omega)]; exact hi.1
      · rw [Array.getElem?_setIfInBounds_ne (by omega), Array.getElem?_setIfInBounds_ne (by omega)]; exact hi.2
theorem box_sub {c : Nat} (hc : c < 256) : (Gf.boxAt 256)[c]? = some (.int .u8 ((Gf.sub c : Nat) : Int)) := (boxAt_at 256 (Nat.le_refl _) c hc).1
theorem box_back {d : Nat} (hd : d < 256) : (Gf.boxAt 256)[256 + d]? = some (.int .u8 ((Gf.bk d : Nat) : Int)) := by
  have h := (boxAt_at 256 (Nat.le_refl _) _ (Gf.bk_lt hd)).2
  rw [Gf.sub_bk hd] at h
  exact h
def IsBox (w : World) (g : Nat) : Prop := w.heap[g]? = some (.cells (Gf.boxAt 256) 72 (0, 0))
theorem IsBox.below {w w' : World} {g B : Nat} (h : IsBox w g) (hg : g < B) (hb : Below B w w') : IsBox w' g := (hb.block g hg).trans h
attribute [local irreducible] Gf.inv Gf.tm Gf.pw Gf.spread Gf.sub Gf.boxAt Gf.bk Gf.rm Gf.bit
set_option maxHeartbeats 400000 in
theorem sub_any (g c : Nat) (hc : c < 256) (w : World) (hb : IsBox w g) :
    Calls Try.prog 69 #[.pointer (some ⟨g, 0, none⟩), .int .u8 c] w fun e w' => e = .returned (.int .u8 (Gf.sub c : Nat)) ∧ w = w' := by
  have h1 : w.cell? ⟨g, c, none⟩ = some (.int .u8 ((Gf.sub c : Nat) : Int)) := (blk_cell hb c).trans (box_sub hc)
  clear hb
  go_enter Try.func69, Try.ntmps69
  go_wp2
  go_ret
  exact ⟨rfl, rfl⟩
set_option maxHeartbeats 400000 in
theorem sub_nil (c : Nat) (w : World) :
    Calls Try.prog 69 #[.pointer none, .int .u8 c] w fun e w' => e = .returned (.int .u8 0) ∧ w = w' := by
  go_enter Try.func69, Try.ntmps69
  go_wp2
  go_ret
  exact ⟨rfl, rfl⟩
end Go.Proofs.Ythjpaligpojlnaa
