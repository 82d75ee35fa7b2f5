/-
  A region that draws its order, whose operations but the last few read, or call what leaves the world alone: one walk. No program is named here.
-/
import Derived.BigQuiet
import Derived.StillTailTactics
namespace Go.Proofs.YtoclelpmampikaaGreat
open Go
theorem still_of_quiet {P : Program} {ops : Array Oper} {W : World} {Q : Act → Prop} : ∀ (l : List Oper) (a : Act), wpQuiet P ops (fun W' => W' = W) Q l a → wpStill P ops W Q l a
  | [], a, h => h
  | o :: rest, a, h => by
    unfold wpQuiet at h
    unfold wpStill
    split
    · rename_i hw
      rw [if_pos hw] at h
      obtain ⟨v, hv, hn⟩ := h
      have h1 := hv W rfl
      have ih := still_of_quiet rest (a.put o.dst v) hn
      unfold Oper.quietAt at h1
      unfold Oper.still
      generalize (execOp a.eval o).run P W = r at h1 ⊢
      match r, h1 with
      | .ok (.value u) w', h1 => obtain ⟨h2, h3⟩ := h1; subst h3; exact ⟨h2, ih⟩
      | .ok .skip w', h1 => obtain ⟨h2, h3⟩ := h1; subst h3; exact ⟨h2, ih⟩
      | .ok (.enter f args) w', h1 => exact ⟨h1.1, v, h1.2, ih⟩
    · rename_i hw
      rw [if_neg hw] at h
      exact still_of_quiet rest _ h
theorem wp_region_qtail {P : Program} {id : Nat} {Q : Exit → Act → World → Prop} {a : Act} {w : World} {l : List Oper} (n : Nat) (W : World) (hW : W = w.drew) (hm : P.follows .mixedOrders = true) (hB : Region.lexTailB .any l.toArray n = true)
    (h : wpQuiet P l.toArray (fun W' => W' = W) (fun a' => wpList P l.toArray Q (l.drop n) a' W) (l.take n) a) : (Code.region id l.toArray true).wp P Q a w := by
  subst hW
  exact wp_region_still_tail n hm hB (still_of_quiet _ _ h)
end Go.Proofs.YtoclelpmampikaaGreat
