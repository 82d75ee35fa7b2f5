/-
  Layer 18: bytes of the call's own, of which some are copied anew.
-/
import Derived.Test.YtflgcddgocojpaaDoorSlW
namespace Go.Proofs.YtflgcddgocojpaaDoor
open Go.RowKit Go
set_option linter.unusedVariables false
set_option linter.unusedSimpArgs false

theorem own_cells {w : World} {B : Nat} {v : Value} {l : List Nat} (h : Own w B v l) (h0 : 0 < l.length) :
    ∃ g cap, ∃ cur : List Value, v = .slice (some ⟨g, 0, none⟩) l.length cap ∧ B ≤ g ∧ w.heap[g]? = some (.cells cur.toArray 5 (0, 0)) ∧ l.length ≤ cap ∧ cap ≤ 9223372036854775807 ∧ cur.length = cap := by
  obtain ⟨hl, h⟩ := h
  rcases h with ⟨_, e⟩ | ⟨g, cap, cur, rfl, hg, hh, hnc, hm, hs, ht⟩
  · omega
  · exact ⟨g, cap, cur.toList, rfl, hg, by rw [Array.toArray_toList]; exact hh, hnc, by unfold maxLen at hm; omega, by rw [Array.length_toList]; omega⟩
theorem own_spl {w w' : World} {B g n cap a : Nat} {l p : List Nat} {cur : List Value} (h : Own w B (.slice (some ⟨g, 0, none⟩) n cap) l) (hl : l.length = n) (h0 : w.heap[g]? = some (.cells cur.toArray 5 (0, 0)))
    (h1 : w'.heap[g]? = some (.cells (splice cur a (bvals p)).toArray 5 (0, 0))) (ha : a + p.length ≤ n) : Own w' B (.slice (some ⟨g, 0, none⟩) n cap) (splL l a p) := by
  obtain ⟨_, h⟩ := h
  have hsl : (splL l a p).length = n := by rw [splL_len (by omega), hl]
  rcases h with ⟨e, _⟩ | ⟨g2, cap2, cur2, e, hg, hh, hnc, hm, hs, ht⟩
  · injection e with e1; cases e1
  · injection e with e1 e2 e3
    injection e1 with e1; injection e1 with e1
    subst e1 e3
    rw [h0] at hh
    injection hh with hh; injection hh with hh
    subst hh
    have hcl : cur.length = cap := by simpa using hs
    have hfit : a + (bvals p).length ≤ cur.length := by rw [bvals_len]; omega
    refine ⟨by simp [bvals_len], .inr ⟨g, cap, _, by rw [hsl], hg, h1, by rw [hsl]; omega, hm, ?_, ?_⟩⟩
    · have := length_splice cur a (bvals p) hfit
      simpa [hcl] using this
    · rw [hsl]
      rw [hl] at ht
      refine List.ext_getElem? fun i => ?_
      by_cases hi : i < n * 1
      · have e1 := splice_at hfit i
        rw [List.getElem?_take_of_lt hi]
        simp only [List.toList_toArray] at ht ⊢
        have e2 : (bvals (splL l a p))[i]? = some (.int .u8 (((splL l a p).getD i 0 : Nat) : Int)) := bvals_at (by omega)
        rw [e1, bvals_len, e2, splL_at (by omega)]
        have h3 : cur[i]? = some (.int .u8 ((l.getD i 0 : Nat) : Int)) := by
          have := congrArg (fun q => q[i]?) ht
          simp only [List.getElem?_take_of_lt hi] at this
          rw [this, bvals_at (by omega)]
        by_cases h4 : i < a
        · rw [if_pos h4, if_pos h4, h3]
        · rw [if_neg h4, if_neg h4]
          by_cases h5 : i < a + p.length
          · rw [if_pos h5, if_pos h5, bvals_at (by omega)]
          · rw [if_neg h5, if_neg h5, h3]
      · rw [List.getElem?_eq_none (by rw [List.length_take]; omega), List.getElem?_eq_none (by rw [bvals_len, hsl]; omega)]
theorem own_bs {w : World} {B n cap : Nat} {A : Option Addr} {l : List Nat} (h : Own w B (.slice A n cap) l) (h2 : ∀ i, l.getD i 0 < 256) (hl : l.length = n) : BS w w.heap.size A n cap l := by
  obtain ⟨A2, c2, e, h3⟩ := h.bs h2
  injection e with e1 e2 e3
  subst e1 e3
  rw [hl] at h3; exact h3
end Go.Proofs.YtflgcddgocojpaaDoor
