/-
  The blocks of a log, with others behind: what Parse reads of them.
-/
import Derived.Test.YtnalebocfbbpdaaLgR
import Derived.Test.YtnalebocfbbpdaaLgY
namespace Go.Proofs.Ytnalebocfbbpdaa
open Go.RowKit Go
set_option linter.unusedVariables false
set_option linter.unusedSimpArgs false
theorem mayG_256 {p t : Int} {es : List (Int × List Nat)} (h : MayG p t es) {i : Nat} (hi : i < es.length) : (dAt es i).length = 256 := by
  exact Decidable.byContradiction fun e => h.2.2.2 i hi (by unfold MisAt Mis; exact .inr (.inr e))
theorem blks_len (c : Nat) (es : List (Int × List Nat)) : (blksL c es es.length).length = es.length + 1 := by rw [blksL_all]; simp
theorem blks_256 {p t : Int} {es : List (Int × List Nat)} (h : MayG p t es) (c : Nat) (i : Nat) (hi : i < (blksL c es es.length).length) : ((blksL c es es.length).getD i []).length = 256 := by
  rw [blks_len] at hi
  rw [blksL_all]
  cases i with
  | zero => exact head_len c es
  | succ i =>
    have hi2 : i < es.length := by omega
    have := mayG_256 h hi2
    unfold dAt at this
    rw [List.getD_cons_succ, List.getD_eq_getElem?_getD, List.getElem?_map]
    cases e : es[i]? with
    | none => rw [List.getElem?_eq_none_iff] at e; omega
    | some x =>
      rw [List.getD_eq_getElem?_getD, e] at this
      simpa using this
/-- the log's blocks, with others behind -/
def filB (c : Nat) (es : List (Int × List Nat)) (fc : List Nat) (t : Nat) : List (List Nat) := blksL c es es.length ++ List.replicate (t + 1 - (blksL c es es.length).length) fc
theorem filB_len {c : Nat} {es : List (Int × List Nat)} {fc : List Nat} {t : Nat} (h : es.length ≤ t) : (filB c es fc t).length = t + 1 := by
  unfold filB; rw [List.length_append, List.length_replicate, blks_len]; omega
theorem filB_256 {p t : Int} {es : List (Int × List Nat)} (h : MayG p t es) (c tn : Nat) (fc : List Nat) (hf : fc.length = 256) (i : Nat) (hi : i < (filB c es fc tn).length) : ((filB c es fc tn).getD i []).length = 256 := by
  unfold filB at hi ⊢
  by_cases hl : i < (blksL c es es.length).length
  · rw [List.getD_eq_getElem?_getD, List.getElem?_append_left hl, ← List.getD_eq_getElem?_getD]
    exact blks_256 h c i hl
  · rw [List.length_append, List.length_replicate] at hi
    rw [List.getD_eq_getElem?_getD, List.getElem?_append_right (by omega), List.getElem?_replicate, if_pos (by omega)]
    exact hf
theorem filB_head (c : Nat) (es : List (Int × List Nat)) (fc : List Nat) (t : Nat) : (filB c es fc t).getD 0 [] = headL c es := by
  unfold filB; rw [blksL_all]; rfl
theorem filB_read {p : Int} {t : Nat} {es : List (Int × List Nat)} (h : MayG p t es) (c : Nat) (fc : List Nat) : readL ((filB c es fc t).getD 0 []) (filB c es fc t) t = es := by
  have h1 := h.1
  have h2 := h.2.2.1
  unfold Geo.May at h1
  rw [filB_head]
  unfold filB
  exact read_back (mayG_k h) (by have : ((t : Int)).toNat = t := by omega
                                 rw [this] at h2; exact h2) (by omega) _
/-- Parse of them -/
theorem parse_back {p : Int} {t c : Nat} {es : List (Int × List Nat)} {fc : List Nat} (h : MayG p t es) (hc : c < 2 ^ 64) {w w' : World} {e : Ending} (hp : ParseTo w p t t (filB c es fc t) e w') :
    ∃ A cp, e = .returned (.tuple #[.agg #[.int .u64 (c : Int), .slice A es.length cp], .int .i64 0]) ∧ Below w.heap.size w w' ∧ LgOk w' A es := by
  have hn : es.length ≤ 30 := by
    have h1 := h.1; have h2 := h.2.2.1
    unfold Geo.May at h1; omega
  obtain ⟨x, xs, A, m, cp, er, he, hb, hv, hz, hor⟩ := hp
  rw [filB_read h c fc, filB_head, head_cnt hc hn] at hor
  rcases hor with ⟨_, _, rfl, rfl, rfl⟩ | ⟨hno, _⟩
  · obtain rfl := hv.1
    exact ⟨A, cp, he, hb, hv, hz, hn, fun i hi => by rw [mayG_256 h hi]; omega⟩
  · exact absurd ⟨h, rfl⟩ hno
end Go.Proofs.Ytnalebocfbbpdaa
