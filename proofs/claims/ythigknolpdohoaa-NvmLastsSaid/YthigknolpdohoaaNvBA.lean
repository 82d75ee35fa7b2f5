/-
  The bytes of a device as one row: what a store, a flush and a loss of power make of them. No program is named here.
-/
import Derived.Test.YthigknolpdohoaaNvV
namespace Go.Proofs.Ythigknolpdohoaa
open Go.RowKit Go
set_option linter.unusedVariables false
set_option linter.unusedSimpArgs false
theorem flat8 (f : Wd → List Nat) : ∀ (ws : List Wd), (∀ x ∈ ws, (f x).length = 8) → ∀ i j, j < 8 → (ws.flatMap f)[8 * i + j]? = (ws[i]?).bind fun x => (f x)[j]?
  | [], _, i, j, _ => by simp
  | x :: r, h, 0, j, hj => by
    have h1 := h x (List.mem_cons_self ..)
    rw [List.flatMap_cons, List.getElem?_append_left (by omega)]
    simp
  | x :: r, h, i + 1, j, hj => by
    have h1 := h x (List.mem_cons_self ..)
    rw [List.flatMap_cons, List.getElem?_append_right (by omega), show 8 * (i + 1) + j - (f x).length = 8 * i + j by omega, flat8 f r (fun y hy => h y (List.mem_cons_of_mem _ hy)) i j hj]
    simp
theorem splice_get {α : Type} (L cs : List α) (off : Nat) (h : off + cs.length ≤ L.length) (p : Nat) : (splice L off cs)[p]? = if off ≤ p ∧ p < off + cs.length then cs[p - off]? else L[p]? := by
  unfold splice
  by_cases h1 : p < off
  · rw [if_neg (by omega), List.getElem?_append_left (by rw [List.length_take]; omega), List.getElem?_take_of_lt h1]
  · have hl : (L.take off).length = off := by rw [List.length_take]; omega
    rw [List.getElem?_append_right (by omega), hl]
    by_cases h2 : p < off + cs.length
    · rw [if_pos ⟨by omega, h2⟩, List.getElem?_append_left (by omega)]
    · rw [if_neg (by omega), List.getElem?_append_right (by omega), List.getElem?_drop]
      congr 1
      omega
def lastsQ (ws : List Wd) : List Nat := ws.flatMap Wd.lasts
def nowsL (ws : List Wd) : List Nat := ws.flatMap Wd.now
theorem nowsL_len {ws : List Wd} (h : OkM ws) : (nowsL ws).length = 8 * ws.length := by
  unfold nowsL
  rw [List.length_flatMap]
  induction ws with
  | nil => rfl
  | cons x r ih =>
    have h1 := (h x (List.mem_cons_self ..)).n
    have h2 := ih (fun y hy => h y (List.mem_cons_of_mem _ hy))
    simp only [List.map_cons, List.sum_cons, List.length_cons, h1, h2]
    omega
theorem nowsL_put {ws : List Wd} (h : OkM ws) (at_ : Nat) (l : List Nat) (hl : at_ + l.length ≤ 8 * ws.length) : nowsL (putW Wd.st at_ l ws) = splB (nowsL ws) at_ l := by
  have hln := nowsL_len h
  have h2 : ∀ x ∈ putW Wd.st at_ l ws, x.now.length = 8 := by
    intro x hx
    obtain ⟨i, hi⟩ := List.getElem?_of_mem hx
    rw [putW_at] at hi
    obtain ⟨y, hy, rfl⟩ := Option.map_eq_some_iff.mp hi
    have hn := (h y (List.mem_of_getElem? hy)).n
    unfold putB
    split
    · show (splB _ _ _).length = 8
      rw [splB_len (by rw [List.length_take, List.length_drop, hn]; omega), hn]
    · exact hn
  refine List.ext_getElem? fun p => ?_
  obtain ⟨i, j, hj, rfl⟩ : ∃ i j, j < 8 ∧ p = 8 * i + j := ⟨p / 8, p % 8, by omega, by omega⟩
  have e1 : nowsL (putW Wd.st at_ l ws) = (putW Wd.st at_ l ws).flatMap Wd.now := rfl
  have e2 : splB (nowsL ws) at_ l = splice (nowsL ws) at_ l := rfl
  rw [e1, flat8 Wd.now _ h2 i j hj, putW_at, e2, splice_get _ _ _ (by omega)]
  have e3 : (nowsL ws)[8 * i + j]? = (ws[i]?).bind fun x => x.now[j]? := flat8 Wd.now ws (fun x hx => (h x hx).n) i j hj
  rw [e3]
  rcases hx : ws[i]? with _ | x
  · have hi : ws.length ≤ i := List.getElem?_eq_none_iff.mp hx
    rw [if_neg (by omega)]
    simp
  · have hn := (h x (List.mem_of_getElem? hx)).n
    simp only [Option.map_some, Option.bind_some]
    unfold putB
    split
    · rename_i hc
      show (splice x.now _ _)[j]? = _
      rw [splice_get _ _ _ (by rw [List.length_take, List.length_drop, hn]; omega), List.length_take, List.length_drop]
      by_cases hin : at_ ≤ 8 * i + j ∧ 8 * i + j < at_ + l.length
      · rw [if_pos hin, if_pos (by omega), List.getElem?_take_of_lt (by omega), List.getElem?_drop]
        congr 1
        omega
      · rw [if_neg hin, if_neg (by omega)]
    · rename_i hc
      rw [if_neg (by omega)]
theorem turnW_flat (f : Wd → List Nat) (F : Nat → Wd → Wd) (a j : Nat) (ws : List Wd) (h : ∀ i x, f (F i x) = f x) : (turnW F a j ws).flatMap f = ws.flatMap f := by
  unfold turnW
  have : ∀ (G : Nat → Wd → Wd) (r : List Wd), (∀ i x, f (G i x) = f x) → (r.mapIdx G).flatMap f = r.flatMap f := by
    intro G r
    induction r generalizing G with
    | nil => intro _; rfl
    | cons x r ih =>
      intro hG
      rw [List.mapIdx_cons, List.flatMap_cons, List.flatMap_cons, hG, ih _ (fun i x => hG (i + 1) x)]
  refine this _ ws fun i x => ?_
  split
  · exact h i x
  · rfl
theorem nowsL_fl (a j : Nat) (ws : List Wd) : nowsL (turnW (fun _ => Wd.fl) a j ws) = nowsL ws := turnW_flat Wd.now _ a j ws fun _ _ => rfl
theorem lastsL_fl (a j : Nat) (ws : List Wd) : lastsQ (turnW (fun _ => Wd.fl) a j ws) = lastsQ ws := turnW_flat Wd.lasts _ a j ws fun _ _ => rfl
theorem lastsL_put (at_ : Nat) (l : List Nat) (ws : List Wd) : lastsQ (putW Wd.st at_ l ws) = lastsQ ws := by
  unfold lastsQ putW
  have : ∀ (G : Nat → Wd → Wd) (r : List Wd), (∀ i x, (G i x).lasts = x.lasts) → (r.mapIdx G).flatMap Wd.lasts = r.flatMap Wd.lasts := by
    intro G r
    induction r generalizing G with
    | nil => intro _; rfl
    | cons x r ih =>
      intro hG
      rw [List.mapIdx_cons, List.flatMap_cons, List.flatMap_cons, hG, ih _ (fun i x => hG (i + 1) x)]
  refine this _ ws fun i x => ?_
  unfold putB
  split <;> rfl
/-- behind a loss of power a word lasts as it lasted, or as it was -/
theorem crash_word (l : List Nat) (L : Nat) (ws : List Wd) (i : Nat) {x : Wd} (hx : ws[i]? = some x) : ∃ y, (crashW l L ws)[i]? = some y ∧ (y.lasts = x.lasts ∨ y.lasts = x.now) := by
  have key : ∀ k, (x.cr l k).lasts = x.lasts ∨ (x.cr l k).lasts = x.now := by
    intro k
    unfold Wd.cr
    cases x.pend <;> cases pickB l k <;> simp [Wd.keep, Wd.lose]
  unfold crashW
  rw [turnW_at, hx]
  refine ⟨_, rfl, ?_⟩
  split
  · exact key _
  · exact .inl rfl
end Go.Proofs.Ythigknolpdohoaa
