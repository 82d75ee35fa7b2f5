/-
  NvmTorn, program-free: what a loss of power leaves of a word.
-/
import Derived.Test.YthigknolpdohoaaNvBC
namespace Go.Proofs.Ythigknolpdohoaa
open Go.RowKit Go
set_option linter.unusedVariables false
set_option linter.unusedSimpArgs false
theorem lastsLQ (ws : List Wd) : lastsL ws = lastsQ ws := rfl
theorem chunk8 (f : Wd → List Nat) {ws : List Wd} (h : ∀ x ∈ ws, (f x).length = 8) {i : Nat} {x : Wd} (hx : ws[i]? = some x) : ((ws.flatMap f).drop (8 * i)).take 8 = f x := by
  refine List.ext_getElem? fun j => ?_
  have hl := h x (List.mem_of_getElem? hx)
  by_cases hj : j < 8
  · rw [List.getElem?_take_of_lt hj, List.getElem?_drop, flat8 f ws h i j hj, hx]
    rfl
  · rw [List.getElem?_take_eq_none (by omega), List.getElem?_eq_none (by omega)]
theorem torn_word (l : List Nat) {ws : List Wd} (h : OkM ws) (hc : OkM (crashW l 2 ws)) {i : Nat} (hi : i < ws.length) :
    ((lastsQ (crashW l 2 ws)).drop (8 * i)).take 8 = ((lastsQ ws).drop (8 * i)).take 8 ∨ ((lastsQ (crashW l 2 ws)).drop (8 * i)).take 8 = ((nowsL ws).drop (8 * i)).take 8 := by
  obtain ⟨x, hx⟩ : ∃ x, ws[i]? = some x := ⟨_, List.getElem?_eq_getElem hi⟩
  obtain ⟨y, hy, ho⟩ := crash_word l 2 ws i hx
  have e1 : ((lastsQ (crashW l 2 ws)).drop (8 * i)).take 8 = y.lasts := chunk8 Wd.lasts (fun z hz => (hc z hz).l) hy
  have e2 : ((lastsQ ws).drop (8 * i)).take 8 = x.lasts := chunk8 Wd.lasts (fun z hz => (h z hz).l) hx
  have e3 : ((nowsL ws).drop (8 * i)).take 8 = x.now := chunk8 Wd.now (fun z hz => (h z hz).n) hx
  rw [e1, e2, e3]
  exact ho
/-- a word that is read as it lasts, or is pending -/
def Cm (x : Wd) : Prop := x.pend = true ∨ x.lasts = x.now
theorem cm_put (l : List Nat) (n : Nat) : ∀ x ∈ putW Wd.st 0 l (zws n), Cm x := by
  intro x hx
  obtain ⟨i, hi⟩ := List.getElem?_of_mem hx
  rw [putW_at] at hi
  obtain ⟨y, hy, rfl⟩ := Option.map_eq_some_iff.mp hi
  unfold putB
  split
  · exact .inl rfl
  · have hz : y = zw := by
      have := List.mem_of_getElem? hy
      unfold zws at this
      exact (List.mem_replicate.1 this).2
    subst hz
    exact .inr rfl
theorem cm_fence {ws : List Wd} (h : ∀ x ∈ ws, Cm x) (m : Nat) (hm : ws.length ≤ m) : ∀ x ∈ turnW (fun _ => Wd.fe) 0 m (turnW (fun _ => Wd.fl) 0 m ws), x.lasts = x.now := by
  intro x hx
  obtain ⟨i, hi⟩ := List.getElem?_of_mem hx
  rw [turnW_at, turnW_at] at hi
  obtain ⟨y, hy, rfl⟩ := Option.map_eq_some_iff.mp hi
  obtain ⟨z, hz, rfl⟩ := Option.map_eq_some_iff.mp hy
  have hil : i < ws.length := (List.getElem?_eq_some_iff.mp hz).1
  rw [if_pos ⟨by omega, by omega⟩, if_pos ⟨by omega, by omega⟩]
  have hc := h z (List.mem_of_getElem? hz)
  unfold Wd.fe Wd.fl Wd.keep
  rcases hc with hc | hc
  · simp [hc]
  · cases z.pend <;> simp [hc]
theorem rows_same {ws : List Wd} (h : ∀ x ∈ ws, x.lasts = x.now) : nowsL ws = lastsQ ws := by
  unfold nowsL lastsQ
  induction ws with
  | nil => rfl
  | cons x r ih => rw [List.flatMap_cons, List.flatMap_cons, h x (List.mem_cons_self ..), ih (fun y hy => h y (List.mem_cons_of_mem _ hy))]
/-- the words behind the first store, its flush and its fence -/
theorem first_words (l : List Nat) : nowsL (turnW (fun _ => Wd.fe) 0 (8 * 2) (turnW (fun _ => Wd.fl) (8 * (0 / 64)) (8 * ((0 + 128 - 1) / 64 + 1)) (putW Wd.st 0 l (zws 2)))) = lastsQ (turnW (fun _ => Wd.fe) 0 (8 * 2) (turnW (fun _ => Wd.fl) (8 * (0 / 64)) (8 * ((0 + 128 - 1) / 64 + 1)) (putW Wd.st 0 l (zws 2)))) :=
  rows_same (cm_fence (cm_put l 2) 16 (by rw [putW_len, zws_len]; omega))
/-- the block of a row of bytes with some cells behind -/
def rowO (l : List Nat) (r : List Value) : Obj := .cells (bvals l ++ r).toArray 5 (0, 0)
theorem row_pic {q c : Nat} {l : List Nat} {r : List Value} {W : World} (hl : l.length ≤ c) (hc : c ≤ 9223372036854775807) (hb : ∀ v ∈ l, v < 256) (h : W.heap[q]? = some (rowO l r)) : BS W W.heap.size (some ⟨q, 0, none⟩) l.length c l := by
  refine ⟨rfl, hl, hc, fun i => ?_, fun _ => ⟨q, 0, rfl, blk_lt' h, fun i hi => ?_⟩⟩
  · by_cases hi : i < l.length
    · rw [List.getD_eq_getElem?_getD, List.getElem?_eq_getElem hi]; exact hb _ (List.getElem_mem hi)
    · rw [List.getD_eq_getElem?_getD, List.getElem?_eq_none (by omega)]; simp
  · have hc2 := blk_cell h i
    rw [Nat.zero_add, hc2, List.getElem?_toArray, List.getElem?_append_left (by rw [bvals_len]; exact hi)]
    unfold bvals
    rw [List.getElem?_map, List.getElem?_eq_getElem hi]
    simp [List.getD, List.getElem?_eq_getElem hi]
end Go.Proofs.Ythigknolpdohoaa
