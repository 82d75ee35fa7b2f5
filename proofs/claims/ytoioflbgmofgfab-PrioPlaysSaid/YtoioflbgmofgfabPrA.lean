/-
  A queue's entries in memory: three cells each, in a row that the queue owns.
-/
import Derived.Test.YtoioflbgmofgfabRows
import Derived.Test.YtoioflbgmofgfabTurn
import Derived.Test.YtoioflbgmofgfabPrM
import Derived.WalkKit
import Derived.WalkSpells
import Derived.WalkLawsBesides
import Derived.Lib.Hide
namespace Go.Proofs.Ytoioflbgmofgfab
open Go.RowKit Go
set_option linter.unusedVariables false
set_option linter.unusedSimpArgs false
abbrev EnT : TypeId := 84
abbrev QuT : TypeId := 80
def En.cells (e : En) : List Value := [.int .i64 e.n, .int .i64 e.m, .int .u64 (e.t : Int)]
def flat (es : List En) : List Value := es.flatMap En.cells
theorem flat_len (es : List En) : (flat es).length = es.length * 3 := by
  induction es with
  | nil => rfl
  | cons e r ih => simp only [flat, List.flatMap_cons, List.length_append, List.length_cons] at *; simp only [En.cells, List.length_cons, List.length_nil]; omega
theorem flat_get (es : List En) : ∀ (i k : Nat), i < es.length → k < 3 → (flat es)[i * 3 + k]? = (ea es i).cells[k]? := by
  induction es with
  | nil => intro i k h; simp at h
  | cons e r ih =>
    intro i k hi hk
    have e1 : flat (e :: r) = e.cells ++ flat r := rfl
    rw [e1]
    cases i with
    | zero => rw [List.getElem?_append_left (by simp [En.cells]; omega)]; simp [ea]
    | succ i =>
      have h3 : e.cells.length = 3 := rfl
      rw [List.getElem?_append_right (by omega), h3, show (i + 1) * 3 + k - 3 = i * 3 + k by omega, ih i k (by simpa using hi) hk]
      rfl
theorem flat_ext {xs : List Value} {es : List En} (h : xs.length = es.length * 3) (hc : ∀ i k, i < es.length → k < 3 → xs[i * 3 + k]? = (ea es i).cells[k]?) : xs = flat es := by
  apply List.ext_getElem?
  intro j
  by_cases hj : j < es.length * 3
  · have h1 := hc (j / 3) (j % 3) (by omega) (by omega)
    have h2 := flat_get es (j / 3) (j % 3) (by omega) (by omega)
    rw [show j / 3 * 3 + j % 3 = j by omega] at h1 h2
    rw [h1, h2]
  · rw [List.getElem?_eq_none (by omega), List.getElem?_eq_none (by rw [flat_len]; omega)]
theorem cells_one (e : En) : ∀ u ∈ e.cells, u.oneCell' = true := by intro u hu; simp [En.cells] at hu; rcases hu with rfl | rfl | rfl <;> rfl
/-- the row's value v reads as the entries es -/
def EntB (W : World) (B : Nat) (v : Value) (es : List En) : Prop := W.ownsRow B EnT 3 v es.length (flat es)
/-- where entry i lies -/
structure EntAt (W : World) (b : Nat) (es : List En) (i : Nat) : Prop where
  c0 : W.cell? ⟨b, i * 3, none⟩ = some (.int .i64 (ea es i).n)
  c1 : W.cell? ⟨b, i * 3 + 1, none⟩ = some (.int .i64 (ea es i).m)
  c2 : W.cell? ⟨b, i * 3 + 2, none⟩ = some (.int .u64 ((ea es i).t : Int))
  there : W.there b (i * 3) 3
theorem EntB.lt {W : World} {B : Nat} {v : Value} {es : List En} (h : EntB W B v es) : ∀ k, v.ownBlock = some k → B ≤ k ∧ k < W.heap.size := World.ownsRow.lt h
theorem EntB.form {W : World} {B : Nat} {v : Value} {es : List En} (h : EntB W B v es) : ∃ A c, v = .slice A es.length c ∧ c ≤ 9223372036854775807 ∧ es.length ≤ c ∧ (∀ ad, A = some ad → ad = ⟨ad.block, 0, none⟩) ∧ (A = none → es = []) := by
  obtain ⟨h1, ⟨hv, h0⟩ | ⟨g, cap, cur, hv, _, _, hn, hm, _⟩⟩ := h
  · exact ⟨none, 0, by rw [hv, h0], by omega, by omega, fun _ q => (by cases q), fun _ => List.length_eq_zero_iff.mp h0⟩
  · exact ⟨_, cap, hv, by unfold maxLen at hm; omega, hn, fun ad q => by cases q; rfl, fun q => by cases q⟩
theorem EntB.at_ {W : World} {B b n cap : Nat} {es : List En} (h : EntB W B (.slice (some ⟨b, 0, none⟩) n cap) es) {i : Nat} (hi : i < es.length) : EntAt W b es i := by
  have hc := World.ownsRow.cells h (g := b) rfl
  have hh : ∃ cur, W.heap[b]? = some (.cells cur EnT (0, 0)) := by
    obtain ⟨h1, ⟨hv, h0⟩ | ⟨g, cap', cur, hv, _, hh, _⟩⟩ := h
    · cases hv
    · cases hv; exact ⟨cur, hh⟩
  obtain ⟨cur, hh⟩ := hh
  have q : ∀ k, k < 3 → W.cell? ⟨b, i * 3 + k, none⟩ = (ea es i).cells[k]? := fun k hk => by
    have h2 := flat_get es i k hi hk
    have h3 : (ea es i).cells[k]? = some ((ea es i).cells[k]'(by simp [En.cells]; omega)) := List.getElem?_eq_getElem _
    rw [h3] at h2 ⊢
    have := hc _ _ h2
    rwa [Addr.add_mid, Nat.zero_add] at this
  refine ⟨q 0 (by omega), q 1 (by omega), q 2 (by omega), fun j hj => ⟨?_, blk_free hh _⟩⟩
  rw [q j hj, List.getElem?_eq_getElem (by simp [En.cells]; omega)]; rfl
theorem EntAt.range {W : World} {b i : Nat} {es : List En} (h : EntAt W b es i) : W.rangeAt b (i * 3) (ea es i).cells := fun j v hv => by
  rcases j with _ | _ | _ | j
  · simp [En.cells] at hv; subst hv; exact h.c0
  · simp [En.cells] at hv; subst hv; exact h.c1
  · simp [En.cells] at hv; subst hv; exact h.c2
  · simp [En.cells] at hv
/-- an entry is put -/
theorem EntB.put {W : World} {B b n cap : Nat} {es : List En} (h : EntB W B (.slice (some ⟨b, 0, none⟩) n cap) es) {i : Nat} (hi : i < es.length) (e : En) :
    EntB (W.setCells b (i * 3) e.cells) B (.slice (some ⟨b, 0, none⟩) n cap) (es.set i e) := by
  obtain ⟨h1, ⟨hv, h0⟩ | ⟨g, cap', cur, hv, hg, hh, hn, hm, hs, ht⟩⟩ := h
  · cases hv
  · cases hv
    have hH : (W.setCells b (i * 3) e.cells).heap[b]? = some (.cells (((cur.setIfInBounds (i * 3) (.int .i64 e.n)).setIfInBounds (i * 3 + 1) (.int .i64 e.m)).setIfInBounds (i * 3 + 2) (.int .u64 (e.t : Int))) EnT (0, 0)) := blk_set (blk_set (blk_set hh _ _) _ _) _ _
    unfold EntB
    rw [List.length_set]
    refine ⟨by rw [flat_len, List.length_set], .inr ⟨b, cap, _, rfl, hg, hH, hn, hm, by simp [hs], ?_⟩⟩
    refine flat_ext (by simp; omega) (fun q k hq hk => ?_)
    rw [List.length_set] at hq
    rw [ea_set _ _ _ _ hi]
    have h2 := flat_get es q k hq hk
    rw [← ht, List.getElem?_take_of_lt (by omega)] at h2
    rw [List.getElem?_take_of_lt (by omega)]
    simp only [Array.toList_setIfInBounds, List.getElem?_set, Array.length_toList, List.length_set]
    by_cases hqi : q = i
    · subst hqi
      rcases (by omega : k = 0 ∨ k = 1 ∨ k = 2) with rfl | rfl | rfl
      · rw [if_neg (by omega), if_neg (by omega), if_pos (by omega), if_pos (by omega), if_pos rfl]; rfl
      · rw [if_neg (by omega), if_pos rfl, if_pos (by omega), if_pos rfl]; rfl
      · rw [if_pos rfl, if_pos (by omega), if_pos rfl]; rfl
    · rw [if_neg (by omega), if_neg (by omega), if_neg (by omega), if_neg hqi, h2]
theorem EntB.keep {W W' : World} {B : Nat} {v : Value} {es : List En} (h : EntB W B v es) (hk : ∀ g, v.ownBlock = some g → W'.heap[g]? = W.heap[g]?) : EntB W' B v es := by
  obtain ⟨h1, h2⟩ := h
  refine ⟨h1, ?_⟩
  rcases h2 with h2 | ⟨g, cap, cur, hv, hg, hh, hr⟩
  · exact .inl h2
  · exact .inr ⟨g, cap, cur, hv, hg, (hk g (by rw [hv]; rfl)).trans hh, hr⟩
/-- the first ones alone -/
theorem EntB.cut {W : World} {B b n cap : Nat} {es : List En} (h : EntB W B (.slice (some ⟨b, 0, none⟩) n cap) es) {k : Nat} (hk : k ≤ es.length) : EntB W B (.slice (some ⟨b, 0, none⟩) k cap) (es.take k) := by
  obtain ⟨h1, ⟨hv, h0⟩ | ⟨g, cap', cur, hv, hg, hh, hn, hm, hs, ht⟩⟩ := h
  · cases hv
  · cases hv
    have hlk : (es.take k).length = k := by rw [List.length_take]; omega
    unfold EntB
    rw [hlk]
    refine ⟨by rw [flat_len, hlk], .inr ⟨b, cap, cur, rfl, hg, hh, by omega, hm, hs, ?_⟩⟩
    have hcl : cur.toList.length = cap * 3 := by rw [Array.length_toList]; exact hs
    refine flat_ext (by rw [List.length_take, hlk]; omega) (fun q j hq hj => ?_)
    rw [hlk] at hq
    have h2 := flat_get es q j (by omega) hj
    rw [← ht, List.getElem?_take_of_lt (by omega)] at h2
    rw [List.getElem?_take_of_lt (by omega), h2]
    unfold ea
    rw [List.getD_eq_getElem?_getD, List.getD_eq_getElem?_getD, List.getElem?_take_of_lt hq]
/-- the three cells of a queue -/
def QuB (W : World) (g : Nat) (v : Value) (t : Nat) : Prop := W.heap[g]? = some (.cells #[.func (Fn.func 17) #[] #[], v, .int .u64 (t : Int)] QuT (0, 0))
section
variable {W W' : World} {g t : Nat} {v : Value}
theorem QuB.lt (h : QuB W g v t) : g < W.heap.size := blk_lt h
theorem QuB.less (h : QuB W g v t) : W.cell? ⟨g, 0, none⟩ = some (.func (Fn.func 17) #[] #[]) := blk_cell h 0
theorem QuB.l (h : QuB W g v t) : W.cell? ⟨g, 1, none⟩ = some v := blk_cell h 1
theorem QuB.turn (h : QuB W g v t) : W.cell? ⟨g, 2, none⟩ = some (.int .u64 (t : Int)) := blk_cell h 2
theorem QuB.free (h : QuB W g v t) (i : Nat) : W.frozen? ⟨g, i, none⟩ = false := blk_free h i
theorem QuB.keep (h : QuB W g v t) (e : W'.heap[g]? = W.heap[g]?) : QuB W' g v t := e.trans h
end
/-- a queue that has these entries -/
structure Qu (W : World) (g : Nat) (v : Value) (es : List En) (t : Nat) : Prop where
  dev : QuB W g v t
  own : EntB W (g + 1) v es
section
variable {W W' : World} {g t : Nat} {v : Value} {es : List En}
theorem Qu.next (h : Qu W g v es t) (hb : Below W.heap.size W W') : Qu W' g v es t :=
  ⟨h.dev.keep (hb.block g h.dev.lt), h.own.keep fun k hk => hb.block k (h.own.lt k hk).2⟩
/-- what a call that turns the queue leaves -/
structure Qed (W : World) (g : Nat) (v : Value) (es' : List En) (t' : Nat) (W' : World) : Prop where
  turns : Turns (fun j => j = g ∨ v.ownBlock = some j) W W'
  qu : ∃ v', Qu W' g v' es' t' ∧ (v'.ownBlock = v.ownBlock ∨ ∃ j, W.heap.size ≤ j ∧ v'.ownBlock = some j)
theorem Qed.of_qu (h : Qu W g v es t) : Qed W g v es t W := ⟨⟨rfl, rfl, rfl, Nat.le_refl _, fun _ _ _ => rfl⟩, v, h, .inl rfl⟩
theorem Qed.next (h : Qed W g v es t W') {W2 : World} (hb : Below W'.heap.size W' W2) : Qed W g v es t W2 := by
  obtain ⟨v', h1, h2⟩ := h.qu
  exact ⟨h.turns.trans (S' := fun _ => False) (Turns.of_below hb) (fun _ _ q => q.elim), v', h1.next hb, h2⟩
end
end Go.Proofs.Ytoioflbgmofgfab
