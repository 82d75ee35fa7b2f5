/-
  What a queue has, by what was pushed: the least first. No program is named here.
-/
import Derived.Test.YtoioflbgmofgfabPrM
namespace Go.Proofs.Ytoioflbgmofgfab
set_option linter.unusedVariables false
set_option linter.unnecessarySimpa false
set_option linter.unusedSimpArgs false
def pushN : List En → Nat → List (Int × Int) → List En
  | es, _, [] => es
  | es, t, p :: r => pushN (pushF es ⟨p.1, p.2, t⟩) (t + 1) r
def ents : Nat → List (Int × Int) → List En
  | _, [] => []
  | t, p :: r => ⟨p.1, p.2, t⟩ :: ents (t + 1) r
def En.pr (e : En) : Int × Int := (e.n, e.m)
theorem ents_pr (l : List (Int × Int)) : ∀ t, (ents t l).map En.pr = l := by
  induction l with
  | nil => intro t; rfl
  | cons p r ih => intro t; show _ :: (ents (t + 1) r).map En.pr = _; rw [ih]; rfl
theorem ents_t (l : List (Int × Int)) : ∀ t, ∀ e ∈ ents t l, t ≤ e.t ∧ e.t < t + l.length := by
  induction l with
  | nil => intro t e h; cases h
  | cons p r ih =>
    intro t e h
    rcases List.mem_cons.1 h with rfl | h
    · simp
    · have := ih _ e h; simp; omega
theorem ents_sorted (l : List (Int × Int)) : ∀ t, (ents t l).Pairwise (fun a b => a.t < b.t) := by
  induction l with
  | nil => intro t; exact .nil
  | cons p r ih => intro t; exact .cons (fun e h => by have := ents_t r _ e h; show t < e.t; omega) (ih _)
structure QI (es ws : List En) : Prop where
  heap : Heap es es.length
  perm : es.Perm ws
  sorted : ws.Pairwise (fun a b => a.t < b.t)
theorem QI.nil : QI [] [] := ⟨fun k _ h => by simp at h, .refl _, .nil⟩
theorem pushN_heap (l : List (Int × Int)) : ∀ (es : List En) (t : Nat), Heap es es.length → Heap (pushN es t l) (pushN es t l).length ∧ (pushN es t l).Perm (es ++ ents t l) := by
  induction l with
  | nil => intro es t h; exact ⟨h, by simp [pushN, ents]⟩
  | cons p r ih =>
    intro es t h
    obtain ⟨h1, h2⟩ := push_heap es ⟨p.1, p.2, t⟩ h
    obtain ⟨h3, h4⟩ := ih _ (t + 1) h1
    refine ⟨h3, h4.trans ?_⟩
    have : (pushF es ⟨p.1, p.2, t⟩ ++ ents (t + 1) r).Perm ((⟨p.1, p.2, t⟩ :: es) ++ ents (t + 1) r) := h2.append_right _
    exact this.trans (List.perm_middle.symm)
theorem QI.push {es ws : List En} (h : QI es ws) (t : Nat) (ht : ∀ e ∈ ws, e.t < t) (l : List (Int × Int)) : QI (pushN es t l) (ws ++ ents t l) ∧ ∀ e ∈ ws ++ ents t l, e.t < t + l.length := by
  obtain ⟨h1, h2⟩ := pushN_heap l es t h.heap
  refine ⟨⟨h1, h2.trans (h.perm.append_right _), List.pairwise_append.2 ⟨h.sorted, ents_sorted l t, fun a ha b hb => ?_⟩⟩, fun e he => ?_⟩
  · have := ht a ha; have := ents_t l t b hb; omega
  · rcases List.mem_append.1 he with he | he
    · have := ht e he; omega
    · exact (ents_t l t e he).2
theorem sorted_inj {ws : List En} (h : ws.Pairwise (fun a b => a.t < b.t)) {x y : En} (hx : x ∈ ws) (hy : y ∈ ws) (he : x.t = y.t) : x = y := by
  obtain ⟨i, hi, rfl⟩ := List.mem_iff_getElem.1 hx
  obtain ⟨j, hj, rfl⟩ := List.mem_iff_getElem.1 hy
  have hp := List.pairwise_iff_getElem.1 h
  rcases Nat.lt_trichotomy i j with q | q | q
  · have := hp i j hi hj q; omega
  · subst q; rfl
  · have := hp j i hj hi q; omega
theorem QI.len {es ws : List En} (h : QI es ws) : es.length = ws.length := h.perm.length_eq
/-- number a is the least one -/
def LeastAt (ws : List En) (a : Nat) : Prop := a < ws.length ∧ ∀ j, j < ws.length → enLe (ea ws a) (ea ws j)
theorem QI.first {es ws : List En} (h : QI es ws) {a : Nat} (ha : LeastAt ws a) : ea es 0 = ea ws a := by
  have hl : 0 < es.length := by have := h.len; have := ha.1; omega
  have h0 : ea es 0 ∈ ws := h.perm.mem_iff.1 (ea_mem es 0 hl)
  obtain ⟨j, hj, hje⟩ := mem_ea ws _ h0
  obtain ⟨k, hk, hke⟩ := mem_ea es _ (h.perm.mem_iff.2 (ea_mem ws a ha.1))
  have l1 := ha.2 j hj
  have l2 := heap_least es es.length h.heap k hk
  rw [hje] at l1
  rw [hke] at l2
  exact sorted_inj h.sorted h0 (ea_mem ws a ha.1) (by unfold enLe at *; omega)
theorem erase_perm (ws : List En) (a : Nat) (ha : a < ws.length) : ws.Perm (ea ws a :: ws.eraseIdx a) := by
  have e : ea ws a = ws[a] := by unfold ea; rw [List.getD_eq_getElem?_getD, List.getElem?_eq_getElem ha]; rfl
  rw [e, List.eraseIdx_eq_take_drop_succ]
  conv => lhs; rw [← List.take_append_drop a ws, List.drop_eq_getElem_cons ha]
  exact List.perm_middle
theorem QI.pop {es ws : List En} (h : QI es ws) {a : Nat} (ha : LeastAt ws a) : popE es = ea ws a ∧ QI (popF es) (ws.eraseIdx a) := by
  have hl : 0 < es.length := by have := h.len; have := ha.1; omega
  obtain ⟨h1, h2, h3, h4⟩ := pop_heap es h.heap hl
  have hf := h.first ha
  refine ⟨h2.trans hf, h1, ?_, h.sorted.sublist (List.eraseIdx_sublist _ _)⟩
  have p := (h3.symm.trans h.perm).trans (erase_perm ws a ha.1)
  rw [hf] at p
  exact p.cons_inv
/-- the first one than which no other one is less -/
def FL (w : List (Int × Int)) (a : Nat) : Prop := a < w.length ∧ (∀ j, j < w.length → (w.getD a (0, 0)).1 ≤ (w.getD j (0, 0)).1) ∧ ∀ j, j < a → (w.getD a (0, 0)).1 < (w.getD j (0, 0)).1
theorem getD_pr (ws : List En) (i : Nat) (hi : i < ws.length) : (ws.map En.pr).getD i (0, 0) = (ea ws i).pr := by
  unfold ea; rw [List.getD_eq_getElem?_getD, List.getD_eq_getElem?_getD, List.getElem?_map, List.getElem?_eq_getElem hi]; rfl
theorem LeastAt.of_fl {ws : List En} (hs : ws.Pairwise (fun a b => a.t < b.t)) {a : Nat} (h : FL (ws.map En.pr) a) : LeastAt ws a := by
  obtain ⟨h1, h2, h3⟩ := h
  rw [List.length_map] at h1 h2
  refine ⟨h1, fun j hj => ?_⟩
  have q := h2 j hj
  rw [getD_pr ws a h1, getD_pr ws j hj] at q
  have hp := List.pairwise_iff_getElem.1 hs
  have ee : ∀ i (hi : i < ws.length), ea ws i = ws[i] := fun i hi => by unfold ea; rw [List.getD_eq_getElem?_getD, List.getElem?_eq_getElem hi]; rfl
  rcases Nat.lt_trichotomy a j with c | c | c
  · have := hp a j h1 hj c
    rw [ee a h1, ee j hj] at *
    unfold enLe; simp [En.pr] at q; omega
  · subst c; exact enLe_refl _
  · have := h3 j c
    rw [getD_pr ws a h1, getD_pr ws j hj] at this
    unfold enLe; simp [En.pr] at this; omega
/-- the place of the first least one of the first i; -1 of none -/
def leastF (w : List (Int × Int)) : Nat → Int
  | 0 => -1
  | i + 1 => if leastF w i < 0 ∨ (w.getD i (0, 0)).1 < (w.getD (leastF w i).toNat (0, 0)).1 then (i : Int) else leastF w i
theorem leastF_spec (w : List (Int × Int)) : ∀ i, 0 < i → ∃ a : Nat, leastF w i = (a : Int) ∧ a < i ∧ (∀ j, j < i → (w.getD a (0, 0)).1 ≤ (w.getD j (0, 0)).1) ∧ ∀ j, j < a → (w.getD a (0, 0)).1 < (w.getD j (0, 0)).1 := by
  intro i
  induction i with
  | zero => intro h; omega
  | succ i ih =>
    intro _
    rcases Nat.eq_zero_or_pos i with h0 | h0
    · subst h0
      refine ⟨0, by rfl, by omega, fun j hj => ?_, fun j hj => by omega⟩
      obtain rfl : j = 0 := by omega
      exact Int.le_refl _
    · obtain ⟨a, h1, h2, h3, h4⟩ := ih h0
      by_cases hc : (w.getD i (0, 0)).1 < (w.getD a (0, 0)).1
      · refine ⟨i, ?_, by omega, fun j hj => ?_, fun j hj => ?_⟩
        · rw [leastF, if_pos (.inr (by rw [h1, Int.toNat_natCast]; exact hc))]
        · rcases Nat.lt_or_ge j i with q | q
          · have := h3 j q; omega
          · obtain rfl : j = i := by omega
            exact Int.le_refl _
        · have := h3 j hj; omega
      · refine ⟨a, ?_, by omega, fun j hj => ?_, h4⟩
        · rw [leastF, if_neg (by rw [h1, Int.toNat_natCast]; omega)]; exact h1
        · rcases Nat.lt_or_ge j i with q | q
          · exact h3 j q
          · obtain rfl : j = i := by omega
            omega
theorem leastF_fl (w : List (Int × Int)) (h : 0 < w.length) : ∃ a : Nat, leastF w w.length = (a : Int) ∧ FL w a := by
  obtain ⟨a, h1, h2, h3, h4⟩ := leastF_spec w w.length h
  exact ⟨a, h1, h2, h3, h4⟩
theorem map_erase (ws : List En) (a : Nat) : (ws.eraseIdx a).map En.pr = (ws.map En.pr).eraseIdx a := by
  rw [List.eraseIdx_eq_take_drop_succ, List.eraseIdx_eq_take_drop_succ, List.map_append, List.map_take, List.map_drop]
end Go.Proofs.Ytoioflbgmofgfab
