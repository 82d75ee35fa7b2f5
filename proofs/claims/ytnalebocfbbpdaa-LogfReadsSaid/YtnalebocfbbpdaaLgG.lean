/-
  Package logf: a row of entries of the call's own; an entry is appended.
-/
import Derived.Test.YtnalebocfbbpdaaLgE
import Derived.Test.YtnalebocfbbpdaaLgF
namespace Go.Proofs.Ytnalebocfbbpdaa
open Go.RowKit Go
set_option linter.unusedVariables false
set_option linter.unusedSimpArgs false
theorem Own.base {w : World} {B B' : Nat} {v : Value} {l : List Nat} (h : Own w B v l) (hB : B' ≤ B) : Own w B' v l := by
  obtain ⟨h1, h2⟩ := h
  refine ⟨h1, ?_⟩
  rcases h2 with h2 | ⟨g, cap, cur, hv, hg, hr⟩
  · exact .inl h2
  · exact .inr ⟨g, cap, cur, hv, Nat.le_trans hB hg, hr⟩
/-- an entry's bytes: below the base, or a slice of its own -/
def EnI (w : World) (B0 B : Nat) (A : Option Addr) (c : Nat) (l : List Nat) : Prop := (BS w B0 A l.length c l ∨ (Own w B (.slice A l.length c) l ∧ ∀ i, l.getD i 0 < 256)) ∧ (A = none → c = 0)
theorem EnI.bs {w : World} {B0 B : Nat} {A : Option Addr} {c : Nat} {l : List Nat} (h : EnI w B0 B A c l) (h0 : B0 ≤ B) (hB : B ≤ w.heap.size) : BS w w.heap.size A l.length c l := by
  rcases h.1 with h | ⟨h, h2⟩
  · exact h.more (Nat.le_trans h0 hB)
  · obtain ⟨A2, c2, e, h3⟩ := h.bs h2
    injection e with e1 e2 e3
    subst e1 e3
    exact h3
theorem EnI.below {w w' : World} {B0 B : Nat} {A : Option Addr} {c : Nat} {l : List Nat} (h : EnI w B0 B A c l) (h0 : B0 ≤ B) (hB : B ≤ w.heap.size) (hb : Below w.heap.size w w') : EnI w' B0 B A c l := by
  obtain ⟨h, hz⟩ := h
  rcases h with h | ⟨h, h2⟩
  · exact ⟨.inl (h.keep fun p hp => hb.cell (Nat.lt_of_lt_of_le hp (Nat.le_trans h0 hB))), hz⟩
  · exact ⟨.inr ⟨h.below hb, h2⟩, hz⟩
theorem own_rows {w : World} {B s n : Nat} {v : Value} {e : TypeId} {vs : List Value} (h : w.ownsRow B e s v n vs) : ∀ g, v.ownBlock = some g → ∃ cs, w.heap[g]? = some (.cells cs e (0, 0)) := by
  intro g hg
  obtain ⟨_, k⟩ := h
  rcases k with ⟨rfl, _⟩ | ⟨g2, cap, cur, rfl, _, hh, _⟩
  · cases hg
  · have e2 : g2 = g := Option.some.inj (show (some g2 : Option Nat) = some g from hg)
    subst e2
    exact ⟨cur, hh⟩
theorem EnI.grown {w w' : World} {B0 B : Nat} {A : Option Addr} {c : Nat} {l : List Nat} (h : EnI w B0 B A c l) (h0 : B0 ≤ B) (hB : B ≤ w.heap.size) {row : Option Nat} (hg : w.grownBy w' row) {t : TypeId} (hr : ∀ g, row = some g → B ≤ g ∧ ∃ cs, w.heap[g]? = some (.cells cs t (0, 0))) (ht : t ≠ 5) : EnI w' B0 B A c l := by
  obtain ⟨h, hz⟩ := h
  refine ⟨?_, hz⟩
  rcases h with h | ⟨h, h2⟩
  · refine .inl (h.keep fun p hp => hg.cell_far p (Nat.lt_of_lt_of_le hp (Nat.le_trans h0 hB)) fun e => ?_)
    have := (hr _ e.symm).1
    omega
  · refine .inr ⟨h.keep fun g e => hg.block g (h.lt e).2 fun e2 => ?_, h2⟩
    obtain ⟨cs, h3⟩ := own_rows h g e
    obtain ⟨_, cs2, h4⟩ := hr g e2.symm
    rw [h3] at h4
    have h5 := Option.some.inj h4
    injection h5 with _ h6 _
    exact ht h6.symm
/-- a row of entries that the call itself made -/
def EnO (t : TypeId) (w : World) (B0 B : Nat) (v : Value) (es : List (Int × List Nat)) : Prop :=
  ∃ vs : List Value, w.ownsRow B t 2 v es.length vs ∧ ∀ i, i < es.length → ∃ A c, vs[i * 2]? = some (.int .i64 (kAt es i)) ∧ vs[i * 2 + 1]? = some (.slice A (dAt es i).length c) ∧ EnI w B0 B A c (dAt es i)
theorem EnO.nil (t : TypeId) (w : World) (B0 B : Nat) : EnO t w B0 B (.slice none 0 0) [] := ⟨[], World.ownsRow_nil _ _ _ _, fun i hi => by simp at hi⟩
theorem EnO.below {t : TypeId} {w w' : World} {B0 B : Nat} {v : Value} {es : List (Int × List Nat)} (h : EnO t w B0 B v es) (h0 : B0 ≤ B) (hB : B ≤ w.heap.size) (hb : Below w.heap.size w w') : EnO t w' B0 B v es := by
  obtain ⟨vs, h1, h2⟩ := h
  refine ⟨vs, h1.kept (row := none) ⟨hb.os, hb.tape, hb.output, hb.size, fun k hk _ => hb.block k hk⟩ (by cases hv : v.ownBlock <;> simp), fun i hi => ?_⟩
  obtain ⟨A, c, h3, h4, h5⟩ := h2 i hi
  exact ⟨A, c, h3, h4, h5.below h0 hB hb⟩
/-- a block between the two bases is written -/
theorem EnO.set {t : TypeId} {w : World} {B0 B : Nat} {v : Value} {es : List (Int × List Nat)} (h : EnO t w B0 B v es) (p : Addr) (h0 : B0 ≤ p.block) (hB : p.block < B) (x : Value) : EnO t (w.setCell p x) B0 B v es := by
  have hs : ∀ g, g ≠ p.block → (w.setCell p x).heap[g]? = w.heap[g]? := fun g hg => by simp [World.setCell, Array.getElem?_modify, Ne.symm hg]
  obtain ⟨vs, ⟨h1, h2⟩, h3⟩ := h
  refine ⟨vs, ⟨h1, ?_⟩, fun i hi => ?_⟩
  · rcases h2 with h2 | ⟨g, cap, cur, e1, e2, e3, e4⟩
    · exact .inl h2
    · exact .inr ⟨g, cap, cur, e1, e2, (hs g (by omega)).trans e3, e4⟩
  · obtain ⟨A, c, k1, k2, k3⟩ := h3 i hi
    obtain ⟨k3, hz⟩ := k3
    refine ⟨A, c, k1, k2, ?_, hz⟩
    rcases k3 with k3 | ⟨k3, k4⟩
    · exact .inl (k3.keep fun q hq => World.cell?_of_block (hs q.block (by omega)))
    · exact .inr ⟨k3.keep fun g e => hs g (by have := (k3.lt e).1; omega), k4⟩
/-- .. as a slice of entries -/
theorem EnO.esV {t : TypeId} {w : World} {B0 B : Nat} {v : Value} {es : List (Int × List Nat)} (h : EnO t w B0 B v es) (h0 : B0 ≤ B) (hB : B ≤ w.heap.size) : ∃ A c, v = .slice A es.length c ∧ EsV w A es.length es := by
  obtain ⟨vs, ⟨h1, h0⟩, h2⟩ := h
  rcases h0 with ⟨rfl, h3⟩ | ⟨g, cap, cur, rfl, hg, hh, hn, hm, hs, ht⟩
  · exact ⟨none, 0, by rw [h3], rfl, fun h => absurd h (by omega)⟩
  · refine ⟨_, cap, rfl, rfl, fun _ => ⟨g, 0, rfl, blk_lt hh, fun i hi => ?_⟩⟩
    obtain ⟨A, c, h3, h4, h5⟩ := h2 i hi
    have hcell : ∀ k x, vs[k]? = some x → w.cell? ⟨g, k, none⟩ = some x := by
      intro k x hx
      rw [blk_cell hh k]
      rw [← ht] at hx
      have hk : k < es.length * 2 := by
        have := (List.getElem?_eq_some_iff.mp hx).1
        rw [List.length_take] at this; omega
      rw [List.getElem?_take_of_lt hk] at hx
      simpa using hx
    exact ⟨A, c, by rw [Nat.zero_add]; exact hcell _ _ h3, by rw [Nat.zero_add]; exact hcell _ _ h4, h5.bs h0 hB⟩
/-- an entry is appended -/
theorem step_appE {K0 : Act → World → Prop} {o : Oper} {a : Act} {Q : Exit → Act → World → Prop} (te ts : TypeId) (hts : Try.prog.underlying ts = some (.slice te))
    (hte : (Try.prog.info? te).map (fun i => (i.zero, i.size, i.bytes)) = some (some (.agg #[.int .i64 0, .slice none 0 0]), 2, 32)) (hne : te ≠ 5) (W : World) (s x : Operand)
    (ho : o.op = .call { callee := .builtin .append, args := #[s, x], argTypes := #[ts, ts] })
    (B0 B : Nat) (h0 : B0 ≤ B) (v : Value) (es : List (Int × List Nat)) (K : Int) (A : Option Addr) (c n : Nat) (l : List Nat) (hln : l.length = n) (hs : a.eval s = v) (hown : EnO te W B0 B v es) (hl : es.length < 1000)
    (hx : a.eval x = .slice (some ⟨W.heap.size, 0, none⟩) 1 1) (hy : EnI W B0 B A c l) (hB : B ≤ W.heap.size)
    (h : ∀ v' w', EnO te w' B0 B v' (es ++ [(K, l)]) → Below B W w' → (∀ g, g < W.heap.size → v.ownBlock ≠ some g → w'.heap[g]? = W.heap[g]?) → K0 (a.put o.dst v') w') :
    Oper.wp Try.prog o a (W.alloc (.cells #[.int .i64 K, .slice A n c] te)) K0 Q := by
  subst hln
  obtain ⟨vs, hr, hit⟩ := hown
  obtain ⟨i0, hi, hz0, hz1, hz2⟩ := info_parts hte
  have hba : Below W.heap.size W (W.alloc (.cells #[.int .i64 K, .slice A l.length c] te)) := (Below.refl _ _).alloc (Nat.le_refl _) _
  have hra := World.ownsRow.alloc hr (.cells #[.int .i64 K, .slice A l.length c] te)
  have hBa : B ≤ (W.alloc (.cells #[.int .i64 K, .slice A l.length c] te)).heap.size := by simp; omega
  refine wp_append_own _ s x ts ho B te i0 (.agg #[.int .i64 0, .slice none 0 0]) 2 32 hts hi hz0 hz1 hz2 rfl (by decide) v es.length vs hs hra ⟨W.heap.size, 0, none⟩ 1 1
    [.int .i64 K, .slice A l.length c] hx rfl ?_ ?_ (by unfold maxLen; omega) (by omega) hBa ?_
  · intro j u hj
    match j, hj with
    | 0, hj => simp at hj; subst hj; simp [Addr.add]
    | 1, hj => simp at hj; subst hj; simp [Addr.add]
  · intro u hu
    simp at hu
    rcases hu with rfl | rfl <;> rfl
  · intro v' w1 hown' hg _
    have hrow : ∀ g, v.ownBlock = some g → B ≤ g ∧ ∃ cs, (W.alloc (.cells #[.int .i64 K, .slice A l.length c] te)).heap[g]? = some (.cells cs te (0, 0)) := fun g e => ⟨(World.ownsRow.lt hra g e).1, own_rows hra g e⟩
    have hkeep : ∀ A2 c2 l2, EnI W B0 B A2 c2 l2 → EnI w1 B0 B A2 c2 l2 := fun A2 c2 l2 h2 => (h2.below h0 hB hba).grown h0 hBa hg hrow hne
    refine h v' w1 ⟨vs ++ [.int .i64 K, .slice A l.length c], by rw [List.length_append]; exact hown', fun i hi2 => ?_⟩ (((Below.refl B W).alloc hB _).grown hg hBa (fun k hk => (hrow k hk).1)) (fun g hlt hne2 => (hg.block g (by simp; omega) fun e => hne2 e.symm).trans (hba.block g hlt))
    have hvl : vs.length = es.length * 2 := hr.1
    by_cases hlt : i < es.length
    · obtain ⟨A2, c2, k1, k2, k3⟩ := hit i hlt
      have e1 : kAt (es ++ [(K, l)]) i = kAt es i := by simp [kAt, List.getD, List.getElem?_append_left hlt]
      have e2 : dAt (es ++ [(K, l)]) i = dAt es i := by simp [dAt, List.getD, List.getElem?_append_left hlt]
      rw [e1, e2]
      exact ⟨A2, c2, by rw [List.getElem?_append_left (by omega)]; exact k1, by rw [List.getElem?_append_left (by omega)]; exact k2, hkeep _ _ _ k3⟩
    · have e0 : i = es.length := by rw [List.length_append] at hi2; simp at hi2; omega
      subst e0
      have e1 : kAt (es ++ [(K, l)]) es.length = K := by simp [kAt, List.getD]
      have e2 : dAt (es ++ [(K, l)]) es.length = l := by simp [dAt, List.getD]
      rw [e1, e2]
      refine ⟨A, c, by rw [← hvl]; simp, by rw [← hvl, List.getElem?_append_right (by omega)]; simp, hkeep _ _ _ hy⟩
theorem wp_appE {ops : Array Oper} {rest : List Oper} {o : Oper} {a : Act} {Q : Exit → Act → World → Prop} (te ts : TypeId) (hts : Try.prog.underlying ts = some (.slice te))
    (hte : (Try.prog.info? te).map (fun i => (i.zero, i.size, i.bytes)) = some (some (.agg #[.int .i64 0, .slice none 0 0]), 2, 32)) (hne : te ≠ 5) (W : World) (hgd : o.guard = none) (s x : Operand)
    (ho : o.op = .call { callee := .builtin .append, args := #[s, x], argTypes := #[ts, ts] })
    (B0 B : Nat) (h0 : B0 ≤ B) (v : Value) (es : List (Int × List Nat)) (K : Int) (A : Option Addr) (c n : Nat) (l : List Nat) (hln : l.length = n) (hs : a.eval s = v) (hown : EnO te W B0 B v es) (hl : es.length < 1000)
    (hx : a.eval x = .slice (some ⟨W.heap.size, 0, none⟩) 1 1) (hy : EnI W B0 B A c l) (hB : B ≤ W.heap.size)
    (h : ∀ v' w', EnO te w' B0 B v' (es ++ [(K, l)]) → Below B W w' → (∀ g, g < W.heap.size → v.ownBlock ≠ some g → w'.heap[g]? = W.heap[g]?) → wpList Try.prog ops Q rest (a.put o.dst v') w') :
    wpList Try.prog ops Q (o :: rest) a (W.alloc (.cells #[.int .i64 K, .slice A n c] te)) :=
  wpList_plain hgd fun _ hK => step_appE te ts hts hte hne W s x ho B0 B h0 v es K A c n l hln hs hown hl hx hy hB fun v' w' h1 h2 h3 => hK _ _ (h v' w' h1 h2 h3)
/-- bytes are appended; other blocks stay -/
theorem step_apps {K0 : Act → World → Prop} {o : Oper} {a : Act} {Q : Exit → Act → World → Prop} (W : World) (s x : Operand)
    (ho : o.op = .call { callee := .builtin .append, args := #[s, x], argTypes := #[42, 42] })
    (B : Nat) (v : Value) (l : List Nat) (hs : a.eval s = v) (hown : Own W B v l)
    (B' : Nat) (A : Option Addr) (m c : Nat) (l' : List Nat) (hx : a.eval x = .slice A m c) (hr : BS W B' A m c l') (hA : A = none → c = 0) (hn : l.length + m < 1000000000) (hB : B ≤ W.heap.size)
    (h : ∀ v' w', Own w' B v' (l ++ l') → Below B W w' → K0 (a.put o.dst v') w') : Oper.wp Try.prog o a W K0 Q := by
  obtain ⟨i0, hi, hz0, hz1, hz2⟩ := info_parts info_u8
  have hm := hr.len
  rcases A with _ | ad
  · have h0 := hA rfl
    have h1 := hr.cap
    have hm0 : m = 0 := by omega
    subst hm0 h0
    obtain rfl := List.length_eq_zero_iff.mp hm
    have hrun := run_append_owned_none (P := Try.prog) (w := W) B 42 o.type 5 i0 1 Try.underlying42 hi v l.length (bvals l) hown
    unfold Oper.wp
    simp [execOp, ho, resolve, invoke, builtin, hs, hx, hrun, Result.andThen]
    exact h v W (by rw [List.append_nil]; exact hown) (Below.refl _ _)
  · refine wp_append_own _ s x 42 ho B 5 i0 (.int .u8 0) 1 1 Try.underlying42 hi hz0 hz1 hz2 rfl (by decide) v l.length (bvals l) hs hown ad m c
      (bvals l') hx (by rw [bvals_len, hm, Nat.mul_one]) ?_ (bvals_one l') (by unfold maxLen; omega) (by omega) hB ?_
    · intro j u hj
      have hjl : j < l'.length := by
        rcases Nat.lt_or_ge j l'.length with h | h
        · exact h
        · rw [List.getElem?_eq_none (by rw [bvals_len]; exact h)] at hj; cases hj
      obtain ⟨b, o, e, _, hc⟩ := hr.at_ (by omega)
      obtain rfl : ad = ⟨b, o, none⟩ := Option.some.inj e
      have h2 := hc j (by omega)
      rw [Go.WideShapes.add_plain, h2, ← hj]
      simp [bvals, List.getElem?_eq_getElem hjl, List.getD]
    · intro v' w1 hown' hg _
      refine h v' w1 ?_ ((Below.refl B W).grown hg hB (fun k hk => (World.ownsRow.lt hown k hk).1))
      have e : bvals (l ++ l') = bvals l ++ bvals l' := by simp [bvals]
      unfold Own
      rw [e, List.length_append, hm]
      exact hown'
end Go.Proofs.Ytnalebocfbbpdaa
