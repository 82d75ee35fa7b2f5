/-
  A row of blocks grows by others; one of its blocks is cut.
-/
import Derived.Test.YtnalebocfbbpdaaLpB
namespace Go.Proofs.Ytnalebocfbbpdaa
open Go.RowKit Go Go.Deep
set_option linter.unusedVariables false
set_option linter.unusedSimpArgs false
set_option maxRecDepth 100000
def RowN (X : World) (B : Nat) (v : Value) (n : Nat) : Prop := ∃ xs, X.ownsRow B 42 1 v n xs
theorem RowN.below {X X' : World} {B n : Nat} {v : Value} (h : RowN X B v n) (hb : Below X.heap.size X X') : RowN X' B v n := by
  obtain ⟨xs, h⟩ := h
  exact ⟨xs, h.kept (row := none) ⟨hb.os, hb.tape, hb.output, hb.size, fun k hk _ => hb.block k hk⟩ (by cases hv : v.ownBlock <;> simp)⟩
theorem RowN.form {X : World} {B n : Nat} {v : Value} (h : RowN X B v n) : ∃ A c, v = .slice A n c := by
  obtain ⟨vs, hvl, k⟩ := h
  rcases k with ⟨rfl, e⟩ | ⟨g, cap, cur, rfl, hg, hh, hn, hm, hs, ht⟩
  · exact ⟨_, _, by rw [e]⟩
  · exact ⟨_, _, rfl⟩
theorem RowN.lt {X : World} {B n g : Nat} {v : Value} (h : RowN X B v n) (e : v.ownBlock = some g) : g < X.heap.size := by
  obtain ⟨xs, h⟩ := h
  exact (World.ownsRow.lt h g e).2
theorem RowN.none_ {X : World} {B : Nat} (hB : B ≤ X.heap.size) : RowN (X.alloc (.cells #[] 42)) B (.slice (some ⟨X.heap.size, 0, none⟩) 0 0) 0 := ⟨[], World.ownsRow_made X #[] 0 hB (by unfold maxLen; omega) rfl⟩
/-- a block of another type is not the row's -/
theorem RowN.far {X : World} {B n b : Nat} {v : Value} (h : RowN X B v n) {cs : Array Value} {t : TypeId} {f : Nat × Nat} (hb : X.heap[b]? = some (.cells cs t f)) (ht : t ≠ 42) : v.ownBlock ≠ some b := fun e => by
  obtain ⟨vs, h⟩ := h
  obtain ⟨cs2, h3⟩ := own_rows h b e
  rw [hb] at h3
  have h4 := Option.some.inj h3
  injection h4 with _ h5 _
  exact ht h5
theorem step_appG {K0 : Act → World → Prop} {o : Oper} {a : Act} {Q : Exit → Act → World → Prop} (X : World) (s x : Operand)
    (ho : o.op = .call { callee := .builtin .append, args := #[s, x], argTypes := #[29, 29] })
    (B : Nat) (hB : B ≤ X.heap.size) (v : Value) (n : Nat) (hs : a.eval s = v) (hown : RowN X B v n) (g m c : Nat) (vs : List Value) (hx : a.eval x = .slice (some ⟨g, 0, none⟩) m c) (hvl : vs.length = m) (hone : ∀ u ∈ vs, u.oneCell' = true) (hvs : ∀ i, i < m → X.cell? ⟨g, i, none⟩ = vs[i]?) (hnm : n + m ≤ 1000)
    (h : ∀ v' w', RowN w' B v' (n + m) → Below B X w' → (∀ k, k < X.heap.size → v.ownBlock ≠ some k → w'.heap[k]? = X.heap[k]?) → K0 (a.put o.dst v') w') :
    Oper.wp Try.prog o a X K0 Q := by
  subst hvl
  obtain ⟨xs, hr⟩ := hown
  obtain ⟨i0, hi, hz0, hz1, hz2⟩ := info_parts info_bs
  refine wp_append_own _ s x 29 ho B 42 i0 (.slice none 0 0) 1 24 Try.underlying29 hi hz0 hz1 hz2 rfl (by decide) v n xs hs hr ⟨g, 0, none⟩ vs.length c vs hx (by rw [Nat.mul_one]) ?_ hone (by unfold maxLen; omega) (by omega) hB ?_
  · intro j u hj
    have hjl : j < vs.length := by
      rcases Nat.lt_or_ge j vs.length with h1 | h1
      · exact h1
      · rw [List.getElem?_eq_none (by omega)] at hj; cases hj
    rw [Go.WideShapes.add_plain, Nat.zero_add, hvs j hjl, hj]
  · intro v' w' hown' hg _
    exact h v' w' ⟨_, hown'⟩ (((Below.refl B X)).grown hg hB (fun k hk => (World.ownsRow.lt hr k hk).1)) (fun k hk hne => hg.block k hk (fun e => hne e.symm))
/-- one of its blocks is cut -/
theorem BrM.cut {w : World} {B0 B g n cap : Nat} {Ls : List (List Nat)} (h : BrM w B0 B (.slice (some ⟨g, 0, none⟩) n cap) Ls) (h0 : B0 ≤ B) (hB : B ≤ w.heap.size) {k : Nat} (hk : k < Ls.length) {A : Option Addr} {c m j : Nat} (hcell : w.cell? ⟨g, k, none⟩ = some (.slice A m c)) (hj : j ≤ m) (hm : (Ls.getD k []).length = m) :
    Blk (w.setCell ⟨g, k, none⟩ (.slice A j c)) g (Ls.set k ((Ls.getD k []).take j)) := by
  obtain ⟨vs, ⟨hvl, k2⟩, hit⟩ := h
  rcases k2 with ⟨e, _⟩ | ⟨g2, cap2, cur, e, hg, hh, hn, hmx, hs, ht⟩
  · cases e
  · injection e with e1 e2 e3
    have e4 := Option.some.inj e1
    injection e4 with e5 _ _
    subst e5 e2 e3
    have hh2 := blk_set hh k (.slice A j c)
    have hsz : B ≤ (w.setCell ⟨g, k, none⟩ (.slice A j c)).heap.size := by rw [size_set]; exact hB
    refine ⟨blk_lt hh2, fun i hi => ?_⟩
    rw [List.length_set] at hi
    obtain ⟨A2, c2, q1, q2⟩ := hit i hi
    have h3 : (cur.toList.take (Ls.length * 1))[i]? = some (.slice A2 (Ls.getD i []).length c2) := by rw [ht]; exact q1
    rw [List.getElem?_take_of_lt (by omega)] at h3
    have h4 : cur[i]? = some (.slice A2 (Ls.getD i []).length c2) := by simpa using h3
    have q3 := (q2.setRow (k := k) (x := .slice A j c) h0 hg hh).bs h0 hsz
    by_cases e : i = k
    · subst e
      have e1 : (Ls.set i ((Ls.getD i []).take j)).getD i [] = (Ls.getD i []).take j := by simp [List.getD, hi]
      rw [e1]
      have h5 := (blk_cell hh i).symm.trans hcell
      rw [h4] at h5
      injection h5 with h5
      injection h5 with e6 e7 e8
      subst e6 e8
      have hlen : ((Ls.getD i []).take j).length = j := by rw [List.length_take, hm]; omega
      rw [hlen]
      refine ⟨A2, c2, (blk_cell hh2 i).trans ?_, q3.take (by omega)⟩
      rw [Array.getElem?_setIfInBounds_self_of_lt]
      rcases Nat.lt_or_ge i cur.size with h | h
      · exact h
      · rw [Array.getElem?_eq_none (by omega)] at h4; cases h4
    · have e1 : (Ls.set k ((Ls.getD k []).take j)).getD i [] = Ls.getD i [] := by simp only [List.getD_eq_getElem?_getD]; rw [List.getElem?_set_ne (by omega)]
      rw [e1]
      refine ⟨A2, c2, (blk_cell hh2 i).trans ?_, q3⟩
      rw [Array.getElem?_setIfInBounds_ne (by omega)]
      exact h4
end Go.Proofs.Ytnalebocfbbpdaa
