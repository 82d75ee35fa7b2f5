/-
  Bytes that stand in a row of cells; bytes that are copied into such a row; arrays that are loaded, stored and held against one another.
-/
import Derived.Test.YthigknolpdohoaaOwn
import Derived.Test.YthigknolpdohoaaCut
import Derived.Laws.Tables
import Derived.Deep.RegionLaw
import Derived.Deep.RegionWith
import Derived.ChangeKeysEq
namespace Go.Proofs.Ythigknolpdohoaa
open Go.RowKit Go
set_option linter.unusedVariables false
/-- the bytes of l, one a cell -/
def bF (l : List Nat) (i : Nat) : Value := u8 (l.getD i 0)
/-- l with q from place a on -/
def splB (t : List Nat) (a : Nat) (q : List Nat) : List Nat := t.take a ++ (q ++ t.drop (a + q.length))
theorem splB_len {t q : List Nat} {a : Nat} (h : a + q.length ≤ t.length) : (splB t a q).length = t.length := by simp [splB]; omega
theorem splB_at {t q : List Nat} {a : Nat} (h : a + q.length ≤ t.length) (j : Nat) : (splB t a q).getD j 0 = if j < a then t.getD j 0 else if j < a + q.length then q.getD (j - a) 0 else t.getD j 0 := by
  have hl : (t.take a).length = a := by rw [List.length_take]; omega
  unfold splB
  simp only [List.getD_eq_getElem?_getD]
  by_cases h1 : j < a
  · rw [if_pos h1, List.getElem?_append_left (by omega), List.getElem?_take_of_lt h1]
  · rw [if_neg h1, List.getElem?_append_right (by omega), hl]
    by_cases h2 : j < a + q.length
    · rw [if_pos h2, List.getElem?_append_left (by omega)]
    · rw [if_neg h2, List.getElem?_append_right (by omega), List.getElem?_drop, show a + q.length + (j - a - q.length) = j by omega]
theorem row_splice {t q : List Nat} {a N : Nat} (ht : t.length = N) (h : a + q.length ≤ N) : (splice (rowV (bF t) N).toList a (bvals q)).toArray = rowV (bF (splB t a q)) N := by
  have hz2 : (rowV (bF t) N).toList.length = N := by simp [rowV_size]
  have hq : (bvals q).length = q.length := bvals_len q
  apply rowV_ext
  · rw [List.size_toArray, length_splice _ _ _ (by omega)]; exact hz2
  · intro i hi
    have hr : (rowV (bF t) N).toList[i]? = some (bF t i) := by
      have := rowV_at (bF t) hi
      simpa using this
    have hl : ((rowV (bF t) N).toList.take a).length = a := by rw [List.length_take]; omega
    rw [List.getElem?_toArray]
    have hs := splB_at (t := t) (q := q) (a := a) (by omega) i
    show _ = some (u8 ((splB t a q).getD i 0))
    unfold splice
    rw [hs]
    by_cases h1 : i < a
    · rw [if_pos h1, List.getElem?_append_left (by omega), List.getElem?_take_of_lt h1, hr]; rfl
    · rw [if_neg h1, List.getElem?_append_right (by omega), hl]
      by_cases h2 : i < a + q.length
      · rw [if_pos h2, List.getElem?_append_left (by omega)]
        have hlt : i - a < q.length := by omega
        simp only [bvals, List.getElem?_map, List.getElem?_eq_getElem hlt, List.getD, u8, Option.map_some, Option.getD_some]
      · rw [if_neg h2, List.getElem?_append_right (by omega), List.getElem?_drop, hq, show a + q.length + (i - a - q.length) = i by omega, hr]; rfl
theorem size_u8 : (Try.prog.info? 5).map (·.size) = some 1 := by kernel_rfl
theorem bs_reads {w : World} {B n c k : Nat} {A : Option Addr} {l : List Nat} (h : BS w B A n c l) (hk : k ≤ n) (h0 : 0 < k) : ∃ ad, A = some ad ∧ ∀ j v, (bvals (l.take k))[j]? = some v → w.cell? (ad.add j) = some v := by
  obtain ⟨b, o, rfl, hb, hc⟩ := h.at_ (by omega)
  have hl := h.len
  refine ⟨_, rfl, fun j v hj => ?_⟩
  have hjl : j < (bvals (l.take k)).length := by
    rcases Nat.lt_or_ge j (bvals (l.take k)).length with h | h
    · exact h
    · rw [List.getElem?_eq_none h] at hj; cases hj
  rw [bvals_len, List.length_take] at hjl
  rw [Go.WideShapes.add_plain, hc j (by omega), ← hj]
  simp [bvals, List.getElem?_map, List.getElem?_take_of_lt (show j < k by omega), List.getElem?_eq_getElem (show j < l.length by omega), List.getD]
/-- all of l is copied into the row of t, from place a on: a step of a region that draws its order -/
theorem step_row_copy {ops : Array Oper} {o : Oper} {x : Act} {K : Act → World → Prop} {Q : Exit → Act → World → Prop} {E : Prop} (W W' : World) (hgd : o.guard = none) (d s : Operand)
    (ho : o.op = .call { callee := .builtin .copy, args := #[d, s], argTypes := #[28, 28] })
    (g a N dn dc m c : Nat) (ty : TypeId) (t q : List Nat) (ht : t.length = N) (hrow : Row W g ty (bF t) N) (hbl : Below W.heap.size W W') (A : Option Addr) (hbs : BS W' W'.heap.size A m c q)
    (hmd : m ≤ dn) (hfit : a + m ≤ N) (hd : x.eval d = .slice (some ⟨g, a, none⟩) dn dc) (hs : x.eval s = .slice A m c)
    (h : ∀ w4, Row w4 g ty (bF (splB t a q)) N → Below g W w4 → K (x.put o.dst (.int .i64 (m : Int))) w4) :
    if Region.wanted o (yielded ops x.tmps) = true then Oper.wp Try.prog o x W' K Q else E := by
  have hlt := hrow.lt
  have hm := hbs.len
  have hl : (bvals q).length = m := by rw [bvals_len, hm]
  have hz2 : (rowV (bF t) N).toList.length = N := by simp [rowV_size]
  refine step_copy_splice hgd d s 28 28 ho 5 Try.underlying28 size_u8 _ A dn dc m c hd hs g a (rowV (bF t) N).toList ty
    ((hbl.block g hlt).trans hrow) (bvals q) (by rw [hl]; show m = min m dn; omega) (fun h0 => ⟨rfl, by
      have hread := bs_reads hbs (Nat.le_refl m) (by omega)
      rw [List.take_of_length_le (by omega)] at hread
      exact hread⟩) (by rw [hl, hz2]; omega) (bvals_one _) g W (hbl.mono (by omega)) (Nat.le_refl _) fun w4 hw4 hb4 => ?_
  rw [hl]
  refine h w4 ?_ hb4
  unfold Row
  rw [← row_splice ht (by omega)]
  exact hw4.out
theorem one_row (l : List Nat) (N : Nat) : (rowV (bF l) N).all (·.oneCell') = true := by
  rw [Array.all_eq_true]
  intro i hi
  rw [rowV_size] at hi
  have h := rowV_at (bF l) hi
  have h2 : (rowV (bF l) N)[i]'(by rw [rowV_size]; exact hi) = bF l i := by
    rw [Array.getElem?_eq_getElem (by rw [rowV_size]; exact hi)] at h
    exact Option.some.inj h
  rw [h2]
  rfl
theorem zero_row (N : Nat) : zeros N = rowV (bF []) N := rowV_ext (by simp [zeros]) fun i hi => by rw [zeros_at hi]; rfl
theorem bF_congr {l m : List Nat} {N : Nat} (h : ∀ i, i < N → l.getD i 0 = m.getD i 0) : rowV (bF l) N = rowV (bF m) N := rowV_congr fun i hi => by unfold bF; rw [h i hi]
theorem bF_inj {l m : List Nat} {N : Nat} (h : rowV (bF l) N = rowV (bF m) N) : ∀ i, i < N → l.getD i 0 = m.getD i 0 := by
  intro i hi
  have h1 := rowV_at (bF l) hi
  rw [h, rowV_at (bF m) hi] at h1
  have h2 := Option.some.inj h1
  unfold bF u8 at h2
  injection h2 with _ h3
  omega
theorem row_list {l m : List Nat} {N : Nat} (hl : l.length = N) (hm : m.length = N) (h : ∀ i, i < N → l.getD i 0 = m.getD i 0) : l = m := by
  apply List.ext_getElem (by omega)
  intro i h1 h2
  have := h i (by omega)
  simpa [List.getD, List.getElem?_eq_getElem h1, List.getElem?_eq_getElem h2] using this
end Go.Proofs.Ythigknolpdohoaa
