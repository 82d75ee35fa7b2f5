/-
  The document's Free, First, Lay; the program's Runs, First.
-/
import Derived.Test.YtooahpfeamobcaaDoorPgD
namespace Go.Proofs.YtooahpfeamobcaaDoor
open Go.RowKit Go
set_option linter.unusedVariables false
set_option linter.unusedSimpArgs false
set_option maxRecDepth 100000
theorem free_all {l : List Pg} {a m : Nat} (hl : a + m ≤ l.length) (h : ∀ i, a ≤ i → i < a + m → isZ (pg l i) = true) : freeN l a m = true := freeN_iff.2 ⟨hl, h⟩
/-! a row of the call's own is written into -/
theorem OwnP.put {W : World} {B g n cap : Nat} {E : TypeId} {xs : List Pg} (h : OwnP W B E (.slice (some ⟨g, 0, none⟩) n cap) xs) {i : Nat} (hi : i < xs.length) (p : Pg) : OwnP (W.setCells g (i * 5) p.cs) B E (.slice (some ⟨g, 0, none⟩) n cap) (xs.set i p) := by
  obtain ⟨h1, ⟨hv, h0⟩ | ⟨g', cap', cur, hv, hg, hh, hn, hm, hs, ht⟩⟩ := h
  · cases hv
  · cases hv
    have hH : (W.setCells g (i * 5) p.cs).heap[g]? = some (.cells (((((cur.setIfInBounds (i * 5) (.int .i64 p.k)).setIfInBounds (i * 5 + 1) (.int .i64 p.c)).setIfInBounds (i * 5 + 2) (.int .i64 p.r)).setIfInBounds (i * 5 + 3) (.int .i64 p.s)).setIfInBounds (i * 5 + 4) (.int .u64 p.n)) E (0, 0)) := blk_set (blk_set (blk_set (blk_set (blk_set hh _ _) _ _) _ _) _ _) _ _
    unfold OwnP
    rw [List.length_set]
    refine ⟨by rw [flatP_len, List.length_set], .inr ⟨g, cap, _, rfl, hg, hH, hn, hm, by simp [hs], ?_⟩⟩
    refine flatP_ext (by simp; omega) (fun q j hq hj => ?_)
    rw [List.length_set] at hq
    have h2 := flatP_get xs q j hq hj
    rw [← ht, List.getElem?_take_of_lt (by omega)] at h2
    rw [List.getElem?_take_of_lt (by omega)]
    simp only [Array.toList_setIfInBounds, List.getElem?_set, Array.length_toList, List.length_set]
    by_cases hqi : q = i
    · subst hqi
      have e : pg (xs.set q p) q = p := by simp [List.getD_eq_getElem?_getD, hq]
      rw [e]
      rcases (by omega : j = 0 ∨ j = 1 ∨ j = 2 ∨ j = 3 ∨ j = 4) with rfl | rfl | rfl | rfl | rfl
      · rw [if_neg (by omega), if_neg (by omega), if_neg (by omega), if_neg (by omega), if_pos (by omega), if_pos (by omega)]; rfl
      · rw [if_neg (by omega), if_neg (by omega), if_neg (by omega), if_pos (by omega), if_pos (by omega)]; rfl
      · rw [if_neg (by omega), if_neg (by omega), if_pos (by omega), if_pos (by omega)]; rfl
      · rw [if_neg (by omega), if_pos (by omega), if_pos (by omega)]; rfl
      · rw [if_pos (by omega), if_pos (by omega)]; rfl
    · have e : pg (xs.set i p) q = pg xs q := by
        simp only [List.getD_eq_getElem?_getD, List.getElem?_set]
        rw [if_neg (fun h => hqi h.symm)]
      rw [e, if_neg (by omega), if_neg (by omega), if_neg (by omega), if_neg (by omega), if_neg (by omega), h2]
theorem OwnP.there {W : World} {B g n cap : Nat} {E : TypeId} {xs : List Pg} (h : OwnP W B E (.slice (some ⟨g, 0, none⟩) n cap) xs) {i : Nat} (hi : i < xs.length) : W.there g (i * 5) 5 := by
  obtain ⟨h1, ⟨hv, h0⟩ | ⟨g', cap', cur, hv, hg, hh, hn, hm, hs, ht⟩⟩ := h
  · cases hv
  · cases hv
    have hl : i * 5 + 5 ≤ cap * 5 := by omega
    intro j hj
    refine ⟨?_, blk_free hh _⟩
    rw [blk_cell hh, Array.getElem?_eq_getElem (by omega)]; rfl
theorem OwnP.blk {W : World} {B : Nat} {E : TypeId} {v : Value} {xs : List Pg} (h : OwnP W B E v xs) (h0 : 0 < xs.length) : ∃ g cap, v = .slice (some ⟨g, 0, none⟩) xs.length cap ∧ B ≤ g ∧ g < W.heap.size ∧ xs.length ≤ cap ∧ cap ≤ 9223372036854775807 := by
  obtain ⟨h1, ⟨hv, h0'⟩ | ⟨g', cap', cur, hv, hg, hh, hn, hm, hs, ht⟩⟩ := h
  · omega
  · exact ⟨g', cap', hv, hg, blk_lt hh, hn, by unfold maxLen at hm; omega⟩
/-- the first pages from a on became q -/
def layK (l : List Pg) (a k : Nat) (q : Pg) : List Pg := l.take a ++ List.replicate (k - a) q ++ l.drop k
theorem layK_len {l : List Pg} {a k : Nat} {q : Pg} (h1 : a ≤ k) (h2 : k ≤ l.length) : (layK l a k q).length = l.length := by unfold layK; simp; omega
theorem layK_zero (l : List Pg) (a : Nat) (q : Pg) : layK l a a q = l := by unfold layK; simp
theorem layK_step {l : List Pg} {a k : Nat} {q : Pg} (h1 : a ≤ k) (h2 : k < l.length) : (layK l a k q).set k q = layK l a (k + 1) q := by
  unfold layK
  have e : (l.take a ++ List.replicate (k - a) q).length = k := by simp; omega
  rw [List.set_append_right _ _ (by omega), e, Nat.sub_self, drop_at h2, List.set_cons_zero, show k + 1 - a = k - a + 1 by omega, List.replicate_succ', List.append_assoc, List.append_assoc, List.append_assoc]
  rfl
theorem layK_end {l : List Pg} {a m : Nat} {p q : Pg} (h : a + m ≤ l.length) (h1 : 1 ≤ m) : (layK l a (a + m) q).set a p = layF l a m p q := by
  unfold layK layF
  have e : (l.take a).length = a := by rw [List.length_take]; omega
  rw [List.append_assoc, List.set_append_right _ _ (by omega), e, Nat.sub_self, show a + m - a = m - 1 + 1 by omega, List.replicate_succ, List.append_assoc]
  rfl
theorem one5 (p : Pg) : (#[Value.int .i64 p.k, Value.int .i64 p.c, Value.int .i64 p.r, Value.int .i64 p.s, Value.int .u64 p.n] : Array Value).all (·.oneCell') = true := all_oneCell_toArray (cs_one p)
theorem wpList_storeP {E : TypeId} (hsz : (Tryd.prog.info? E).map (·.size) = some 5) {ops : Array Oper} {rest : List Oper} {op : Oper} {a : Act} {w : World} {Q : Exit → Act → World → Prop} (hgd : op.guard = none) (x y : Operand) (ho : op.op = .store E x y)
    (b o : Nat) (p : Pg) (hx : a.eval x = .pointer (some ⟨b, o, none⟩)) (hy : a.eval y = .agg #[.int .i64 p.k, .int .i64 p.c, .int .i64 p.r, .int .i64 p.s, .int .u64 p.n]) (ht : w.there b o 5)
    (h : wpList Tryd.prog ops Q rest (a.put op.dst undef) (w.setCells b o p.cs)) : wpList Tryd.prog ops Q (op :: rest) a w :=
  wpList_store_mid hgd E x y ho b o _ hx hy ht hsz (one5 p) h
theorem sz5_r : (Tryd.prog.info? RT).map (·.size) = some 5 := by kernel_rfl
theorem sz5_o : (Tryd.prog.info? OT).map (·.size) = some 5 := by kernel_rfl
end Go.Proofs.YtooahpfeamobcaaDoor
