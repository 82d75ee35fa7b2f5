/-
  A map from digests to values, which reads as a function; a row of texts.
-/
import Derived.Test.YtoclelpmampikaaGreatOwn
import Derived.Test.YtoclelpmampikaaGreatByt
import Derived.Test.YtoclelpmampikaaGreatTurn
import Derived.Test.YtoclelpmampikaaGreatShaMath
import Derived.Maps.OwnSet
import Derived.Maps.AppendAt
import Derived.DeepKeys4
namespace Go.Proofs.YtoclelpmampikaaGreat
open Go.RowKit Go
open Go.Maps (Keyed)
set_option linter.unusedVariables false
set_option linter.unusedSimpArgs false
/-! ### digests as keys -/
def IsDig (d : List Nat) : Prop := d.length = 32 ∧ ∀ i, d.getD i 0 < 256
def dV (d : List Nat) : Value := .agg (rowV (bF d) 32)
theorem dV_inj {d e : List Nat} (hd : IsDig d) (he : IsDig e) (h : dV d = dV e) : d = e := by
  have h1 : rowV (bF d) 32 = rowV (bF e) 32 := by injection h
  refine row_list hd.1 he.1 fun i hi => ?_
  have h2 := rowV_at (bF d) hi
  rw [h1, rowV_at (bF e) hi] at h2
  have h3 := Option.some.inj h2
  unfold bF u8 at h3
  injection h3 with _ h4
  omega
set_option maxRecDepth 100000 in
theorem dk_laid : laidOutB Tryz.prog = true := by kernel_rfl
set_option maxRecDepth 100000 in
theorem dk_row : (34 : TypeId) < Tryz.prog.types.size := of_decide_eq_true (by kernel_rfl)
set_option maxRecDepth 100000 in
theorem dk_wide : (match Tryz.prog.underlying 34 with | some (.array _ _) | some (.struct _) => true | _ => false) = true := by rw [Tryz.underlying34]
set_option maxRecDepth 100000 in
theorem dk_law : Keyed Tryz.prog 34 := Keyed.of_law (deep_law_laid dk_laid (m := 2) (by omega) dk_row (by kernel_rfl) dk_wide)
set_option maxRecDepth 100000 in
theorem dk_type : Tryz.prog.keyType 34 = true := by kernel_rfl
theorem dk_cells : Tryz.prog.cellsOf 34 = 32 := by kernel_rfl
theorem dk_cell : Tryz.prog.cellsOf 5 = 1 := by kernel_rfl
set_option maxRecDepth 100000 in
set_option maxRecDepth 100000 in
theorem dk_types : ∃ m, Tryz.prog.types.size = m + 1 := ⟨_, (Nat.succ_pred_eq_of_pos (Nat.lt_of_le_of_lt (Nat.zero_le _) dk_row)).symm⟩
theorem mapM_all {α β : Type} {f : α → Option β} {g : α → β} : ∀ (l : List α), (∀ x ∈ l, f x = some (g x)) → l.mapM f = some (l.map g)
  | [], _ => by simp
  | x :: l, h => by
    have h0 := h x (by simp)
    have ih := mapM_all l (fun y hy => h y (by simp [hy]))
    simp [List.mapM_cons, h0, ih]
set_option maxRecDepth 100000 in
theorem dk_some {d : List Nat} (hd : IsDig d) : ∃ l, keyOf Tryz.prog 34 (dV d) = some l := by
  obtain ⟨m, hm⟩ := dk_types
  have hf : (dV d).formed Tryz.prog 34 = true := by
    unfold dV Value.formed
    rw [Tryz.underlying34]
    simp only [dk_cells, rowV_size]
    rfl
  have hk : ∀ i ∈ List.range 32, Tryz.prog.keyLits (m + 1) 5 (((rowV (bF d) 32).toList.drop (i * Tryz.prog.cellsOf 5)).take (Tryz.prog.cellsOf 5)) = some [Lit.int .u8 ((d.getD i 0 : Nat) : Int)] := by
    intro i hi
    have hi2 := List.mem_range.mp hi
    have hlen : (rowV (bF d) 32).toList.length = 32 := by simp [rowV_size]
    have h1 : (rowV (bF d) 32).toList[i]? = some (bF d i) := by have := rowV_at (bF d) hi2; simpa using this
    have h2 : ((rowV (bF d) 32).toList.drop i).take 1 = [bF d i] := by
      rw [List.drop_eq_getElem_cons (by omega)]
      have h3 : (rowV (bF d) 32).toList[i]'(by omega) = bF d i := by
        rw [List.getElem?_eq_getElem (by omega)] at h1; exact Option.some.inj h1
      rw [h3]; rfl
    rw [dk_cell, Nat.mul_one, h2]
    have hb := hd.2 i
    have hw : (Lit.int .u8 ((d.getD i 0 : Nat) : Int)).wf = true := by
      generalize d.getD i 0 = x at *
      simp [Lit.wf, IntKind.min, IntKind.max, IntKind.signed, IntKind.bits]
      omega
    unfold Program.keyLits bF u8
    rw [Tryz.underlying5]
    simp only [hw, and_self, if_true]
  unfold keyOf
  rw [Tryz.underlying34]
  simp only [dk_type, hf, Bool.and_self, if_true]
  have hc : (dV d).cells = rowV (bF d) 32 := rfl
  rw [hc, hm]
  unfold Program.keyLits
  rw [Tryz.underlying34]
  simp only [dk_cells, Array.length_toList, rowV_size, if_true]
  rw [mapM_all _ hk]
  exact ⟨_, rfl⟩
open Classical in
noncomputable def kl (d : List Nat) : Lit := (keyOf Tryz.prog 34 (dV d)).getD (.bool false)
set_option maxRecDepth 100000 in
theorem kl_key {d : List Nat} (hd : IsDig d) : keyOf Tryz.prog 34 (dV d) = some (kl d) := by
  obtain ⟨l, hl⟩ := dk_some hd
  unfold kl
  rw [hl]; rfl
set_option maxRecDepth 100000 in
theorem kl_inj {d e : List Nat} (hd : IsDig d) (he : IsDig e) (h : kl d = kl e) : d = e := dV_inj hd he (dk_law.inj (kl_key hd) (h ▸ kl_key he))
/-! ### a map that reads as a function -/
/-- how an element reads: as itself -/
def RV (v : Value) : Option (DataW Value × List MemPlace) := some (.held v, [])
def nilS : Value := .slice none 0 0
/-- block bm is a map of at most n entries that has f d at digest d -/
def BM (w : World) (bm n : Nat) (f : List Nat → Value) : Prop := ∃ D : DataW Value, w.ownsMap Tryz.prog 34 RV bm n D ∧ ∀ d, IsDig d → D.atKey (kl d) (.held nilS) = .held (f d)
set_option maxRecDepth 100000 in
theorem bm_zero (w : World) : (zeroValue 75).run Tryz.prog w = .ok nilS w := by kernel_rfl
theorem BM.lt {w : World} {bm n : Nat} {f : List Nat → Value} (h : BM w bm n f) : bm < w.heap.size := by obtain ⟨D, h1, _⟩ := h; exact h1.lt
theorem BM.new (w : World) : BM (w.alloc (.map #[] 0)) w.heap.size 0 (fun _ => nilS) := ⟨_, World.ownsMap_made w _ _ _, fun d _ => rfl⟩
theorem BM.keep {w w' : World} {bm n : Nat} {f : List Nat → Value} (h : BM w bm n f) (hk : w'.heap[bm]? = w.heap[bm]?) : BM w' bm n f := by
  obtain ⟨D, ⟨es, clock, hb, r⟩, h2⟩ := h
  exact ⟨D, ⟨es, clock, hk.trans hb, r⟩, h2⟩
set_option maxRecDepth 100000 in
theorem BM.look {w : World} {bm n : Nat} {f : List Nat → Value} (h : BM w bm n f) {d : List Nat} (hd : IsDig d) :
    (Instr.lookup 74 (.map (some bm)) (dV d) false).run Tryz.prog w = .ok (f d) w := by
  obtain ⟨D, h1, h2⟩ := h
  obtain ⟨v, ps, hr, hv⟩ := h1.lookup dk_law Tryz.underlying74 (bm_zero w) (zd := .held nilS) (zp := []) rfl (kl_key hd)
  rw [h2 d hd] at hv
  unfold RV at hv
  have h3 := Option.some.inj hv
  injection h3 with h4 _
  injection h4 with h5
  rw [hr, h5]
set_option maxRecDepth 100000 in
theorem BM.put {w : World} {bm n : Nat} {f : List Nat → Value} (h : BM w bm n f) (hn : n < 1000000) {d : List Nat} (hd : IsDig d) (v : Value) :
    ∃ w', (Instr.mapUpdate 74 (.map (some bm)) (dV d) v).run Tryz.prog w = .ok () w' ∧ BM w' bm (n + 1) (fun e => if e = d then v else f e) ∧ w.grownBy w' (some bm) := by
  obtain ⟨D, h1, h2⟩ := h
  obtain ⟨w', hr, h3, h4⟩ := h1.update dk_law Tryz.underlying74 (by unfold maxLen; omega) (kl_key hd) (val := v) (d := .held v) (ps := []) rfl
  refine ⟨w', hr, ⟨_, h3, fun e he => ?_⟩, h4⟩
  by_cases hed : e = d
  · subst hed
    show _ = DataW.held (if e = e then v else f e)
    rw [if_pos rfl]
    exact Maps.atKey_put_same h1.isMap (dk_law.key (kl_key he)) _ _
  · show _ = DataW.held (if e = d then v else f e)
    rw [if_neg hed, Maps.atKey_put_other (fun q => hed (kl_inj he hd q))]
    exact h2 e he
/-! ### rows of texts -/
/-- v is a slice of its own, which reads as l; its block is one of S -/
def TI (w : World) (S : Nat → Prop) (l : List Nat) (v : Value) : Prop := Own w 0 v l ∧ (∀ i, l.getD i 0 < 256) ∧ ∀ k, v.ownBlock = some k → S k
theorem TI.keep {w w' : World} {S S' : Nat → Prop} {l : List Nat} {v : Value} (h : TI w S l v) (hk : ∀ j, j < w.heap.size → S j → w'.heap[j]? = w.heap[j]?) (hs : ∀ j, S j → S' j) : TI w' S' l v :=
  ⟨h.1.keep fun g hg => hk g (h.1.lt hg).2 (h.2.2 g hg), h.2.1, fun k hk2 => hs k (h.2.2 k hk2)⟩
/-- v is a row of its own of texts L; all its blocks are of S -/
def TR (w : World) (S : Nat → Prop) (v : Value) (L : List (List Nat)) : Prop :=
  ∃ vs : List Value, w.ownsRow 0 89 1 v L.length vs ∧ (∀ i, i < L.length → ∃ x, vs[i]? = some x ∧ TI w S (L.getD i []) x) ∧ ∀ k, v.ownBlock = some k → S k
theorem TR.nil (w : World) (S : Nat → Prop) : TR w S nilS [] := ⟨[], World.ownsRow_nil _ _ _ _, fun i hi => by simp at hi, fun k hk => by cases hk⟩
theorem row_keep {w w' : World} {B n sz : Nat} {e : TypeId} {v : Value} {xs : List Value} (h : w.ownsRow B e sz v n xs) (hk : ∀ g, v.ownBlock = some g → w'.heap[g]? = w.heap[g]?) : w'.ownsRow B e sz v n xs := by
  obtain ⟨h1, h2⟩ := h
  refine ⟨h1, ?_⟩
  rcases h2 with h2 | ⟨g, cap, cur, hv, hg, hh, hr⟩
  · exact .inl h2
  · exact .inr ⟨g, cap, cur, hv, hg, (hk g (by rw [hv]; rfl)).trans hh, hr⟩
theorem TR.keep {w w' : World} {S S' : Nat → Prop} {L : List (List Nat)} {v : Value} (h : TR w S v L) (hk : ∀ j, j < w.heap.size → S j → w'.heap[j]? = w.heap[j]?) (hs : ∀ j, S j → S' j) : TR w' S' v L := by
  obtain ⟨vs, h1, h2, h3⟩ := h
  refine ⟨vs, row_keep h1 fun g hg => hk g (World.ownsRow.lt h1 g hg).2 (h3 g hg), fun i hi => ?_, fun k hk2 => hs k (h3 k hk2)⟩
  obtain ⟨x, k1, k2⟩ := h2 i hi
  exact ⟨x, k1, k2.keep hk hs⟩
theorem TR.lt {w : World} {S : Nat → Prop} {L : List (List Nat)} {v : Value} (h : TR w S v L) {k : Nat} (hk : v.ownBlock = some k) : k < w.heap.size ∧ S k := by
  obtain ⟨vs, h1, h2, h3⟩ := h
  exact ⟨(World.ownsRow.lt h1 k hk).2, h3 k hk⟩
theorem TR.typ {w : World} {S : Nat → Prop} {L : List (List Nat)} {v : Value} (h : TR w S v L) {k : Nat} (hk : v.ownBlock = some k) : ∃ cs, w.heap[k]? = some (.cells cs 89 (0, 0)) := by
  obtain ⟨vs, ⟨_, h2⟩, _⟩ := h
  rcases h2 with ⟨rfl, _⟩ | ⟨g, cap, cur, rfl, _, hh, _⟩
  · cases hk
  · obtain rfl : g = k := Option.some.inj hk
    exact ⟨cur, hh⟩
theorem TI.typ {w : World} {S : Nat → Prop} {l : List Nat} {v : Value} (h : TI w S l v) {k : Nat} (hk : v.ownBlock = some k) : ∃ cs, w.heap[k]? = some (.cells cs 5 (0, 0)) := by
  obtain ⟨⟨_, h2⟩, _⟩ := h
  rcases h2 with ⟨rfl, _⟩ | ⟨g, cap, cur, rfl, _, hh, _⟩
  · cases hk
  · obtain rfl : g = k := Option.some.inj hk
    exact ⟨cur, hh⟩
/-- a text stays what it is when a block of another type turns -/
theorem TI.grown {w w' : World} {S S' : Nat → Prop} {l : List Nat} {v : Value} {row : Option Nat} (h : TI w S l v) (hg : w.grownBy w' row) (hr : ∀ g cs, row = some g → w.heap[g]? ≠ some (.cells cs 5 (0, 0))) (hs : ∀ j, S j → S' j) : TI w' S' l v :=
  ⟨h.1.keep fun g hg2 => hg.block g (h.1.lt hg2).2 (fun e => by obtain ⟨cs, hc⟩ := h.typ hg2; exact hr g cs e.symm hc), h.2.1, fun k hk2 => hs k (h.2.2 k hk2)⟩
theorem TR.grown {w w' : World} {S S' : Nat → Prop} {L : List (List Nat)} {v : Value} {row : Option Nat} (h : TR w S v L) (hg : w.grownBy w' row) (hr : ∀ g cs, row = some g → w.heap[g]? ≠ some (.cells cs 5 (0, 0))) (hv : v.ownBlock = none ∨ v.ownBlock ≠ row) (hs : ∀ j, S j → S' j) : TR w' S' v L := by
  obtain ⟨vs, h1, h2, h3⟩ := h
  refine ⟨vs, World.ownsRow.kept h1 hg hv, fun i hi => ?_, fun k hk2 => hs k (h3 k hk2)⟩
  obtain ⟨x, k1, k2⟩ := h2 i hi
  exact ⟨x, k1, k2.grown hg hr hs⟩
theorem TI.bs {w : World} {S : Nat → Prop} {l : List Nat} {v : Value} (h : TI w S l v) : ∃ A c, v = .slice A l.length c ∧ BS w w.heap.size A l.length c l := h.1.bs h.2.1
/-- .. of which each can be read -/
theorem TR.at_ {w : World} {S : Nat → Prop} {L : List (List Nat)} {v : Value} (h : TR w S v L) (hl : 0 < L.length) :
    ∃ g cap, v = .slice (some ⟨g, 0, none⟩) L.length cap ∧ L.length ≤ cap ∧ g < w.heap.size ∧ ∀ i, i < L.length → ∃ x, w.cell? ⟨g, i, none⟩ = some x ∧ TI w S (L.getD i []) x := by
  obtain ⟨vs, ⟨hvl, k⟩, h2, h3⟩ := h
  rcases k with ⟨rfl, e⟩ | ⟨g, cap, cur, rfl, hg, hh, hn, hm, hs, ht⟩
  · omega
  · refine ⟨g, cap, rfl, hn, blk_lt hh, fun i hi => ?_⟩
    obtain ⟨x, k1, k2⟩ := h2 i hi
    refine ⟨x, (blk_cell hh i).trans ?_, k2⟩
    have h3 : (cur.toList.take (L.length * 1))[i]? = some x := by rw [ht]; exact k1
    rw [List.getElem?_take_of_lt (by omega)] at h3
    simpa using h3
theorem TR.empty {w : World} {S : Nat → Prop} {v : Value} (h : TR w S v []) : ∃ A c, v = .slice A 0 c := by
  obtain ⟨vs, ⟨hvl, k⟩, h2, h3⟩ := h
  rcases k with ⟨rfl, e⟩ | ⟨g, cap, cur, rfl, _⟩
  · exact ⟨_, _, rfl⟩
  · exact ⟨_, _, rfl⟩
theorem info_tr : (Tryz.prog.info? 89).map (fun i => (i.zero, i.size, i.bytes)) = some (some (.slice none 0 0), 1, 24) := by kernel_rfl
/-- a text is appended to a row of texts: at the level of a run -/
theorem TR.app {w : World} {S : Nat → Prop} {L : List (List Nat)} {v y : Value} {l : List Nat} {ad : Addr} (h : TR w S v L) (hl : L.length < 1000000) (hy : TI w S l y) (hc : w.cell? ad = some y) (t : TypeId) :
    ∃ v' w', (Builtin.append_ #[75, 75] t #[v, .slice (some ad) 1 1]).run Tryz.prog w = .ok v' w' ∧ TR w' (fun k => S k ∨ k = w.heap.size) v' (L ++ [l]) ∧ w.grownBy w' v.ownBlock ∧ (v'.ownBlock = v.ownBlock ∨ v'.ownBlock = some w.heap.size) := by
  have hT := h
  obtain ⟨vs, hown, hit, h3⟩ := h
  obtain ⟨i0, hi, hz0, hz1, hz2⟩ := info_parts info_tr
  obtain ⟨A, c, rfl, _⟩ := hy.bs
  have hspot : ad.add 0 = ad := by cases ad; simp [Addr.add]
  obtain ⟨v', w', hr, k1, k2, k3, k4⟩ := run_append_own_at (P := Tryz.prog) w 0 75 t 89 i0 (.slice none 0 0) 1 24 Tryz.underlying75 hi hz0 hz1 hz2 rfl (by decide) v L.length vs hown ad 1 1 [.slice A l.length c] rfl
    (fun j u hj => by
      match j, hj with
      | 0, hj => simp at hj; subst hj; rw [hspot]; exact hc)
    (fun u hu => by simp at hu; subst hu; rfl) (by unfold maxLen; omega) (by omega) (Nat.zero_le _)
  have hne : ∀ g cs, v.ownBlock = some g → w.heap[g]? ≠ some (.cells cs 5 (0, 0)) := fun g cs hg e => by
    obtain ⟨cs2, h2⟩ := hT.typ hg
    rw [h2] at e
    have e2 := Option.some.inj e
    injection e2 with _ e3 _
    exact absurd e3 (by decide)
  have hvl : vs.length = L.length := by have := hown.1; simpa using this
  refine ⟨v', w', hr, ⟨vs ++ [.slice A l.length c], by rw [List.length_append]; exact k1, fun i hi2 => ?_, fun k hk => ?_⟩, k2, k4⟩
  · by_cases hlt : i < L.length
    · obtain ⟨x2, q1, q2⟩ := hit i hlt
      have e1 : (L ++ [l]).getD i [] = L.getD i [] := by simp [List.getD, List.getElem?_append_left hlt]
      refine ⟨x2, by rw [List.getElem?_append_left (by omega)]; exact q1, ?_⟩
      rw [e1]
      exact q2.grown k2 hne fun j hj => Or.inl hj
    · have e0 : i = L.length := by rw [List.length_append] at hi2; simp at hi2; omega
      subst e0
      have e1 : (L ++ [l]).getD L.length [] = l := by simp [List.getD]
      refine ⟨.slice A l.length c, by rw [← hvl]; simp, ?_⟩
      rw [e1]
      exact hy.grown k2 hne fun j hj => Or.inl hj
  · rcases k4 with k4 | k4
    · exact Or.inl (h3 k (k4 ▸ hk))
    · rw [k4] at hk; exact Or.inr (Option.some.inj hk).symm
end Go.Proofs.YtoclelpmampikaaGreat
