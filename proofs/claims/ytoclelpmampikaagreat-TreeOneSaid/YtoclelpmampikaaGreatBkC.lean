/-
  What a book has: its texts, each once, by their sums; two unlike texts of one sum.
-/
import Derived.Test.YtoclelpmampikaaGreatBkB
import Derived.Test.YtoclelpmampikaaGreatShaP
namespace Go.Proofs.YtoclelpmampikaaGreat
open Go.RowKit Go
set_option linter.unusedVariables false
set_option linter.unusedSimpArgs false
theorem getD_flat {α : Type} (f : α → List Nat) (hf : ∀ a i, (f a).getD i 0 < 256) : ∀ (l : List α) (i : Nat), (l.flatMap f).getD i 0 < 256
  | [], i => by simp
  | a :: l, i => by
    rw [List.flatMap_cons, getD_app]
    split
    · exact hf _ _
    · exact getD_flat f hf l _
theorem rev_byte {l : List Nat} (h : ∀ i, l.getD i 0 < 256) (i : Nat) : l.reverse.getD i 0 < 256 := by
  by_cases hi : i < l.length
  · have e : l.reverse.getD i 0 = l.getD (l.length - 1 - i) 0 := by
      simp only [List.getD]
      rw [List.getElem?_reverse (by omega)]
    rw [e]; exact h _
  · rw [List.getD_eq_getElem?_getD, List.getElem?_eq_none (by rw [List.length_reverse]; omega)]
    simp
theorem bk_dig (m : List Nat) : IsDig (Sha.sum m) := ⟨dig_len _, fun i => by
  unfold Sha.sum Sha.digest
  exact getD_flat _ (fun a i => rev_byte (putL_byte 4 a) i) _ i⟩
theorem bk_digA (m : List Nat) : Value.agg (digA m) = dV (Sha.sum m) := rfl
/-! ### the texts -/
/-- those of one sum -/
def atD (T : List (List Nat)) (d : List Nat) : List (List Nat) := T.filter fun x => decide (Sha.sum x = d)
theorem mem_atD {T : List (List Nat)} {t : List Nat} : t ∈ atD T (Sha.sum t) ↔ t ∈ T := by unfold atD; simp
theorem atD_app (T : List (List Nat)) (t d : List Nat) : atD (T ++ [t]) d = if Sha.sum t = d then atD T d ++ [t] else atD T d := by
  unfold atD
  rw [List.filter_append]
  by_cases h : Sha.sum t = d
  · rw [if_pos h]; simp [h]
  · rw [if_neg h]; simp [h]
theorem atD_len (T : List (List Nat)) (d : List Nat) : (atD T d).length ≤ T.length := List.length_filter_le _ _
/-- what a book has behind a text -/
def bkT (T : List (List Nat)) (t : List Nat) : List (List Nat) := if t ∈ T then T else if T.length < 16384 then T ++ [t] else T
def bkS (T sh : List (List Nat)) (t : List Nat) : List (List Nat) := if t ∈ T then sh else if atD T (Sha.sum t) ≠ [] ∧ sh = [] then [(atD T (Sha.sum t)).getD 0 [], t] else sh
/-! ### in memory -/
structure BkSt (w : World) (b g : Nat) (S : Nat → Prop) (T sh : List (List Nat)) (bm : Nat) (f : List Nat → Value) (vs : Value) : Prop where
  blk : w.heap[b]? = some (.cells #[.func (Fn.func 38) #[.pointer (some ⟨g, 0, none⟩)] #[], .map (some bm), .int .i64 (T.length : Int), vs] 77 (0, 0))
  tab : IsTab w g
  map : BM w bm T.length f
  len : T.length ≤ 16384
  rows : ∀ d, IsDig d → TR w S (f d) (atD T d)
  apart : ∀ d e, IsDig d → IsDig e → d ≠ e → (f d).ownBlock = none ∨ (f d).ownBlock ≠ (f e).ownBlock
  shown : TR w S vs sh
  shown0 : sh = [] → vs = nilS
  away : ∀ d, IsDig d → (f d).ownBlock = none ∨ (f d).ownBlock ≠ vs.ownBlock
  sb : S b
  sg : S g
  sbm : S bm
  sub : ∀ k, S k → k < w.heap.size
/-- block b is a book over the table g; its blocks are those of S; T is kept, sh is shown -/
def IsBook (w : World) (b g : Nat) (S : Nat → Prop) (T sh : List (List Nat)) : Prop := ∃ bm f vs, BkSt w b g S T sh bm f vs
section
variable {w w' : World} {b g bm : Nat} {S S' : Nat → Prop} {T sh : List (List Nat)} {f : List Nat → Value} {vs : Value}
theorem BkSt.keep (h : BkSt w b g S T sh bm f vs) (hk : ∀ j, S j → w'.heap[j]? = w.heap[j]?) (hs : ∀ j, S j → S' j) (hu : ∀ k, S' k → k < w'.heap.size) : BkSt w' b g S' T sh bm f vs :=
  ⟨(hk b h.sb).trans h.blk, (hk g h.sg).trans h.tab, h.map.keep (hk bm h.sbm), h.len, fun d hd => (h.rows d hd).keep (fun j _ hj => hk j hj) hs, h.apart, h.shown.keep (fun j _ hj => hk j hj) hs, h.shown0, h.away, hs b h.sb, hs g h.sg, hs bm h.sbm, hu⟩
theorem IsBook.keep (h : IsBook w b g S T sh) (hk : ∀ j, S j → w'.heap[j]? = w.heap[j]?) (hs : ∀ j, S j → S' j) (hu : ∀ k, S' k → k < w'.heap.size) : IsBook w' b g S' T sh := by
  obtain ⟨bm, f, vs, h⟩ := h
  exact ⟨bm, f, vs, h.keep hk hs hu⟩
theorem IsBook.sub (h : IsBook w b g S T sh) {k : Nat} (hk : S k) : k < w.heap.size := by obtain ⟨bm, f, vs, h⟩ := h; exact h.sub k hk
theorem IsBook.sb (h : IsBook w b g S T sh) : S b := by obtain ⟨bm, f, vs, h⟩ := h; exact h.sb
theorem IsBook.lt (h : IsBook w b g S T sh) : b < w.heap.size := h.sub h.sb
theorem IsBook.len (h : IsBook w b g S T sh) : T.length ≤ 16384 := by obtain ⟨bm, f, vs, h⟩ := h; exact h.len
/-- what was there stays; of what is new all is the book's -/
theorem IsBook.after (h : IsBook w b g S T sh) (hb : Below w.heap.size w w') : IsBook w' b g (fun k => S k ∨ (w.heap.size ≤ k ∧ k < w'.heap.size)) T sh :=
  h.keep (fun j hj => hb.block j (h.sub hj)) (fun j hj => .inl hj) (fun k hk => hk.elim (fun q => Nat.lt_of_lt_of_le (h.sub q) hb.size) fun q => q.2)
theorem IsBook.below (h : IsBook w b g S T sh) (hb : Below w.heap.size w w') : IsBook w' b g S T sh :=
  h.keep (fun j hj => hb.block j (h.sub hj)) (fun j hj => hj) (fun k hk => Nat.lt_of_lt_of_le (h.sub hk) hb.size)
/-- .. of what was there only blocks elsewhere have turned -/
theorem IsBook.turns {F : Nat → Prop} (h : IsBook w b g S T sh) (ht : Turns F w w') (hF : ∀ j, F j → ¬ S j) : IsBook w' b g S T sh :=
  h.keep (fun j hj => ht.block j (h.sub hj) fun q => hF j q hj) (fun j hj => hj) (fun k hk => Nat.lt_of_lt_of_le (h.sub hk) ht.size)
theorem ne_blk {k1 k2 : Nat} {o1 o2 : Obj} (h1 : w.heap[k1]? = some o1) (h2 : w.heap[k2]? = some o2) (hne : o1 ≠ o2) : k1 ≠ k2 := by
  rintro rfl
  rw [h1] at h2
  exact hne (Option.some.inj h2)
theorem BkSt.ne_g (h : BkSt w b g S T sh bm f vs) : b ≠ g := by
  rintro rfl
  have h1 := h.blk
  rw [show w.heap[b]? = _ from h.tab] at h1
  have h2 := Option.some.inj h1
  injection h2 with _ h3 _
  exact absurd h3 (by decide)
theorem BM.obj {n : Nat} (h : BM w bm n f) : ∃ es c, w.heap[bm]? = some (.map es c) := by
  obtain ⟨D, ⟨es, c, hb, _⟩, _⟩ := h
  exact ⟨es, c, hb⟩
theorem BkSt.ne_m (h : BkSt w b g S T sh bm f vs) : b ≠ bm := by
  obtain ⟨es, c, hb⟩ := h.map.obj
  exact ne_blk h.blk hb (by simp)
theorem BkSt.ne_gm (h : BkSt w b g S T sh bm f vs) : g ≠ bm := by
  obtain ⟨es, c, hb⟩ := h.map.obj
  exact ne_blk (show w.heap[g]? = _ from h.tab) hb (by simp)
/-- two unlike texts are shown -/
theorem BkSt.show_ (h : BkSt w b g S T [] bm f vs) {x t : List Nat} {X V : Value} (hx : TI w S x X) (ht : TI w S t V) :
    BkSt ((w.alloc (.cells #[X, V] 89)).setCell ⟨b, 3, none⟩ (.slice (some ⟨w.heap.size, 0, none⟩) 2 2)) b g (fun k => S k ∨ k = w.heap.size) T [x, t] bm f (.slice (some ⟨w.heap.size, 0, none⟩) 2 2) := by
  obtain ⟨w1, hw1⟩ : ∃ w1, w1 = w.alloc (.cells #[X, V] 89) := ⟨_, rfl⟩
  obtain ⟨w2, hw2⟩ : ∃ w2, w2 = w1.setCell ⟨b, 3, none⟩ (.slice (some ⟨w.heap.size, 0, none⟩) 2 2) := ⟨_, rfl⟩
  rw [← hw1, ← hw2]
  have hsz : w2.heap.size = w.heap.size + 1 := by rw [hw2, hw1]; simp [World.setCell]
  have hg : w.grownBy w2 (some b) := by
    rw [hw2]
    refine only_set (g := b) (p := ⟨b, 3, none⟩) ?_ (.inl rfl) _
    rw [hw1]
    exact World.grownBy_alloc w _ _
  have hold : ∀ j, S j → j ≠ b → w2.heap[j]? = w.heap[j]? := fun j hj hne => hg.block j (h.sub j hj) (fun e => hne (Option.some.inj e))
  have hbne : ∀ cs, w.heap[b]? ≠ some (.cells cs 5 (0, 0)) := fun cs e => by
    rw [h.blk] at e
    have e2 := Option.some.inj e
    injection e2 with _ e3 _
    exact absurd e3 (by decide)
  have hbn2 : ∀ cs, w.heap[b]? ≠ some (.cells cs 89 (0, 0)) := fun cs e => by
    rw [h.blk] at e
    have e2 := Option.some.inj e
    injection e2 with _ e3 _
    exact absurd e3 (by decide)
  have hgr : ∀ gg cs, (some b : Option Nat) = some gg → w.heap[gg]? ≠ some (.cells cs 5 (0, 0)) := fun gg cs e => by
    obtain rfl := Option.some.inj e; exact hbne cs
  have hrow : ∀ v L, TR w S v L → v.ownBlock = none ∨ v.ownBlock ≠ some b := fun v L hv => by
    by_cases hn : v.ownBlock = none
    · exact .inl hn
    · refine .inr fun e => ?_
      obtain ⟨cs, hc⟩ := hv.typ e
      exact hbn2 cs hc
  have hblk1 : w1.heap[b]? = some (.cells #[.func (Fn.func 38) #[.pointer (some ⟨g, 0, none⟩)] #[], .map (some bm), .int .i64 (T.length : Int), vs] 77 (0, 0)) := by rw [hw1]; exact blk_alloc h.blk _
  have hnew : w2.heap[w.heap.size]? = some (.cells #[X, V] 89 (0, 0)) := by
    rw [hw2]
    refine blk_far ?_ (p := ⟨b, 3, none⟩) (by have := h.sub b h.sb; show w.heap.size ≠ b; omega) _
    rw [hw1]; exact heap_alloc_new w _
  have hxo := hx.grown (S' := fun k => S k ∨ k = w.heap.size) hg hgr (fun j hj => Or.inl hj)
  have hto := ht.grown (S' := fun k => S k ∨ k = w.heap.size) hg hgr (fun j hj => Or.inl hj)
  refine ⟨?_, (hold g h.sg h.ne_g.symm).trans h.tab, h.map.keep (hold bm h.sbm h.ne_m.symm), h.len, fun d hd => (h.rows d hd).grown hg hgr (hrow _ _ (h.rows d hd)) (fun j hj => Or.inl hj), h.apart, ?_, (fun e => by cases e), ?_, Or.inl h.sb, Or.inl h.sg, Or.inl h.sbm, ?_⟩
  · rw [hw2]
    have := blk_set hblk1 3 (.slice (some ⟨w.heap.size, 0, none⟩) 2 2)
    simpa using this
  · refine ⟨[X, V], ⟨rfl, .inr ⟨w.heap.size, 2, #[X, V], rfl, Nat.zero_le _, hnew, by simp, by unfold maxLen; omega, rfl, rfl⟩⟩, fun i hi => ?_, fun k hk => Or.inr (Option.some.inj hk).symm⟩
    match i, hi with
    | 0, _ => exact ⟨X, rfl, hxo⟩
    | 1, _ => exact ⟨V, rfl, hto⟩
  · intro d hd
    by_cases hn : (f d).ownBlock = none
    · exact .inl hn
    · obtain ⟨k, hk⟩ := Option.ne_none_iff_exists'.mp hn
      refine .inr fun e => ?_
      have h1 := ((h.rows d hd).lt hk).1
      rw [hk] at e
      have h2 : k = w.heap.size := Option.some.inj e
      omega
  · intro k hk
    rcases hk with hk | hk
    · have := h.sub k hk; omega
    · omega
/-- a text is kept -/
theorem BkSt.put {w0 w1 w2 w3 : World} (h : BkSt w b g S T sh bm f vs) {t : List Nat} {V v' : Value} {n0 : Nat} (ht : TI w S t V) (hT : T.length < 16384)
    (h0 : Below w.heap.size w w0) (hz0 : w0.heap.size = n0)
    (h1 : TR w1 (fun k => S k ∨ k = n0) v' (atD T (Sha.sum t) ++ [t])) (hg1 : w0.grownBy w1 (f (Sha.sum t)).ownBlock) (hv : v'.ownBlock = (f (Sha.sum t)).ownBlock ∨ v'.ownBlock = some n0)
    (h2 : BM w2 bm (T.length + 1) (fun e => if e = Sha.sum t then v' else f e)) (hg2 : w1.grownBy w2 (some bm))
    (h3 : w3 = w2.setCell ⟨b, 2, none⟩ (.int .i64 ((T.length + 1 : Nat) : Int))) :
    BkSt w3 b g (fun k => S k ∨ (w.heap.size ≤ k ∧ k < w3.heap.size)) (T ++ [t]) sh bm (fun e => if e = Sha.sum t then v' else f e) vs := by
  have hs := bk_dig t
  have hR := h.rows _ hs
  have hz1 : w0.heap.size ≤ w1.heap.size := hg1.size
  have hz2 : w1.heap.size ≤ w2.heap.size := hg2.size
  have hz3 : w3.heap.size = w2.heap.size := by rw [h3]; simp [World.setCell]
  have hz : w.heap.size ≤ w0.heap.size := h0.size
  -- the blocks that stay
  have hst : ∀ j, j < w.heap.size → (f (Sha.sum t)).ownBlock ≠ some j → j ≠ bm → j ≠ b → w3.heap[j]? = w.heap[j]? := fun j hj hn1 hn2 hn3 => by
    rw [h3]
    refine (Below.heap_setCell w2 ⟨b, 2, none⟩ _ j hn3).trans ((hg2.block j (by omega) (fun e => hn2 (Option.some.inj e))).trans ((hg1.block j (by omega) (fun e => hn1 e.symm)).trans (h0.block j hj)))
  have hfb : (f (Sha.sum t)).ownBlock ≠ some b := fun e => by
    obtain ⟨cs, hc⟩ := hR.typ e
    rw [h.blk] at hc
    have e2 := Option.some.inj hc
    injection e2 with _ e3 _
    exact absurd e3 (by decide)
  have hfm : (f (Sha.sum t)).ownBlock ≠ some bm := fun e => by
    obtain ⟨cs, hc⟩ := hR.typ e
    obtain ⟨es, c, hb⟩ := h.map.obj
    rw [hb] at hc; cases hc
  have hfg : (f (Sha.sum t)).ownBlock ≠ some g := fun e => by
    obtain ⟨cs, hc⟩ := hR.typ e
    rw [show w.heap[g]? = _ from h.tab] at hc
    have e2 := Option.some.inj hc
    injection e2 with _ e3 _
    exact absurd e3 (by decide)
  have hblt := h.sub b h.sb
  have hbl2 : w2.heap[b]? = w.heap[b]? := (hg2.block b (by omega) (fun e => h.ne_m (Option.some.inj e))).trans ((hg1.block b (by omega) (fun e => hfb e.symm)).trans (h0.block b hblt))
  have hS : ∀ j, S j → (S j ∨ (w.heap.size ≤ j ∧ j < w3.heap.size)) := fun j hj => .inl hj
  -- a text's block is none of those that turn
  have hti : ∀ l y, TI w S l y → TI w3 (fun k => S k ∨ (w.heap.size ≤ k ∧ k < w3.heap.size)) l y := fun l y hy => by
    refine ⟨hy.1.keep fun gg hgg => ?_, hy.2.1, fun k hk => .inl (hy.2.2 k hk)⟩
    obtain ⟨cs, hc⟩ := hy.typ hgg
    refine hst gg (blk_lt hc) (fun e => ?_) (fun e => ?_) (fun e => ?_)
    · obtain ⟨cs2, hc2⟩ := hR.typ e
      rw [hc] at hc2
      have e2 := Option.some.inj hc2
      injection e2 with _ e3 _
      exact absurd e3 (by decide)
    · subst e
      obtain ⟨es, c, hb⟩ := h.map.obj
      rw [hb] at hc; cases hc
    · subst e
      rw [h.blk] at hc
      have e2 := Option.some.inj hc
      injection e2 with _ e3 _
      exact absurd e3 (by decide)
  have htr : ∀ v L, TR w S v L → (v.ownBlock = none ∨ v.ownBlock ≠ (f (Sha.sum t)).ownBlock) → TR w3 (fun k => S k ∨ (w.heap.size ≤ k ∧ k < w3.heap.size)) v L := fun v L hv2 hne => by
    have hv3 := hv2
    obtain ⟨vs2, k1, k2, k3⟩ := hv2
    refine ⟨vs2, row_keep k1 fun gg hgg => ?_, fun i hi => ?_, fun k hk => .inl (k3 k hk)⟩
    · obtain ⟨cs, hc⟩ := hv3.typ hgg
      refine hst gg (blk_lt hc) (fun e => ?_) (fun e => ?_) (fun e => ?_)
      · rcases hne with hne | hne
        · rw [hne] at hgg; cases hgg
        · exact hne (hgg.trans e.symm)
      · subst e
        obtain ⟨es, c, hb⟩ := h.map.obj
        rw [hb] at hc; cases hc
      · subst e
        rw [h.blk] at hc
        have e2 := Option.some.inj hc
        injection e2 with _ e3 _
        exact absurd e3 (by decide)
    · obtain ⟨x, q1, q2⟩ := k2 i hi
      exact ⟨x, q1, hti _ _ q2⟩
  -- the row that grew, behind the store into the map and the count
  have hv0 : ∀ k, v'.ownBlock = some k → (S k ∨ k = n0) ∧ k ≠ bm ∧ k ≠ b := fun k hk => by
    rcases hv with hv | hv
    · rw [hv] at hk
      exact ⟨.inl ((hR.lt hk).2), fun e => hfm (e ▸ hk), fun e => hfb (e ▸ hk)⟩
    · rw [hv] at hk
      have e := Option.some.inj hk
      have h8 := h.map.lt
      exact ⟨.inr e.symm, by omega, by omega⟩
  have hin : ∀ k, (S k ∨ k = n0) → k < w1.heap.size → (S k ∨ (w.heap.size ≤ k ∧ k < w3.heap.size)) := fun k hk hlt => by
    rcases hk with hk | hk
    · exact .inl hk
    · exact .inr ⟨by omega, by omega⟩
  have hnew : TR w3 (fun k => S k ∨ (w.heap.size ≤ k ∧ k < w3.heap.size)) v' (atD T (Sha.sum t) ++ [t]) := by
    obtain ⟨vs2, k1, k2, k3⟩ := h1
    have hk3 : ∀ (gg : Nat) (cs : Array Value) (tt : TypeId), tt ≠ 77 → w1.heap[gg]? = some (Obj.cells cs tt (0, 0)) → w3.heap[gg]? = w1.heap[gg]? := fun gg cs tt htt hc => by
      have hlt := blk_lt hc
      rw [h3]
      refine (Below.heap_setCell w2 ⟨b, 2, none⟩ _ gg (fun e => ?_)).trans (hg2.block gg hlt (fun e => ?_))
      · have e4 : gg = b := e
        subst e4
        have e5 := (hg1.block gg (by omega) (fun e => hfb e.symm)).trans (h0.block gg hblt)
        rw [hc, h.blk] at e5
        have e2 := Option.some.inj e5
        injection e2 with _ e3 _
        exact htt e3
      · have e4 : gg = bm := Option.some.inj e
        subst e4
        have hml := h.map.lt
        have e5 := (hg1.block gg (by omega) (fun e => hfm e.symm)).trans (h0.block gg hml)
        obtain ⟨es, c, hb⟩ := h.map.obj
        rw [hc, hb] at e5; cases e5
    have hT1 : TR w1 (fun k => S k ∨ k = n0) v' (atD T (Sha.sum t) ++ [t]) := ⟨vs2, k1, k2, k3⟩
    refine ⟨vs2, row_keep k1 fun gg hgg => ?_, fun i hi => ?_, fun k hk => hin k (k3 k hk) (World.ownsRow.lt k1 k hk).2⟩
    · obtain ⟨cs, hc⟩ := hT1.typ hgg
      exact hk3 gg cs _ (by decide) hc
    · obtain ⟨x, q1, q2⟩ := k2 i hi
      refine ⟨x, q1, q2.1.keep fun gg hgg => ?_, q2.2.1, fun k hk => hin k (q2.2.2 k hk) (q2.1.lt hk).2⟩
      obtain ⟨cs, hc⟩ := q2.typ hgg
      exact hk3 gg cs _ (by decide) hc
  have hL : (T ++ [t]).length = T.length + 1 := by simp
  refine ⟨?_, (hst g (h.sub g h.sg) hfg h.ne_gm h.ne_g.symm).trans h.tab, ?_, by rw [hL]; omega, fun d hd => ?_, fun d e hd he hde => ?_, ?_, h.shown0, fun d hd => ?_, .inl h.sb, .inl h.sg, .inl h.sbm, fun k hk => ?_⟩
  · rw [hL, h3]
    have := blk_set (hbl2.trans h.blk) 2 (.int .i64 ((T.length + 1 : Nat) : Int))
    simpa using this
  · rw [hL, h3]
    exact h2.keep (Below.heap_setCell w2 ⟨b, 2, none⟩ _ bm (fun e => h.ne_m (Eq.symm e)))
  · show TR w3 _ (if d = Sha.sum t then v' else f d) (atD (T ++ [t]) d)
    rw [atD_app]
    by_cases hd2 : d = Sha.sum t
    · subst hd2
      rw [if_pos rfl, if_pos rfl]
      exact hnew
    · rw [if_neg hd2, if_neg (fun e => hd2 e.symm)]
      exact htr _ _ (h.rows d hd) (h.apart d _ hd hs hd2)
  · show (if d = Sha.sum t then v' else f d).ownBlock = none ∨ (if d = Sha.sum t then v' else f d).ownBlock ≠ (if e = Sha.sum t then v' else f e).ownBlock
    have hlt0 : ∀ x k, IsDig x → (f x).ownBlock = some k → k < w.heap.size := fun x k hx hk => ((h.rows x hx).lt hk).1
    by_cases hd2 : d = Sha.sum t
    · subst hd2
      rw [if_pos rfl, if_neg (fun q => hde q.symm)]
      rcases hv with hv | hv
      · rw [hv]; exact h.apart _ e hd he hde
      · rw [hv]
        exact .inr fun q => by have := hlt0 e n0 he q.symm; omega
    · rw [if_neg hd2]
      by_cases he2 : e = Sha.sum t
      · subst he2
        rw [if_pos rfl]
        rcases hv with hv | hv
        · rw [hv]; exact h.apart d _ hd he hde
        · rw [hv]
          by_cases hn : (f d).ownBlock = none
          · exact .inl hn
          · exact .inr fun q => by have := hlt0 d n0 hd q; omega
      · rw [if_neg he2]; exact h.apart d e hd he hde
  · refine htr _ _ h.shown ?_
    rcases h.away _ hs with q | q
    · by_cases hn : vs.ownBlock = none
      · exact .inl hn
      · exact .inr (by rw [q]; exact hn)
    · exact .inr fun e => q e.symm
  · show (if d = Sha.sum t then v' else f d).ownBlock = none ∨ (if d = Sha.sum t then v' else f d).ownBlock ≠ vs.ownBlock
    by_cases hd2 : d = Sha.sum t
    · rw [if_pos hd2]
      rcases hv with hv | hv
      · rw [hv]; exact h.away _ hs
      · rw [hv]
        refine .inr fun q => ?_
        have := (h.shown.lt q.symm).1
        omega
    · rw [if_neg hd2]; exact h.away d hd
  · rcases hk with hk | hk
    · have := h.sub k hk; omega
    · exact hk.2
end
end Go.Proofs.YtoclelpmampikaaGreat
