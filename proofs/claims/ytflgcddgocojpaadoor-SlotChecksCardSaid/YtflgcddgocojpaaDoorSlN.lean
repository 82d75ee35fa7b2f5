/-
  Layer 18: objects in memory: slices of objects, rows of objects of the call's own, an object appended.
-/
import Derived.Test.YtflgcddgocojpaaDoorSlL
import Derived.Test.YtflgcddgocojpaaDoorOwnW
import Derived.Test.YtflgcddgocojpaaDoorOpenF
import Derived.Test.YtflgcddgocojpaaDoorCel
import Derived.Test.YtflgcddgocojpaaDoorRowA
import Derived.Deep.AppendLies
import Derived.Deep.MidRow
namespace Go.Proofs.YtflgcddgocojpaaDoor
open Go.RowKit Go Go.WideShapes Go.ChangeShapes Go.Deep
set_option linter.unusedVariables false
set_option linter.unusedSimpArgs false
theorem Own.base {w : World} {B B' : Nat} {v : Value} {l : List Nat} (h : Own w B v l) (hB : B' ≤ B) : Own w B' v l := by
  obtain ⟨h1, h2⟩ := h
  refine ⟨h1, ?_⟩
  rcases h2 with h2 | ⟨g, cap, cur, hv, hg, hr⟩
  · exact .inl h2
  · exact .inr ⟨g, cap, cur, hv, Nat.le_trans hB hg, hr⟩
/-- an entry's bytes: below the base, or a slice of its own -/
def EnI (w : World) (B0 B : Nat) (A : Option Addr) (c : Nat) (l : List Nat) : Prop := (BS w B0 A l.length c l ∨ (Own w B (.slice A l.length c) l ∧ ∀ i, l.getD i 0 < 256)) ∧ (A = none → c = 0)
theorem EnI.bs {w : World} {B0 B : Nat} {A : Option Addr} {c : Nat} {l : List Nat} (h : EnI w B0 B A c l) (h0 : B0 ≤ B) (hB : B ≤ w.heap.size) : BS w w.heap.size A l.length c l := by
  rcases h.1 with h | ⟨h, h2⟩
  · exact h.more (Nat.le_trans h0 hB)
  · obtain ⟨A2, c2, e, h3⟩ := h.bs h2
    injection e with e1 e2 e3
    subst e1 e3
    exact h3
theorem EnI.below {w w' : World} {B0 B : Nat} {A : Option Addr} {c : Nat} {l : List Nat} (h : EnI w B0 B A c l) (h0 : B0 ≤ B) (hB : B ≤ w.heap.size) (hb : Below w.heap.size w w') : EnI w' B0 B A c l := by
  obtain ⟨h, hz⟩ := h
  rcases h with h | ⟨h, h2⟩
  · exact ⟨.inl (h.keep fun p hp => hb.cell (Nat.lt_of_lt_of_le hp (Nat.le_trans h0 hB))), hz⟩
  · exact ⟨.inr ⟨h.below hb, h2⟩, hz⟩
theorem own_rows {w : World} {B s n : Nat} {v : Value} {e : TypeId} {vs : List Value} (h : w.ownsRow B e s v n vs) : ∀ g, v.ownBlock = some g → ∃ cs, w.heap[g]? = some (.cells cs e (0, 0)) := by
  intro g hg
  obtain ⟨_, k⟩ := h
  rcases k with ⟨rfl, _⟩ | ⟨g2, cap, cur, rfl, _, hh, _⟩
  · cases hg
  · have e2 : g2 = g := Option.some.inj (show (some g2 : Option Nat) = some g from hg)
    subst e2
    exact ⟨cur, hh⟩
theorem EnI.grown {w w' : World} {B0 B : Nat} {A : Option Addr} {c : Nat} {l : List Nat} (h : EnI w B0 B A c l) (h0 : B0 ≤ B) (hB : B ≤ w.heap.size) {row : Option Nat} (hg : w.grownBy w' row) {t : TypeId} (hr : ∀ g, row = some g → B ≤ g ∧ ∃ cs, w.heap[g]? = some (.cells cs t (0, 0))) (ht : t ≠ 5) : EnI w' B0 B A c l := by
  obtain ⟨h, hz⟩ := h
  refine ⟨?_, hz⟩
  rcases h with h | ⟨h, h2⟩
  · refine .inl (h.keep fun p hp => hg.cell_far p (Nat.lt_of_lt_of_le hp (Nat.le_trans h0 hB)) fun e => ?_)
    have := (hr _ e.symm).1
    omega
  · refine .inr ⟨h.keep fun g e => hg.block g (h.lt e).2 fun e2 => ?_, h2⟩
    obtain ⟨cs, h3⟩ := own_rows h g e
    obtain ⟨_, cs2, h4⟩ := hr g e2.symm
    rw [h3] at h4
    have h5 := Option.some.inj h4
    injection h5 with _ h6 _
    exact ht h6.symm

def oAt (l : List Ob) (i : Nat) : Ob := l.getD i (0, [])
def ObB (w : World) (b o : Nat) (l : List Ob) : Prop :=
  b < w.heap.size ∧ ∀ i, i < l.length → ∃ A c, w.cell? ⟨b, o + i * 2, none⟩ = some (.int .u64 (((oAt l i).1 : Nat) : Int)) ∧ w.cell? ⟨b, o + i * 2 + 1, none⟩ = some (.slice A (oAt l i).2.length c) ∧ BS w w.heap.size A (oAt l i).2.length c (oAt l i).2 ∧ (A = none → c = 0)
theorem ObB.below {w w' : World} {b o : Nat} {l : List Ob} (h : ObB w b o l) (hb : Below w.heap.size w w') : ObB w' b o l :=
  ⟨Nat.lt_of_lt_of_le h.1 hb.size, fun i hi => by
    obtain ⟨A, c, h1, h2, h3, h4⟩ := h.2 i hi
    exact ⟨A, c, (hb.cell (p := ⟨b, o + i * 2, none⟩) h.1).trans h1, (hb.cell (p := ⟨b, o + i * 2 + 1, none⟩) h.1).trans h2, (h3.below hb).more hb.size, h4⟩⟩
/-- a slice of objects, nil or not -/
def ObV (w : World) (A : Option Addr) (n : Nat) (l : List Ob) : Prop := l.length = n ∧ (0 < n → ∃ b o, A = some ⟨b, o, none⟩ ∧ ObB w b o l)
theorem ObV.below {w w' : World} {A : Option Addr} {n : Nat} {l : List Ob} (h : ObV w A n l) (hb : Below w.heap.size w w') : ObV w' A n l :=
  ⟨h.1, fun hn => by obtain ⟨b, o, e, h1⟩ := h.2 hn; exact ⟨b, o, e, h1.below hb⟩⟩
theorem ObV.nil (w : World) : ObV w none 0 [] := ⟨rfl, fun h => absurd h (by omega)⟩
theorem ObV.at_ {w : World} {A : Option Addr} {n : Nat} {l : List Ob} (h : ObV w A n l) {i : Nat} (hi : i < n) : ∃ b o A1 c1, A = some ⟨b, o, none⟩ ∧ b < w.heap.size ∧
    w.cell? ⟨b, o + i * 2, none⟩ = some (.int .u64 (((oAt l i).1 : Nat) : Int)) ∧ w.cell? ⟨b, o + i * 2 + 1, none⟩ = some (.slice A1 (oAt l i).2.length c1) ∧ BS w w.heap.size A1 (oAt l i).2.length c1 (oAt l i).2 ∧ (A1 = none → c1 = 0) := by
  obtain ⟨b, o, e, h1⟩ := h.2 (by omega)
  obtain ⟨A1, c1, h2, h3, h4, h5⟩ := h1.2 i (by have := h.1; omega)
  exact ⟨b, o, A1, c1, e, h1.1, h2, h3, h4, h5⟩
theorem ObV.byte {w : World} {A : Option Addr} {n : Nat} {l : List Ob} (h : ObV w A n l) (k i : Nat) : (oAt l k).2.getD i 0 < 256 := by
  by_cases hk : k < l.length
  · obtain ⟨b, o, A1, c1, _, _, _, _, h5, _⟩ := h.at_ (show k < n by have := h.1; omega)
    exact h5.byte _
  · have e : oAt l k = (0, []) := by simp [oAt, List.getD, List.getElem?_eq_none (Nat.le_of_not_lt hk)]
    rw [e]; simp
theorem oAt_app_lt {l m : List Ob} {i : Nat} (h : i < l.length) : oAt (l ++ m) i = oAt l i := by simp [oAt, List.getD, List.getElem?_append_left h]
theorem oAt_app_last {l : List Ob} {p : Ob} : oAt (l ++ [p]) l.length = p := by simp [oAt, List.getD]
/-- a row of objects that the call itself made -/
def ObO (w : World) (B0 B : Nat) (v : Value) (l : List Ob) : Prop :=
  ∃ vs : List Value, w.ownsRow B 55 2 v l.length vs ∧ ∀ i, i < l.length → ∃ A c, vs[i * 2]? = some (.int .u64 (((oAt l i).1 : Nat) : Int)) ∧ vs[i * 2 + 1]? = some (.slice A (oAt l i).2.length c) ∧ EnI w B0 B A c (oAt l i).2
theorem ObO.nil (w : World) (B0 B : Nat) : ObO w B0 B (.slice none 0 0) [] := ⟨[], World.ownsRow_nil _ _ _ _, fun i hi => by simp at hi⟩
theorem ObO.below {w w' : World} {B0 B : Nat} {v : Value} {l : List Ob} (h : ObO w B0 B v l) (h0 : B0 ≤ B) (hB : B ≤ w.heap.size) (hb : Below w.heap.size w w') : ObO w' B0 B v l := by
  obtain ⟨vs, h1, h2⟩ := h
  refine ⟨vs, h1.kept (row := none) ⟨hb.os, hb.tape, hb.output, hb.size, fun k hk _ => hb.block k hk⟩ (by cases hv : v.ownBlock <;> simp), fun i hi => ?_⟩
  obtain ⟨A, c, h3, h4, h5⟩ := h2 i hi
  exact ⟨A, c, h3, h4, h5.below h0 hB hb⟩
/-- .. as a slice of objects -/
theorem ObO.obV {w : World} {B0 B : Nat} {v : Value} {l : List Ob} (h : ObO w B0 B v l) (h0 : B0 ≤ B) (hB : B ≤ w.heap.size) : ∃ A c, v = .slice A l.length c ∧ ObV w A l.length l ∧ l.length ≤ c ∧ c ≤ 9223372036854775807 := by
  obtain ⟨vs, ⟨h1, h0⟩, h2⟩ := h
  rcases h0 with ⟨rfl, h3⟩ | ⟨g, cap, cur, rfl, hg, hh, hn, hm, hs, ht⟩
  · exact ⟨none, 0, by rw [h3], ⟨rfl, fun h => absurd h (by omega)⟩, by omega, by omega⟩
  · refine ⟨_, cap, rfl, ⟨rfl, fun _ => ⟨g, 0, rfl, blk_lt hh, fun i hi => ?_⟩⟩, hn, by unfold maxLen at hm; omega⟩
    obtain ⟨A, c, h3, h4, h5⟩ := h2 i hi
    have hcell : ∀ k x, vs[k]? = some x → w.cell? ⟨g, k, none⟩ = some x := by
      intro k x hx
      rw [blk_cell hh k]
      rw [← ht] at hx
      have hk : k < l.length * 2 := by
        have := (List.getElem?_eq_some_iff.mp hx).1
        rw [List.length_take] at this; omega
      rw [List.getElem?_take_of_lt hk] at hx
      simpa using hx
    exact ⟨A, c, by rw [Nat.zero_add]; exact hcell _ _ h3, by rw [Nat.zero_add]; exact hcell _ _ h4, h5.bs h0 hB, h5.2⟩
theorem info_ob : (Tryd.prog.info? 55).map (fun i => (i.zero, i.size, i.bytes)) = some (some (.agg #[.int .u64 0, .slice none 0 0]), 2, 32) := by kernel_rfl
/-- an object is appended -/
theorem step_appO {K0 : Act → World → Prop} {o : Oper} {a : Act} {Q : Exit → Act → World → Prop} (W : World) (s x : Operand)
    (ho : o.op = .call { callee := .builtin .append, args := #[s, x], argTypes := #[24, 24] })
    (B0 B : Nat) (h0 : B0 ≤ B) (v : Value) (l : List Ob) (K : Nat) (A : Option Addr) (c n : Nat) (b : List Nat) (hln : b.length = n) (hs : a.eval s = v) (hown : ObO W B0 B v l) (hl : l.length < 1000)
    (hx : a.eval x = .slice (some ⟨W.heap.size, 0, none⟩) 1 1) (hy : EnI W B0 B A c b) (hB : B ≤ W.heap.size)
    (h : ∀ v' w', ObO w' B0 B v' (l ++ [(K, b)]) → Below B W w' → K0 (a.put o.dst v') w') :
    Oper.wp Tryd.prog o a (W.alloc (.cells #[.int .u64 (K : Int), .slice A n c] 55)) K0 Q := by
  subst hln
  obtain ⟨vs, hr, hit⟩ := hown
  obtain ⟨i0, hi, hz0, hz1, hz2⟩ := info_parts info_ob
  have hba : Below W.heap.size W (W.alloc (.cells #[.int .u64 (K : Int), .slice A b.length c] 55)) := (Below.refl _ _).alloc (Nat.le_refl _) _
  have hra := World.ownsRow.alloc hr (.cells #[.int .u64 (K : Int), .slice A b.length c] 55)
  have hBa : B ≤ (W.alloc (.cells #[.int .u64 (K : Int), .slice A b.length c] 55)).heap.size := by simp; omega
  refine wp_append_own _ s x 24 ho B 55 i0 (.agg #[.int .u64 0, .slice none 0 0]) 2 32 Tryd.underlying24 hi hz0 hz1 hz2 rfl (by decide) v l.length vs hs hra ⟨W.heap.size, 0, none⟩ 1 1
    [.int .u64 (K : Int), .slice A b.length c] hx rfl ?_ ?_ (by unfold maxLen; omega) (by omega) hBa ?_
  · intro j u hj
    match j, hj with
    | 0, hj => simp at hj; subst hj; simp [Addr.add]
    | 1, hj => simp at hj; subst hj; simp [Addr.add]
  · intro u hu
    simp at hu
    rcases hu with rfl | rfl <;> rfl
  · intro v' w1 hown' hg _
    have hrow : ∀ g, v.ownBlock = some g → B ≤ g ∧ ∃ cs, (W.alloc (.cells #[.int .u64 (K : Int), .slice A b.length c] 55)).heap[g]? = some (.cells cs 55 (0, 0)) := fun g e => ⟨(World.ownsRow.lt hra g e).1, own_rows hra g e⟩
    have hkeep : ∀ A2 c2 l2, EnI W B0 B A2 c2 l2 → EnI w1 B0 B A2 c2 l2 := fun A2 c2 l2 h2 => (h2.below h0 hB hba).grown h0 hBa hg hrow (by decide)
    refine h v' w1 ⟨vs ++ [.int .u64 (K : Int), .slice A b.length c], by rw [List.length_append]; exact hown', fun i hi2 => ?_⟩ (((Below.refl B W).alloc hB _).grown hg hBa (fun k hk => (hrow k hk).1))
    have hvl : vs.length = l.length * 2 := hr.1
    by_cases hlt : i < l.length
    · obtain ⟨A2, c2, k1, k2, k3⟩ := hit i hlt
      rw [oAt_app_lt hlt]
      exact ⟨A2, c2, by rw [List.getElem?_append_left (by omega)]; exact k1, by rw [List.getElem?_append_left (by omega)]; exact k2, hkeep _ _ _ k3⟩
    · have e0 : i = l.length := by rw [List.length_append] at hi2; simp at hi2; omega
      subst e0
      rw [oAt_app_last]
      refine ⟨A, c, by rw [← hvl]; simp, by rw [← hvl, List.getElem?_append_right (by omega)]; simp, hkeep _ _ _ hy⟩
theorem wp_appO {ops : Array Oper} {rest : List Oper} {o : Oper} {a : Act} {Q : Exit → Act → World → Prop} (W : World) (hgd : o.guard = none) (s x : Operand)
    (ho : o.op = .call { callee := .builtin .append, args := #[s, x], argTypes := #[24, 24] })
    (B0 B : Nat) (h0 : B0 ≤ B) (v : Value) (l : List Ob) (K : Nat) (A : Option Addr) (c n : Nat) (b : List Nat) (hln : b.length = n) (hs : a.eval s = v) (hown : ObO W B0 B v l) (hl : l.length < 1000)
    (hx : a.eval x = .slice (some ⟨W.heap.size, 0, none⟩) 1 1) (hy : EnI W B0 B A c b) (hB : B ≤ W.heap.size)
    (h : ∀ v' w', ObO w' B0 B v' (l ++ [(K, b)]) → Below B W w' → wpList Tryd.prog ops Q rest (a.put o.dst v') w') :
    wpList Tryd.prog ops Q (o :: rest) a (W.alloc (.cells #[.int .u64 (K : Int), .slice A n c] 55)) :=
  wpList_plain hgd fun _ hK => step_appO W s x ho B0 B h0 v l K A c n b hln hs hown hl hx hy hB fun v' w' h1 h2 => hK _ _ (h v' w' h1 h2)
/-- the cells of objects, as they lie -/
def obsF (w : World) (b o i : Nat) : Value := (w.cell? ⟨b, o + i, none⟩).getD undef
set_option maxRecDepth 100000 in
/-- a row of objects, appended to an empty literal -/
theorem wp_appObs {ops : Array Oper} {rest : List Oper} {o : Oper} {a : Act} {Q : Exit → Act → World → Prop} (W : World) (hgd : o.guard = none) (s x : Operand)
    (ho : o.op = .call { callee := .builtin .append, args := #[s, x], argTypes := #[24, 24] })
    (b off n c : Nat) (l : List Ob) (hs : a.eval s = .slice (some ⟨W.heap.size, 0, none⟩) 0 0) (hx : a.eval x = .slice (some ⟨b, off, none⟩) n c)
    (hv : ObB W b off l) (hln : l.length = n) (hn : n < 1000) (h0 : 0 < n)
    (h : ∀ g cap w', W.heap.size ≤ g → n ≤ cap → cap ≤ 9223372036854775807 → Cells w' g (n * 2) (obsF W b off) → Below W.heap.size W w' → wpList Tryd.prog ops Q rest (a.put o.dst (.slice (some ⟨g, 0, none⟩) n cap)) w') :
    wpList Tryd.prog ops Q (o :: rest) a (W.alloc (.cells #[] 55)) := by
  obtain ⟨i0, hi, hz0, hz1, hz2⟩ := info_parts info_ob
  have hown : (W.alloc (.cells #[] 55)).ownsRow W.heap.size 55 2 (.slice (some ⟨W.heap.size, 0, none⟩) 0 0) 0 [] := World.ownsRow_made W #[] 0 (Nat.le_refl _) (by unfold maxLen; omega) rfl
  obtain ⟨hb, hcells⟩ := id hv
  have hcell : ∀ j, j < n * 2 → ∃ u, W.cell? ⟨b, off + j, none⟩ = some u ∧ u.oneCell' = true := fun j hj => by
    obtain ⟨A1, c1, h1, h2, _⟩ := hcells (j / 2) (by omega)
    by_cases e : j % 2 = 0
    · exact ⟨_, by rw [show off + j = off + j / 2 * 2 by omega]; exact h1, rfl⟩
    · exact ⟨_, by rw [show off + j = off + j / 2 * 2 + 1 by omega]; exact h2, rfl⟩
  have hF : ∀ j u, W.cell? ⟨b, off + j, none⟩ = some u → obsF W b off j = u := fun j u h => by unfold obsF; rw [h]; rfl
  have hvs : ∀ j u, ((List.range (n * 2)).map (fun i => obsF W b off i))[j]? = some u → j < n * 2 ∧ W.cell? ⟨b, off + j, none⟩ = some u := fun j u hj => by
    have hjl : j < n * 2 := by
      have := (List.getElem?_eq_some_iff.mp hj).1
      simpa using this
    rw [List.getElem?_map, List.getElem?_range hjl] at hj
    obtain ⟨u2, h2, _⟩ := hcell j hjl
    rw [Option.map_some, hF j u2 h2] at hj
    obtain rfl := Option.some.inj hj
    exact ⟨hjl, h2⟩
  refine wpList_append_own _ hgd s x 24 ho W.heap.size 55 i0 (.agg #[.int .u64 0, .slice none 0 0]) 2 32 Tryd.underlying24 hi hz0 hz1 hz2 rfl (by decide) _ 0 [] hs hown ⟨b, off, none⟩ n c
    ((List.range (n * 2)).map (fun i => obsF W b off i)) hx (by simp) ?_ ?_ (by unfold maxLen; omega) (by omega) (by simp) ?_
  · intro j u hj
    rw [Go.WideShapes.add_plain, World.cell?_alloc_lt _ _ _ hb]
    exact (hvs j u hj).2
  · intro u hu
    obtain ⟨j, hj, rfl⟩ := List.getElem_of_mem hu
    have h2 := hvs j _ (List.getElem?_eq_getElem hj)
    obtain ⟨u2, h3, h4⟩ := hcell j h2.1
    rw [h2.2] at h3
    rw [Option.some.inj h3]; exact h4
  · intro v' w1 hown' hg _
    rw [Nat.zero_add, List.nil_append] at hown'
    have hbl : Below W.heap.size W w1 := ((Below.refl W.heap.size W).alloc (Nat.le_refl _) _).grown hg (by simp) (fun k hk => by simp [Value.ownBlock] at hk; omega)
    obtain ⟨q1, q2⟩ := hown'
    rcases q2 with ⟨_, e⟩ | ⟨g, cap, cur, rfl, hgB, hh, hnc, hm, hsz, ht⟩
    · omega
    · refine h g cap w1 hgB hnc (by unfold maxLen at hm; omega) (Cells.of_blk hh fun i hi => ?_) hbl
      have e2 : ((List.range (n * 2)).map (fun i => obsF W b off i))[i]? = some (obsF W b off i) := by
        rw [List.getElem?_map, List.getElem?_range hi]; rfl
      rw [← ht, List.getElem?_take_of_lt hi] at e2
      simpa using e2
/-- bytes are appended; other blocks stay -/
theorem step_apps {K0 : Act → World → Prop} {o : Oper} {a : Act} {Q : Exit → Act → World → Prop} (W : World) (s x : Operand)
    (ho : o.op = .call { callee := .builtin .append, args := #[s, x], argTypes := #[23, 23] })
    (B : Nat) (v : Value) (l : List Nat) (hs : a.eval s = v) (hown : Own W B v l)
    (B' : Nat) (A : Option Addr) (m c : Nat) (l' : List Nat) (hx : a.eval x = .slice A m c) (hr : BS W B' A m c l') (hA : A = none → c = 0) (hn : l.length + m < 1000000000) (hB : B ≤ W.heap.size)
    (h : ∀ v' w', Own w' B v' (l ++ l') → Below B W w' → K0 (a.put o.dst v') w') : Oper.wp Tryd.prog o a W K0 Q := by
  obtain ⟨i0, hi, hz0, hz1, hz2⟩ := info_parts info_u8
  have hm := hr.len
  rcases A with _ | ad
  · have h0 := hA rfl
    have h1 := hr.cap
    have hm0 : m = 0 := by omega
    subst hm0 h0
    obtain rfl := List.length_eq_zero_iff.mp hm
    have hrun := run_append_owned_none (P := Tryd.prog) (w := W) B 23 o.type 5 i0 1 Tryd.underlying23 hi v l.length (bvals l) hown
    unfold Oper.wp
    simp [execOp, ho, resolve, invoke, builtin, hs, hx, hrun, Result.andThen]
    exact h v W (by rw [List.append_nil]; exact hown) (Below.refl _ _)
  · refine wp_append_own _ s x 23 ho B 5 i0 (.int .u8 0) 1 1 Tryd.underlying23 hi hz0 hz1 hz2 rfl (by decide) v l.length (bvals l) hs hown ad m c
      (bvals l') hx (by rw [bvals_len, hm, Nat.mul_one]) ?_ (bvals_one l') (by unfold maxLen; omega) (by omega) hB ?_
    · intro j u hj
      have hjl : j < l'.length := by
        rcases Nat.lt_or_ge j l'.length with h | h
        · exact h
        · rw [List.getElem?_eq_none (by rw [bvals_len]; exact h)] at hj; cases hj
      obtain ⟨b, o, e, _, hc⟩ := hr.at_ (by omega)
      obtain rfl : ad = ⟨b, o, none⟩ := Option.some.inj e
      have h2 := hc j (by omega)
      rw [Go.WideShapes.add_plain, h2, ← hj]
      simp [bvals, List.getElem?_eq_getElem hjl, List.getD]
    · intro v' w1 hown' hg _
      refine h v' w1 ?_ ((Below.refl B W).grown hg hB (fun k hk => (World.ownsRow.lt hown k hk).1))
      have e : bvals (l ++ l') = bvals l ++ bvals l' := by simp [bvals]
      unfold Own
      rw [e, List.length_append, hm]
      exact hown'
end Go.Proofs.YtflgcddgocojpaaDoor
