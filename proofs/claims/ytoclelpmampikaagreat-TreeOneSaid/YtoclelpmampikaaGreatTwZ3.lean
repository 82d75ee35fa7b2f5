/-
  Joined: TwH, TwI, TwJ.
-/
import Derived.Test.YtoclelpmampikaaGreatTwZ2
import Derived.Test.YtoclelpmampikaaGreatPtZ1
import Derived.Test.YtoclelpmampikaaGreatPtZ2
import Derived.Deep.MidRow
import Derived.BigRegion
import Derived.ChangeKeysEq
import Derived.Laws.StructEq
namespace Go.Proofs.YtoclelpmampikaaGreat
set_option maxRecDepth 100000
section
open Go.RowKit Go
set_option linter.unusedVariables false
set_option linter.unusedSimpArgs false
def Right (F : Nat → Nat → List Nat) (d i : Nat) : Prop := F (d + 1) i = Sha.sum (nodeT (d + 1) i (F d (2 * i)) (F d (2 * i + 1)))
/-- place (l, i) stands above one of the entries, or is one -/
def Dirt (es : List En) (l i : Nat) : Prop := ∃ e ∈ es, e.n.toNat ≤ l ∧ i = e.m.toNat / 2 ^ (l - e.n.toNat)
def Good (D : Nat) (F : Nat → Nat → List Nat) (es : List En) : Prop := ∀ d i, d + 1 ≤ D → i < 2 ^ (D - (d + 1)) → Right F d i ∨ Dirt es (d + 1) i
def FitE (D : Nat) (e : En) : Prop := 0 ≤ e.n ∧ e.n.toNat ≤ D ∧ 0 ≤ e.m ∧ e.m.toNat < 2 ^ (D - e.n.toNat)
def weight (D : Nat) (es : List En) : Nat := (es.map fun e => D + 1 - e.n.toNat).sum
theorem Dirt.perm {es es' : List En} (h : es.Perm es') {l i : Nat} (hd : Dirt es l i) : Dirt es' l i := by
  obtain ⟨e, he, h1⟩ := hd
  exact ⟨e, h.mem_iff.1 he, h1⟩
theorem Good.perm {D : Nat} {F : Nat → Nat → List Nat} {es es' : List En} (h : es.Perm es') (hg : Good D F es) : Good D F es' := fun d i hd hi => (hg d i hd hi).imp id (Dirt.perm h)
theorem weight_perm {D : Nat} {es es' : List En} (h : es.Perm es') : weight D es = weight D es' := by
  induction h with
  | nil => rfl
  | cons x _ ih => simp only [weight, List.map_cons, List.sum_cons] at ih ⊢; omega
  | swap x y l => simp only [weight, List.map_cons, List.sum_cons]; omega
  | trans _ _ h1 h2 => exact h1.trans h2
theorem weight_cons (D : Nat) (e : En) (es : List En) : weight D (e :: es) = (D + 1 - e.n.toNat) + weight D es := rfl
theorem weight_len {D : Nat} {es : List En} (h : ∀ e ∈ es, FitE D e) : es.length ≤ weight D es := by
  induction es with
  | nil => simp [weight]
  | cons e es ih =>
    have h1 := h e (List.mem_cons_self ..)
    have h2 := ih fun x hx => h x (List.mem_cons_of_mem _ hx)
    rw [weight_cons, List.length_cons]
    have := h1.2.1
    omega
theorem Good.drop {D : Nat} {F : Nat → Nat → List Nat} {c e : En} {es : List En} (h : Good D F (c :: es)) (he : e ∈ es) (h1 : e.n = c.n) (h2 : e.m = c.m) : Good D F es := fun d i hd hi => by
  rcases h d i hd hi with q | ⟨x, hx, q⟩
  · exact .inl q
  · rcases List.mem_cons.1 hx with rfl | hx
    · exact .inr ⟨e, he, by rw [h1, h2]; exact q⟩
    · exact .inr ⟨x, hx, q⟩
theorem div_up (m k : Nat) : m / 2 ^ (k + 1) = m / 2 / 2 ^ k := by rw [Nat.div_div_eq_div_mul, Nat.pow_succ, Nat.mul_comm]
/-- an entry goes up one level, its own place being right -/
theorem Good.up {D l m : Nat} {F : Nat → Nat → List Nat} {t t' : Nat} {es : List En} (h : ∀ d i, d + 1 ≤ D → i < 2 ^ (D - (d + 1)) → (d + 1, i) ≠ (l, m) → Right F d i ∨ Dirt (⟨(l : Int), (m : Int), t⟩ :: es) (d + 1) i) (hr : ∀ d, l = d + 1 → Right F d m) : Good D F (⟨((l + 1 : Nat) : Int), ((m / 2 : Nat) : Int), t'⟩ :: es) := fun d i hd hi => by
  by_cases hq : (d + 1, i) = (l, m)
  · injection hq with q1 q2
    subst q2
    exact .inl (hr d q1.symm)
  · rcases h d i hd hi hq with q | ⟨x, hx, q1, q2⟩
    · exact .inl q
    · rcases List.mem_cons.1 hx with rfl | hx
      · simp only [Int.toNat_natCast] at q1 q2
        rcases Nat.lt_or_ge l (d + 1) with q3 | q3
        · refine .inr ⟨_, List.mem_cons_self .., ?_, ?_⟩
          · simp only [Int.toNat_natCast]; omega
          · simp only [Int.toNat_natCast]
            rw [q2, show d + 1 - l = (d + 1 - (l + 1)) + 1 by omega, div_up]
        · have e : l = d + 1 := by omega
          subst e
          rw [Nat.sub_self, Nat.pow_zero, Nat.div_one] at q2
          exact absurd (by rw [q2]) hq
      · exact .inr ⟨x, List.mem_cons_of_mem _ hx, q1, q2⟩
theorem Good.zero {D m : Nat} {F : Nat → Nat → List Nat} {t t' : Nat} {es : List En} (h : Good D F (⟨((0 : Nat) : Int), (m : Int), t⟩ :: es)) : Good D F (⟨((0 + 1 : Nat) : Int), ((m / 2 : Nat) : Int), t'⟩ :: es) :=
  Good.up (fun d i hd hi _ => h d i hd hi) (fun d e => by omega)
/-- one sum is reckoned: all others that are not above it stay as they were -/
theorem Good.reck {D d0 i0 : Nat} {F : Nat → Nat → List Nat} {c : En} {es : List En} (h : Good D F (c :: es)) (hc : c.n = ((d0 + 1 : Nat) : Int)) (hm : c.m = (i0 : Int)) :
    (∀ d i, d + 1 ≤ D → i < 2 ^ (D - (d + 1)) → (d + 1, i) ≠ (d0 + 1, i0) → Right (setF F (d0 + 1) i0 (Sha.sum (nodeT (d0 + 1) i0 (F d0 (2 * i0)) (F d0 (2 * i0 + 1))))) d i ∨ Dirt (c :: es) (d + 1) i) ∧
      Right (setF F (d0 + 1) i0 (Sha.sum (nodeT (d0 + 1) i0 (F d0 (2 * i0)) (F d0 (2 * i0 + 1))))) d0 i0 := by
  constructor
  · intro d i hd hi hne
    by_cases hp : d = d0 + 1 ∧ i = i0 / 2
    · refine .inr ⟨c, List.mem_cons_self .., by rw [hc]; simp only [Int.toNat_natCast]; omega, ?_⟩
      rw [hc, hm]
      simp only [Int.toNat_natCast]
      rw [hp.1, hp.2, show d0 + 1 + 1 - (d0 + 1) = 1 by omega, Nat.pow_one]
    · rcases h d i hd hi with q | q
      · left
        have hn : ¬ (d + 1 = d0 + 1 ∧ i = i0) := fun a => hne (by rw [a.1, a.2])
        unfold Right at q ⊢
        rw [setF_ne _ _ hn, q, setF_ne (d := d0 + 1) (i := i0) (e := d) (j := 2 * i) _ _ (fun a => hp ⟨a.1, by omega⟩), setF_ne (d := d0 + 1) (i := i0) (e := d) (j := 2 * i + 1) _ _ (fun a => hp ⟨a.1, by omega⟩)]
      · exact .inr q
  · unfold Right
    rw [setF_same, setF_ne (d := d0 + 1) (i := i0) (e := d0) (j := 2 * i0) _ _ (fun a => by omega), setF_ne (d := d0 + 1) (i := i0) (e := d0) (j := 2 * i0 + 1) _ _ (fun a => by omega)]
/-- at the top no entry is wanted any more -/
theorem Good.top {D i0 : Nat} {F : Nat → Nat → List Nat} {c : En} {es : List En} (h : ∀ d i, d + 1 ≤ D → i < 2 ^ (D - (d + 1)) → (d + 1, i) ≠ (D, i0) → Right F d i ∨ Dirt (c :: es) (d + 1) i) (hc : c.n = (D : Int)) (hm : c.m = (i0 : Int)) (hr : ∀ d, D = d + 1 → Right F d i0) : Good D F es := fun d i hd hi => by
  by_cases hq : (d + 1, i) = (D, i0)
  · injection hq with q1 q2
    subst q2
    exact .inl (hr d q1.symm)
  · rcases h d i hd hi hq with q | ⟨x, hx, q1, q2⟩
    · exact .inl q
    · rcases List.mem_cons.1 hx with rfl | hx
      · rw [hc, hm] at q2
        rw [hc] at q1
        simp only [Int.toNat_natCast] at q1 q2
        have e : D = d + 1 := by omega
        subst e
        rw [Nat.sub_self, Nat.pow_zero, Nat.div_one] at q2
        exact absurd (by rw [q2]) hq
      · exact .inr ⟨x, hx, q1, q2⟩
theorem FitE.up {D l m t t' : Nat} (h : FitE D ⟨(l : Int), (m : Int), t⟩) (hl : l < D) : FitE D ⟨((l + 1 : Nat) : Int), ((m / 2 : Nat) : Int), t'⟩ := by
  obtain ⟨_, h2, _, h4⟩ := h
  simp only [Int.toNat_natCast] at h2 h4
  refine ⟨Int.natCast_nonneg _, by simp only [Int.toNat_natCast]; omega, Int.natCast_nonneg _, ?_⟩
  simp only [Int.toNat_natCast]
  have e : 2 ^ (D - l) = 2 * 2 ^ (D - (l + 1)) := by rw [show D - l = (D - (l + 1)) + 1 by omega, Nat.pow_succ]; omega
  omega
theorem Good.nil {D : Nat} {F : Nat → Nat → List Nat} (h : Good D F []) : ∀ d i, d + 1 ≤ D → i < 2 ^ (D - (d + 1)) → Right F d i := fun d i hd hi => by
  rcases h d i hd hi with q | ⟨x, hx, _⟩
  · exact q
  · cases hx
end
section
open Go.RowKit Go
set_option linter.unusedVariables false
set_option linter.unusedSimpArgs false
/-- a condition on the world that a call keeps which turns blocks of F alone -/
def KeptX (X : World → (Nat → Prop) → Prop) : Prop := ∀ {W W' : World} {F F' S : Nat → Prop}, X W F → Turns S W W' → (∀ j, S j → F j) → (∀ j, F' j → F j ∨ W.heap.size ≤ j) → X W' F'
def blkX (p : Nat) (o : Obj) : World → (Nat → Prop) → Prop := fun W F => W.heap[p]? = some o ∧ ¬ F p
theorem kept_blk {p : Nat} {o : Obj} : KeptX (blkX p o) := fun {W W' F F' S} h ht hs hf => by
  have hl : p < W.heap.size := (Array.getElem?_eq_some_iff.1 h.1).1
  exact ⟨(ht.block p hl (fun q => h.2 (hs _ q))).trans h.1, fun q => by
    rcases hf _ q with q | q
    · exact h.2 q
    · omega⟩
theorem kept_and {X Y : World → (Nat → Prop) → Prop} (hx : KeptX X) (hy : KeptX Y) : KeptX (fun W F => X W F ∧ Y W F) := fun h ht hs hf => ⟨hx h.1 ht hs hf, hy h.2 ht hs hf⟩
/-- leaves that came in: their numbers and sums -/
def lfL (k : Nat) (x : List Nat) : List Value := .int .i64 (k : Int) :: (dA x).toList
def lvX (lk o m : Nat) (ks : Nat → Nat) (xs : Nat → List Nat) : World → (Nat → Prop) → Prop := fun W F => (∀ j, j < m → W.rangeAt lk (o + j * 33) (lfL (ks j) (xs j))) ∧ ¬ F lk ∧ lk < W.heap.size
theorem kept_lv {lk o m : Nat} {ks : Nat → Nat} {xs : Nat → List Nat} : KeptX (lvX lk o m ks xs) := fun {W W' F F' S} h ht hs hf =>
  ⟨fun j hj => range_of (ht.block lk h.2.2 (fun q => h.2.1 (hs _ q))) (h.1 j hj), fun q => by
    rcases hf _ q with q | q
    · exact h.2.1 q
    · have := h.2.2; omega, Nat.lt_of_lt_of_le h.2.2 ht.size⟩
/-- the blocks that may turn -/
def puF (S' : Nat → Prop) (qg : Nat) (v : Value) (D : Nat) (q : Nat → Nat) : Nat → Prop := fun j => S' j ∨ j = qg ∨ v.ownBlock = some j ∨ ∃ d, d ≤ D ∧ j = q d
structure PuA (w0 : World) (T b g n D lb cap : Nat) (q : Nat → Nat) (S : Nat → Prop) (qg : Nat) (X : World → (Nat → Prop) → Prop) (F : Nat → Nat → List Nat) (v : Value) (es : List En) (t : Nat) (S' : Nat → Prop) (Tx sh : List (List Nat)) (W : World) : Prop where
  tr : TrB W T b n D lb cap q F
  bk : IsBook W b g S' Tx sh
  qu : Qu W qg v es t
  hp : Heap es es.length
  s1 : ∀ j, S' j → S j ∨ w0.heap.size ≤ j
  s2 : ∀ j, trS T lb D q j → ¬ S j ∧ j < w0.heap.size
  qn : w0.heap.size ≤ qg ∧ ∀ j, v.ownBlock = some j → w0.heap.size ≤ j
  qs : ¬ S' qg ∧ ∀ j, v.ownBlock = some j → ¬ S' j
  tu : Turns (fun j => S j ∨ ∃ d, d ≤ D ∧ j = q d) w0 W
  x : X W (puF S' qg v D q)
def Pu (w0 : World) (T b g n D lb cap : Nat) (q : Nat → Nat) (S : Nat → Prop) (qg : Nat) (X : World → (Nat → Prop) → Prop) (F : Nat → Nat → List Nat) (es : List En) (t : Nat) (W : World) : Prop :=
  ∃ v S' Tx sh, PuA w0 T b g n D lb cap q S qg X F v es t S' Tx sh W
section
variable {w0 : World} {T b g n D lb cap : Nat} {q : Nat → Nat} {S : Nat → Prop} {qg : Nat} {X Y : World → (Nat → Prop) → Prop} {F : Nat → Nat → List Nat} {v : Value} {es : List En} {t : Nat} {S' : Nat → Prop} {Tx sh : List (List Nat)} {W W' : World}
theorem PuA.st (h : PuA w0 T b g n D lb cap q S qg X F v es t S' Tx sh W) : ∀ j, trS T lb D q j → ¬ S' j := fun j hj c => by
  rcases h.s1 j c with c | c
  · exact (h.s2 j hj).1 c
  · have := (h.s2 j hj).2; omega
theorem Pu.next (hX : KeptX X) (h : Pu w0 T b g n D lb cap q S qg X F es t W) (hb : Below W.heap.size W W') : Pu w0 T b g n D lb cap q S qg X F es t W' := by
  obtain ⟨v, S', Tx, sh, h⟩ := h
  exact ⟨v, S', Tx, sh, h.tr.next hb, h.bk.below hb, h.qu.next hb, h.hp, h.s1, h.s2, h.qn, h.qs, h.tu.trans (S' := fun _ => False) (Turns.of_below hb) (fun _ _ c => c.elim), hX h.x (Turns.of_below (S := fun _ => False) hb) (fun _ c => c.elim) (fun _ c => .inl c)⟩
theorem Pu.lt (h : Pu w0 T b g n D lb cap q S qg X F es t W) : w0.heap.size ≤ W.heap.size := by
  obtain ⟨v, S', Tx, sh, h⟩ := h
  exact h.tu.size
theorem PuA.fresh (h : PuA w0 T b g n D lb cap q S qg X F v es t S' Tx sh W) {p : Nat} (hp : W.heap.size ≤ p) : ¬ puF S' qg v D q p := by
  rintro (c | c | c | ⟨d, hd, c⟩)
  · have := h.bk.sub c; omega
  · have := h.qu.dev.lt; omega
  · have := (h.qu.own.lt _ c).2; omega
  · have := (h.s2 p (.inr (.inr ⟨d, hd, c⟩))).2
    have := h.tu.size
    omega
/-- a block that came behind -/
theorem Pu.more (h : Pu w0 T b g n D lb cap q S qg X F es t W) (hX : KeptX X) {p : Nat} {o : Obj} (hb : Below W.heap.size W W') (hp : W.heap.size ≤ p) (ho : W'.heap[p]? = some o) : Pu w0 T b g n D lb cap q S qg (fun W F => X W F ∧ blkX p o W F) F es t W' := by
  have h2 := h.next hX hb
  obtain ⟨v, S', Tx, sh, h⟩ := h
  exact ⟨v, S', Tx, sh, h.tr.next hb, h.bk.below hb, h.qu.next hb, h.hp, h.s1, h.s2, h.qn, h.qs, h.tu.trans (S' := fun _ => False) (Turns.of_below hb) (fun _ _ c => c.elim), hX h.x (Turns.of_below (S := fun _ => False) hb) (fun _ c => c.elim) (fun _ c => .inl c), ho, h.fresh hp⟩
theorem Pu.less (h : Pu w0 T b g n D lb cap q S qg X F es t W) (hXY : ∀ W F, X W F → Y W F) : Pu w0 T b g n D lb cap q S qg Y F es t W := by
  obtain ⟨v, S', Tx, sh, h⟩ := h
  exact ⟨v, S', Tx, sh, h.tr, h.bk, h.qu, h.hp, h.s1, h.s2, h.qn, h.qs, h.tu, hXY _ _ h.x⟩
theorem Pu.x (h : Pu w0 T b g n D lb cap q S qg X F es t W) : ∃ G, X W G := by
  obtain ⟨v, S', Tx, sh, h⟩ := h
  exact ⟨_, h.x⟩
theorem Pu.tr (h : Pu w0 T b g n D lb cap q S qg X F es t W) : TrB W T b n D lb cap q F := by
  obtain ⟨v, S', Tx, sh, h⟩ := h
  exact h.tr
/-- a leaf is laid in -/
theorem Pu.leaf (h : Pu w0 T b g n D lb cap q S qg X F es t W) (hX : KeptX X) {i : Nat} {x : List Nat} (hi : i < 2 ^ D) (hx : IsDig x) : Pu w0 T b g n D lb cap q S qg X (setF F 0 i x) es t (W.setCells (q 0) (i * 32) (dA x).toList) := by
  obtain ⟨v, S', Tx, sh, h⟩ := h
  have h0 := h.s2 (q 0) (.inr (.inr ⟨0, Nat.zero_le _, rfl⟩))
  have ht : Turns (fun j => j = q 0) W (W.setCells (q 0) (i * 32) (dA x).toList) := ⟨os_setCells _ _ _ _, tape_setCells _ _ _ _, output_setCells _ _ _ _, by rw [size_setCells]; exact Nat.le_refl _, fun j _ hn => heap_setCells _ _ _ _ j hn⟩
  have e1 := h.qn
  refine ⟨v, S', Tx, sh, h.tr.set_ (Nat.zero_le _) (by rw [Nat.sub_zero]; exact hi) hx, h.bk.turns ht (fun j hj => hj ▸ h.st _ (.inr (.inr ⟨0, Nat.zero_le _, rfl⟩))), ⟨h.qu.dev.keep (ht.block _ h.qu.dev.lt (fun c => by omega)), h.qu.own.keep fun k hk => ht.block k (h.qu.own.lt k hk).2 (fun c => by have := e1.2 k hk; omega)⟩, h.hp, h.s1, h.s2, h.qn, h.qs, h.tu.trans ht (fun j _ c => .inr ⟨0, Nat.zero_le _, c⟩), hX h.x ht (fun j c => .inr (.inr (.inr ⟨0, Nat.zero_le _, c⟩))) (fun _ c => .inl c)⟩
/-- the queue has turned -/
theorem PuA.qed (h : PuA w0 T b g n D lb cap q S qg X F v es t S' Tx sh W) (hX : KeptX X) {es' : List En} {t' : Nat} (hq : Qed W qg v es' t' W') (hp : Heap es' es'.length) : Pu w0 T b g n D lb cap q S qg X F es' t' W' := by
  obtain ⟨ht, v', hq', hv⟩ := hq
  have e1 := h.qn
  have hvn : ∀ j, v'.ownBlock = some j → v.ownBlock = some j ∨ W.heap.size ≤ j := fun j hj => by
    rcases hv with hv | ⟨i, hi, hv⟩
    · exact .inl (hv ▸ hj)
    · rw [hv] at hj; injection hj with hj; subst hj; exact .inr hi
  refine ⟨v', S', Tx, sh, h.tr.keep ht (fun j hj c => ?_), h.bk.turns ht (fun j hj c => ?_), hq', hp, h.s1, h.s2, ⟨e1.1, fun j hj => ?_⟩, ⟨h.qs.1, fun j hj c => ?_⟩, ?_, ?_⟩
  · have := (h.s2 j hj).2
    rcases c with c | c
    · omega
    · have := e1.2 j c; omega
  · rcases hj with hj | hj
    · exact h.qs.1 (hj ▸ c)
    · exact h.qs.2 j hj c
  · rcases hvn j hj with c | c
    · exact e1.2 j c
    · have := h.tu.size; omega
  · rcases hvn j hj with k | k
    · exact h.qs.2 j k c
    · have := h.bk.sub c; omega
  · have hb : Below w0.heap.size W W' := ht.below h.tu.size (fun j hj => by
      rcases hj with hj | hj
      · omega
      · exact e1.2 j hj)
    refine ⟨ht.os.trans h.tu.os, ht.tape.trans h.tu.tape, ht.output.trans h.tu.output, Nat.le_trans h.tu.size ht.size, fun j hj hn => (hb.block j hj).trans (h.tu.block j hj hn)⟩
  · refine hX h.x ht (fun j c => ?_) (fun j c => ?_)
    · rcases c with c | c
      · exact .inr (.inl c)
      · exact .inr (.inr (.inl c))
    · rcases c with c | c | c | c
      · exact .inl (.inl c)
      · exact .inl (.inr (.inl c))
      · exact (hvn j c).imp (fun k => .inr (.inr (.inl k))) id
      · exact .inl (.inr (.inr (.inr c)))
theorem Pu.push (h : Pu w0 T b g n D lb cap q S qg X F es t W) (hX : KeptX X) (l m : Nat) (hm : es.length + 1 ≤ 1000000000) (ht : t + 1 ≤ 1000000000) :
    Calls Tryz.prog 34 #[.pointer (some ⟨qg, 0, none⟩), .slice (some ⟨W.heap.size, 0, none⟩) 1 1] (W.alloc (.cells #[.int .i64 (l : Int), .int .i64 (m : Int)] 61))
      fun e W' => e = .returned (.tuple #[]) ∧ ∃ es', es'.Perm (⟨(l : Int), (m : Int), t⟩ :: es) ∧ Pu w0 T b g n D lb cap q S qg X F es' (t + 1) W' := by
  have hb : Below W.heap.size W (W.alloc (.cells #[.int .i64 (l : Int), .int .i64 (m : Int)] 61)) := (Below.refl _ _).alloc (Nat.le_refl _) _
  have h2 := h.next hX hb
  have hpb := heap_alloc_new W (.cells #[.int .i64 (l : Int), .int .i64 (m : Int)] 61)
  obtain ⟨v0, S0, Tx0, sh0, h0⟩ := h
  have hf := h0.fresh (Nat.le_refl _)
  have h1 : PuA w0 T b g n D lb cap q S qg X F v0 es t S0 Tx0 sh0 (W.alloc (.cells #[.int .i64 (l : Int), .int .i64 (m : Int)] 61)) :=
    ⟨h0.tr.next hb, h0.bk.below hb, h0.qu.next hb, h0.hp, h0.s1, h0.s2, h0.qn, h0.qs, h0.tu.trans (S' := fun _ => False) (Turns.of_below hb) (fun _ _ c => c.elim), hX h0.x (Turns.of_below (S := fun _ => False) hb) (fun _ c => c.elim) (fun _ c => .inl c)⟩
  have hts : TS (W.alloc (.cells #[.int .i64 (l : Int), .int .i64 (m : Int)] 61)) (some ⟨W.heap.size, 0, none⟩) 1 1 [((l : Int), (m : Int))] :=
    ⟨rfl, Nat.le_refl _, by omega, fun _ => ⟨W.heap.size, 0, rfl, by simp, fun i hi => by
      obtain rfl : i = 0 := by omega
      exact ⟨blk_cell hpb 0, blk_cell hpb 1⟩⟩⟩
  refine (push_any qg t 1 1 _ v0 es [((l : Int), (m : Int))] _ h1.qu hts (fun _ ad had => by
    injection had with had
    subst had
    exact ⟨fun c => hf (.inr (.inl c)), fun c => hf (.inr (.inr (.inl c)))⟩) hm ht).mono ?_
  rintro e W' ⟨he, hq⟩
  have hp := pushN_heap [((l : Int), (m : Int))] es t h0.hp
  exact ⟨he, _, hp.2.trans (List.perm_append_comm (l₁ := es)), h1.qed hX hq hp.1⟩
theorem Pu.pop (h : Pu w0 T b g n D lb cap q S qg X F es t W) (hX : KeptX X) (hl : 0 < es.length) (hm : es.length ≤ 1000000000) :
    Calls Tryz.prog 35 #[.pointer (some ⟨qg, 0, none⟩)] W fun e W' => ∃ (c : En) (es' : List En), e = .returned (.tuple #[.agg #[.int .i64 c.n, .int .i64 c.m], .bool true]) ∧ es.Perm (c :: es') ∧ Pu w0 T b g n D lb cap q S qg X F es' t W' := by
  obtain ⟨v, S', Tx, sh, h⟩ := h
  refine (pop_any qg t v es W h.qu hl hm).mono ?_
  rintro e W' ⟨he, hq⟩
  obtain ⟨p1, p2, p3, p4⟩ := pop_heap es h.hp hl
  exact ⟨ea es 0, popF es, by rw [he, p2], p3, h.qed hX hq p1⟩
theorem Pu.pop0 (h : Pu w0 T b g n D lb cap q S qg X F [] t W) (hX : KeptX X) :
    Calls Tryz.prog 35 #[.pointer (some ⟨qg, 0, none⟩)] W fun e W' => e = .returned (.tuple #[.agg #[.int .i64 0, .int .i64 0], .bool false]) ∧ Pu w0 T b g n D lb cap q S qg X F [] t W' := by
  have h2 := h
  obtain ⟨v, S', Tx, sh, h⟩ := h
  refine (pop_none qg t v W h.qu).mono ?_
  rintro e W' ⟨he, hb⟩
  exact ⟨he, h2.next hX hb⟩
theorem Pu.peek (h : Pu w0 T b g n D lb cap q S qg X F es t W) (hX : KeptX X) (hl : 0 < es.length) (hm : es.length ≤ 1000000000) :
    Calls Tryz.prog 36 #[.pointer (some ⟨qg, 0, none⟩)] W fun e W' => ∃ c ∈ es, e = .returned (.tuple #[.agg #[.int .i64 c.n, .int .i64 c.m], .bool true]) ∧ Pu w0 T b g n D lb cap q S qg X F es t W' := by
  have h2 := h
  obtain ⟨v, S', Tx, sh, h⟩ := h
  refine (peek_any qg t v es W h.qu hl hm).mono ?_
  rintro e W' ⟨he, hb⟩
  exact ⟨ea es 0, ea_mem es 0 hl, he, h2.next hX hb⟩
theorem Pu.peek0 (h : Pu w0 T b g n D lb cap q S qg X F [] t W) (hX : KeptX X) :
    Calls Tryz.prog 36 #[.pointer (some ⟨qg, 0, none⟩)] W fun e W' => e = .returned (.tuple #[.agg #[.int .i64 0, .int .i64 0], .bool false]) ∧ Pu w0 T b g n D lb cap q S qg X F [] t W' := by
  have h2 := h
  obtain ⟨v, S', Tx, sh, h⟩ := h
  refine (peek_none qg t v W h.qu).mono ?_
  rintro e W' ⟨he, hb⟩
  exact ⟨he, h2.next hX hb⟩
/-- Pop, whatever there is -/
theorem Pu.popU (h : Pu w0 T b g n D lb cap q S qg X F es t W) (hX : KeptX X) (hm : es.length ≤ 1000000000) :
    Calls Tryz.prog 35 #[.pointer (some ⟨qg, 0, none⟩)] W fun e W' => ∃ (a c : Int) (ok : Bool), e = .returned (.tuple #[.agg #[.int .i64 a, .int .i64 c], .bool ok]) ∧
      ((ok = false ∧ es = [] ∧ Pu w0 T b g n D lb cap q S qg X F [] t W') ∨ (ok = true ∧ ∃ (k : Nat) (es' : List En), es.Perm (⟨a, c, k⟩ :: es') ∧ Pu w0 T b g n D lb cap q S qg X F es' t W')) := by
  by_cases hl : 0 < es.length
  · refine (h.pop hX hl hm).mono ?_
    rintro e W' ⟨c, es', he, hp, hq⟩
    exact ⟨c.n, c.m, true, he, .inr ⟨rfl, c.t, es', hp, hq⟩⟩
  · have h0 : es = [] := List.length_eq_zero_iff.1 (by omega)
    subst h0
    refine (h.pop0 hX).mono ?_
    rintro e W' ⟨he, hq⟩
    exact ⟨0, 0, false, he, .inl ⟨rfl, rfl, hq⟩⟩
/-- Peek, whatever there is -/
theorem Pu.peekU (h : Pu w0 T b g n D lb cap q S qg X F es t W) (hX : KeptX X) (hm : es.length ≤ 1000000000) :
    Calls Tryz.prog 36 #[.pointer (some ⟨qg, 0, none⟩)] W fun e W' => ∃ (a c : Int) (ok : Bool), e = .returned (.tuple #[.agg #[.int .i64 a, .int .i64 c], .bool ok]) ∧
      (ok = true → ∃ k ∈ es, k.n = a ∧ k.m = c) ∧ Pu w0 T b g n D lb cap q S qg X F es t W' := by
  by_cases hl : 0 < es.length
  · refine (h.peek hX hl hm).mono ?_
    rintro e W' ⟨c, hc, he, hq⟩
    exact ⟨c.n, c.m, true, he, fun _ => ⟨c, hc, rfl, rfl⟩, hq⟩
  · have h0 : es = [] := List.length_eq_zero_iff.1 (by omega)
    subst h0
    refine (h.peek0 hX).mono ?_
    rintro e W' ⟨he, hq⟩
    exact ⟨0, 0, false, he, (fun c => (by cases c)), hq⟩
theorem Pu.reck (h : Pu w0 T b g n D lb cap q S qg X F es t W) (hX : KeptX X) (d i : Nat) (hd : d + 1 ≤ D) (hi : i < 2 ^ (D - (d + 1))) :
    Calls Tryz.prog 37 #[.pointer (some ⟨T, 0, none⟩), .agg #[.int .i64 ((d + 1 : Nat) : Int), .int .i64 (i : Int)]] W fun e W' => e = .returned (.tuple #[]) ∧
      Pu w0 T b g n D lb cap q S qg X (setF F (d + 1) i (Sha.sum (nodeT (d + 1) i (F d (2 * i)) (F d (2 * i + 1))))) es t W' := by
  obtain ⟨v, S', Tx, sh, h⟩ := h
  refine (reckon_any T b g n D lb cap d i q F S' Tx sh W h.tr h.bk h.st hd hi).mono ?_
  rintro e W' ⟨he, htr, hbk, ht⟩
  have e1 := h.qn
  have hqd := (h.s2 (q (d + 1)) (.inr (.inr ⟨d + 1, hd, rfl⟩))).2
  refine ⟨he, v, _, _, _, htr, hbk, ⟨h.qu.dev.keep (ht.block _ h.qu.dev.lt (fun c => ?_)), h.qu.own.keep fun k hk => ht.block k (h.qu.own.lt k hk).2 (fun c => ?_)⟩, h.hp, fun j hj => ?_, h.s2, h.qn, ⟨fun c => ?_, fun j hj c => ?_⟩, ?_, ?_⟩
  · rcases c with c | c
    · exact h.qs.1 c
    · omega
  · rcases c with c | c
    · exact h.qs.2 k hk c
    · have := e1.2 k hk; omega
  · rcases hj with hj | hj
    · exact h.s1 j hj
    · have := h.tu.size; exact .inr (by omega)
  · rcases c with c | c
    · exact h.qs.1 c
    · have := h.qu.dev.lt; omega
  · rcases c with c | c
    · exact h.qs.2 j hj c
    · have := (h.qu.own.lt _ hj).2; omega
  · refine h.tu.trans ht (fun j hj c => ?_)
    rcases c with c | c
    · rcases h.s1 j c with k | k
      · exact .inl k
      · omega
    · exact .inr ⟨d + 1, hd, c⟩
  · refine hX h.x ht (fun j c => ?_) (fun j c => ?_)
    · rcases c with c | c
      · exact .inl c
      · exact .inr (.inr (.inr ⟨d + 1, hd, c⟩))
    · rcases c with c | c | c | c
      · rcases c with c | c
        · exact .inl (.inl c)
        · exact .inr c.1
      · exact .inl (.inr (.inl c))
      · exact .inl (.inr (.inr (.inl c)))
      · exact .inl (.inr (.inr (.inr c)))
theorem Pu.setP {lk o m p : Nat} {ks : Nat → Nat} {xs : Nat → List Nat} {cs cs' : Array Value} {ty : TypeId} (h : Pu w0 T b g n D lb cap q S qg (fun W F => lvX lk o m ks xs W F ∧ blkX p (.cells cs ty (0, 0)) W F) F es t W) (hp : w0.heap.size ≤ p) (hlk : lk ≠ p) :
    Pu w0 T b g n D lb cap q S qg (fun W F => lvX lk o m ks xs W F ∧ blkX p (.cells cs' ty (0, 0)) W F) F es t (W.setRow p cs') := by
  obtain ⟨v, S', Tx, sh, h⟩ := h
  obtain ⟨hlv, hb, hnf⟩ := h.x
  have hsz : (W.setRow p cs').heap.size = W.heap.size := by simp [World.setRow]
  have ht : Turns (fun j => j = p) W (W.setRow p cs') := ⟨rfl, rfl, rfl, by omega, fun j _ hn => setRow_other W p j _ (fun e => hn e)⟩
  have e1 := h.qn
  refine ⟨v, S', Tx, sh, h.tr.keep ht (fun j hj c => by have := (h.s2 j hj).2; omega), h.bk.turns ht (fun j hj c => hnf (.inl (hj ▸ c))), ⟨h.qu.dev.keep (ht.block _ h.qu.dev.lt (fun c => hnf (.inr (.inl c.symm)))), h.qu.own.keep fun k hk => ht.block k (h.qu.own.lt k hk).2 (fun c => hnf (.inr (.inr (.inl (c ▸ hk)))))⟩, h.hp, h.s1, h.s2, h.qn, h.qs, ?_, ⟨fun j hj => range_of (setRow_other W p lk _ (fun e => hlk e)) (hlv.1 j hj), hlv.2.1, by rw [hsz]; exact hlv.2.2⟩, setRow_heap _ _ _ cs' _ _ hb, hnf⟩
  have hbl : Below w0.heap.size W (W.setRow p cs') := ht.below h.tu.size (fun j hj => by omega)
  exact ⟨h.tu.os, h.tu.tape, h.tu.output, by rw [hsz]; exact h.tu.size, fun j hj hn => (hbl.block j hj).trans (h.tu.block j hj hn)⟩
end
end
section
open Go.RowKit Go
set_option linter.unusedVariables false
set_option linter.unusedSimpArgs false
abbrev LfT : TypeId := 40
def lfZ (i : Nat) : Value := if i = 0 then .int .i64 0 else .int .u8 0
theorem zero_lf (w : World) : (zeroValue LfT).run Tryz.prog w = .ok (.agg (rowV lfZ 33)) w := by kernel_rfl
theorem info_lf : (Tryz.prog.info? LfT).map (·.size) = some 33 := by kernel_rfl
theorem lfL_len (k : Nat) (x : List Nat) : (lfL k x).length = 33 := by simp [lfL, rowV_size]
theorem lfL_one (k : Nat) (x : List Nat) : ∀ v ∈ lfL k x, v.oneCell' = true := by
  intro v hv
  rcases List.mem_cons.1 hv with rfl | hv
  · rfl
  · exact (Array.all_eq_true_iff_forall_mem.1 (dA_one x)) v (by simpa using hv)
/-- the first j leaves are laid in -/
def leafF (F : Nat → Nat → List Nat) (ks : Nat → Nat) (xs : Nat → List Nat) : Nat → Nat → Nat → List Nat
  | 0 => F
  | j + 1 => setF (leafF F ks xs j) 0 (ks j) (xs j)
theorem leafF_up (F : Nat → Nat → List Nat) (ks : Nat → Nat) (xs : Nat → List Nat) (d i : Nat) : ∀ j, leafF F ks xs j (d + 1) i = F (d + 1) i
  | 0 => rfl
  | j + 1 => by rw [leafF, setF_ne _ _ (fun c => by omega)]; exact leafF_up F ks xs d i j
theorem leafF_far (F : Nat → Nat → List Nat) (ks : Nat → Nat) (xs : Nat → List Nat) (i : Nat) : ∀ j, (∀ k, k < j → ks k ≠ i) → leafF F ks xs j 0 i = F 0 i
  | 0, _ => rfl
  | j + 1, h => by rw [leafF, setF_ne _ _ (fun c => h j (by omega) c.2.symm)]; exact leafF_far F ks xs i j (fun k hk => h k (by omega))
def Es1 (ks : Nat → Nat) (j : Nat) (es : List En) : Prop := (∀ e ∈ es, ∃ i, i < j ∧ e.n = 0 ∧ e.m = (ks i : Int)) ∧ ∀ i, i < j → ∃ e ∈ es, e.n = 0 ∧ e.m = (ks i : Int)
theorem Es1.push {ks : Nat → Nat} {j t : Nat} {es es' : List En} (h : Es1 ks j es) (hp : es'.Perm (⟨0, (ks j : Int), t⟩ :: es)) : Es1 ks (j + 1) es' := by
  refine ⟨fun e he => ?_, fun i hi => ?_⟩
  · rcases List.mem_cons.1 (hp.mem_iff.1 he) with rfl | he
    · exact ⟨j, by omega, rfl, rfl⟩
    · obtain ⟨i, h1, h2⟩ := h.1 e he
      exact ⟨i, by omega, h2⟩
  · by_cases hij : i = j
    · subst hij
      exact ⟨_, hp.mem_iff.2 (List.mem_cons_self ..), rfl, rfl⟩
    · obtain ⟨e, h1, h2⟩ := h.2 i (by omega)
      exact ⟨e, hp.mem_iff.2 (List.mem_cons_of_mem _ h1), h2⟩
theorem Es1.good {ks : Nat → Nat} {xs : Nat → List Nat} {m D : Nat} {es : List En} {F : Nat → Nat → List Nat} (h : Es1 ks m es) (hg : ∀ d i, d + 1 ≤ D → i < 2 ^ (D - (d + 1)) → Right F d i ∨ ∃ j, j < m ∧ i = ks j / 2 ^ (d + 1)) : Good D (leafF F ks xs m) es := fun d i hd hi => by
  by_cases hq : ∃ j, j < m ∧ i = ks j / 2 ^ (d + 1)
  · obtain ⟨j, hj, hij⟩ := hq
    obtain ⟨e, he, h1, h2⟩ := h.2 j hj
    refine .inr ⟨e, he, by rw [h1]; simp, ?_⟩
    rw [h1, h2, hij]; simp
  · rcases hg d i hd hi with r | r
    · left
      unfold Right at r ⊢
      have hf : ∀ x, leafF F ks xs m d x = F d x ∨ (d = 0 ∧ ∃ j, j < m ∧ ks j = x) := fun x => by
        cases d with
        | succ d => exact .inl (leafF_up F ks xs d x m)
        | zero =>
          by_cases hx : ∃ j, j < m ∧ ks j = x
          · exact .inr ⟨rfl, hx⟩
          · exact .inl (leafF_far F ks xs x m (fun k hk c => hx ⟨k, hk, c⟩))
      have e1 : leafF F ks xs m d (2 * i) = F d (2 * i) := by
        rcases hf (2 * i) with c | ⟨rfl, j, hj, c⟩
        · exact c
        · exact absurd ⟨j, hj, by rw [c]; omega⟩ hq
      have e2 : leafF F ks xs m d (2 * i + 1) = F d (2 * i + 1) := by
        rcases hf (2 * i + 1) with c | ⟨rfl, j, hj, c⟩
        · exact c
        · exact absurd ⟨j, hj, by rw [c]; omega⟩ hq
      rw [leafF_up, e1, e2, r]
    · exact absurd r hq
theorem Es1.fits {ks : Nat → Nat} {m D : Nat} {es : List En} (h : Es1 ks m es) (hk : ∀ j, j < m → ks j < 2 ^ D) : ∀ e ∈ es, FitE D e := fun e he => by
  obtain ⟨i, h1, h2, h3⟩ := h.1 e he
  refine ⟨by rw [h2]; exact Int.le_refl _, by rw [h2]; simp, by rw [h3]; exact Int.natCast_nonneg _, ?_⟩
  rw [h2, h3]; simpa using hk i h1
theorem weight_le {D : Nat} (es : List En) : weight D es ≤ es.length * (D + 1) := by
  induction es with
  | nil => simp [weight]
  | cons e es ih => rw [weight_cons, List.length_cons, Nat.add_mul]; omega
/-- what put leaves -/
def PutTo (w : World) (T b g n D lb cap m : Nat) (q : Nat → Nat) (F : Nat → Nat → List Nat) (ks : Nat → Nat) (xs : Nat → List Nat) (S : Nat → Prop) (e : Ending) (w' : World) : Prop :=
  ∃ (c : Nat) (F' : Nat → Nat → List Nat) (S' : Nat → Prop) (Tx sh : List (List Nat)), e = .returned (.int .i64 (c : Int)) ∧ TrB w' T b n D lb cap q F' ∧ (∀ d i, d + 1 ≤ D → i < 2 ^ (D - (d + 1)) → Right F' d i) ∧ (∀ i, F' 0 i = leafF F ks xs m 0 i) ∧
    IsBook w' b g S' Tx sh ∧ (∀ j, S' j → S j ∨ w.heap.size ≤ j) ∧ (∀ j, trS T lb D q j → ¬ S' j) ∧ Turns (fun j => S j ∨ ∃ d, d ≤ D ∧ j = q d) w w'
def Lp2 (w : World) (T b g n D lb cap : Nat) (q : Nat → Nat) (S : Nat → Prop) (qg : Nat) (X : World → (Nat → Prop) → Prop) (f0 : Nat → List Nat) (gk : Nat) (v9 v10 v6 : Value) (W : World) : Prop :=
  ∃ c : Nat, v6 = .int .i64 (c : Int) ∧ c + gk ≤ 100000 ∧ ((v10 = .bool false ∧ (∃ a, v9 = .pointer a) ∧ ∃ t F', Pu w T b g n D lb cap q S qg X F' [] t W ∧ Good D F' [] ∧ ∀ i, F' 0 i = f0 i) ∨
    (v10 = .bool true ∧ ∃ (p l i tt t : Nat) (es : List En) (F' : Nat → Nat → List Nat), v9 = .pointer (some ⟨p, 0, none⟩) ∧ Pu w T b g n D lb cap q S qg (fun W F => X W F ∧ blkX p (.cells #[.int .i64 (l : Int), .int .i64 (i : Int)] 61 (0, 0)) W F) F' es t W ∧ Good D F' (⟨(l : Int), (i : Int), tt⟩ :: es) ∧
      FitE D ⟨(l : Int), (i : Int), tt⟩ ∧ (∀ e ∈ es, FitE D e) ∧ (∀ i, F' 0 i = f0 i) ∧ weight D (⟨(l : Int), (i : Int), tt⟩ :: es) ≤ gk ∧ t + gk ≤ 100000))
def Mid2 (w : World) (T b g n D lb cap : Nat) (q : Nat → Nat) (S : Nat → Prop) (qg : Nat) (X : World → (Nat → Prop) → Prop) (f0 : Nat → List Nat) (gk p l i : Nat) (v6 : Value) (W : World) : Prop :=
  ∃ c : Nat, v6 = .int .i64 (c : Int) ∧ c + gk ≤ 100001 ∧ ∃ (t : Nat) (es : List En) (F' : Nat → Nat → List Nat), Pu w T b g n D lb cap q S qg (fun W F => X W F ∧ blkX p (.cells #[.int .i64 (l : Int), .int .i64 (i : Int)] 61 (0, 0)) W F) F' es t W ∧ Good D F' es ∧
    (∀ e ∈ es, FitE D e) ∧ (∀ i, F' 0 i = f0 i) ∧ weight D es + 1 ≤ gk ∧ t + gk ≤ 100001
def Rk2 (w : World) (T b g n D lb cap : Nat) (q : Nat → Nat) (S : Nat → Prop) (qg : Nat) (X : World → (Nat → Prop) → Prop) (f0 : Nat → List Nat) (c p l i tt t : Nat) (es : List En) (v6 : Value) (W : World) : Prop :=
  ∃ c' : Nat, v6 = .int .i64 (c' : Int) ∧ c' ≤ c + 1 ∧ ∃ F' : Nat → Nat → List Nat, Pu w T b g n D lb cap q S qg (fun W F => X W F ∧ blkX p (.cells #[.int .i64 (l : Int), .int .i64 (i : Int)] 61 (0, 0)) W F) F' es t W ∧
    (∀ d i', d + 1 ≤ D → i' < 2 ^ (D - (d + 1)) → (d + 1, i') ≠ (l, i) → Right F' d i' ∨ Dirt (⟨(l : Int), (i : Int), tt⟩ :: es) (d + 1) i') ∧ (∀ d, l = d + 1 → Right F' d i) ∧ ∀ i', F' 0 i' = f0 i'
theorem eql_pl (a b l i : Int) (w : World) : (binOp .eql 61 (.agg #[.int .i64 a, .int .i64 b]) (.agg #[.int .i64 l, .int .i64 i])).run Tryz.prog w = .ok (.bool (a == l && b == i)) w := by
  have hf : (Tryz.prog.fieldsOf 61).toList.map (fun f => (f.name, f.type, f.offset)) = [("level", 3, 0), ("i", 3, 1)] := by kernel_rfl
  rw [run_eql_struct, show (10000 : Nat) = 9999 + 1 from rfl, run_equalIn_agg w 9999 61 _ _ (by kernel_rfl) (by kernel_rfl)]
  generalize (Tryz.prog.fieldsOf 61).toList = fs at *
  have e1 : (Op.equalIn 9999 3 (.int .i64 a) (.int .i64 l)).run Tryz.prog w = .ok (a == l) w := by
    rw [show (9999 : Nat) = 9998 + 1 from rfl, run_equalIn_int w 9998 3 .i64 .i64 _ _ Tryz.underlying3]
  have e2 : (Op.equalIn 9999 3 (.int .i64 b) (.int .i64 i)).run Tryz.prog w = .ok (b == i) w := by
    rw [show (9999 : Nat) = 9998 + 1 from rfl, run_equalIn_int w 9998 3 .i64 .i64 _ _ Tryz.underlying3]
  have p1 : ∀ x y : Int, (part 3 #[.int .i64 x, .int .i64 y] 0).run Tryz.prog w = .ok (.int .i64 x) w := fun x y => by kernel_rfl
  have p2 : ∀ x y : Int, (part 3 #[.int .i64 x, .int .i64 y] 1).run Tryz.prog w = .ok (.int .i64 y) w := fun x y => by kernel_rfl
  rcases fs with _ | ⟨f1, _ | ⟨f2, _ | ⟨f3, r⟩⟩⟩
  · simp at hf
  · simp at hf
  · simp only [List.map_cons, List.map_nil, List.cons.injEq, Prod.mk.injEq, and_true] at hf
    obtain ⟨⟨n1, t1, o1⟩, n2, t2, o2⟩ := hf
    cases h1 : (a == l) <;> cases h2 : (b == i) <;> simp [Op.eqFields, n1, n2, t1, t2, o1, o2, Sem.run_bind, e1, e2, p1, p2, h1, h2, Result.andThen]
  · simp at hf
set_option maxHeartbeats 8000000 in
set_option maxRecDepth 100000 in
theorem tput_any (T b g n D lb cap lk o m cL : Nat) (q : Nat → Nat) (F : Nat → Nat → List Nat) (ks : Nat → Nat) (xs : Nat → List Nat) (S : Nat → Prop) (Tx sh : List (List Nat)) (w : World) (h : TrB w T b n D lb cap q F) (hbk : IsBook w b g S Tx sh) (hap : ∀ j, trS T lb D q j → ¬ S j)
    (hlv : ∀ j, j < m → w.rangeAt lk (o + j * 33) (lfL (ks j) (xs j))) (hlk : lk < w.heap.size ∧ ¬ S lk ∧ ∀ d, d ≤ D → lk ≠ q d) (hm : m ≤ 1024) (hmc : m ≤ cL) (hks : ∀ j, j < m → ks j < 2 ^ D) (hxs : ∀ j, j < m → IsDig (xs j))
    (hg : ∀ d i, d + 1 ≤ D → i < 2 ^ (D - (d + 1)) → Right F d i ∨ ∃ j, j < m ∧ i = ks j / 2 ^ (d + 1)) :
    Calls Tryz.prog 16 #[.pointer (some ⟨T, 0, none⟩), .slice (some ⟨lk, o, none⟩) m cL] w (PutTo w T b g n D lb cap m q F ks xs S) := by
  have HNQ := Lib.hid (newq_any w)
  have hzp : ∀ W, (zeroValue 61).run Tryz.prog W = .ok (.agg #[.int .i64 0, .int .i64 0]) W := fun _ => by kernel_rfl
  obtain ⟨zz, hzz⟩ : ∃ z, z = rowV lfZ 33 := ⟨_, rfl⟩
  have hzo := zero_lf
  rw [← hzz] at hzo
  have HZZ : Hid (zz.size = 33) := Lib.hid (by rw [hzz, rowV_size])
  have HH := Lib.hid h
  have HBK := Lib.hid hbk
  have HAP := Lib.hid hap
  have HLV := Lib.hid hlv
  have HLK := Lib.hid hlk
  have HKS := Lib.hid hks
  have HXS := Lib.hid hxs
  have HG := Lib.hid hg
  have hDD := h.D5
  have HD10 : Hid (D ≤ 10) := Lib.hid hDD
  have hcapp := h.capD
  clear h hbk hap hlv hlk hks hxs hg hzz
  go_enter Tryz.func16, Tryz.ntmps16
  go_wp2_with fail
  refine HNQ.out.mono ?_
  rintro e w1 ⟨rfl, hqu, hb1⟩
  have hst : Pu w T b g n D lb cap q S w.heap.size (lvX lk o m ks xs) F [] 0 w1 := ⟨.slice none 0 0, S, Tx, sh, HH.out.next hb1, HBK.out.below hb1, hqu, fun k _ hk => by simp at hk, fun j hj => .inl hj, fun j hj => ⟨HAP.out j hj, HH.out.lt hj⟩, ⟨Nat.le_refl _, fun j hj => by simp [Value.ownBlock] at hj⟩, ⟨fun c => by have := HBK.out.sub c; omega, fun j hj => by simp [Value.ownBlock] at hj⟩, Turns.of_below hb1,
    ⟨fun j hj => range_of (hb1.block _ HLK.out.1) (HLV.out j hj), fun c => by
      rcases c with c | c | c | ⟨d, hd, c⟩
      · exact HLK.out.2.1 c
      · have := HLK.out.1; omega
      · simp [Value.ownBlock] at c
      · exact HLK.out.2.2 d hd c, Nat.lt_of_lt_of_le HLK.out.1 hb1.size⟩⟩
  have HST := Lib.hid hst
  obtain ⟨qg, hqg⟩ : ∃ qg, qg = w.heap.size := ⟨_, rfl⟩
  rw [← hqg] at HST
  rw [← hqg]
  clear hst hqu hb1 hqg HNQ
  go_wp2_with fail
  go_loopg [16] m (fun gk iv W => ∃ (j : Nat) (es : List En), iv = .int .i64 (j : Int) ∧ j + gk = m ∧ Pu w T b g n D lb cap q S qg (lvX lk o m ks xs) (leafF F ks xs j) es j W ∧ es.length = j ∧ Es1 ks j es)
  case atStart => exact ⟨0, [], rfl, by omega, HST.out, rfl, ⟨fun e he => (by cases he), fun i hi => by omega⟩⟩
  case round =>
    obtain ⟨j, es, rfl, hjm, hpu, hel, hes⟩ := hrel
    have HPU := Lib.hid hpu
    have HES := Lib.hid hes
    have HEL := Lib.hid hel
    clear hpu hes hel HST
    by_cases hlt : j < m
    · have hxr := HPU.out.x
      obtain ⟨G0, hrg, _, _⟩ := hxr
      obtain ⟨cs, hcs⟩ : ∃ cs, cs = lfL (ks j) (xs j) := ⟨_, rfl⟩
      have HCS := Lib.hid hcs
      have HRG : Hid (wr.rangeAt lk (o + j * 33) cs) := Lib.hid (by rw [hcs]; exact hrg j hlt)
      have HIL : Hid ((Tryz.prog.info? LfT).map (·.size) = some cs.length) := Lib.hid (by rw [hcs, lfL_len]; exact info_lf)
      have HIA : Hid ((Tryz.prog.info? LfT).map (·.size) = some cs.toArray.size) := Lib.hid (by rw [List.size_toArray, hcs, lfL_len]; exact info_lf)
      have HSZ8 : Hid (zz.size = cs.toArray.size) := Lib.hid (HZZ.out.trans (by rw [List.size_toArray, hcs, lfL_len]))
      have HON8 : Hid (cs.toArray.all (·.oneCell') = true) := Lib.hid (by rw [hcs]; exact all_oneCell_toArray (lfL_one _ _))
      have ho8 := heap_alloc_new wr (.cells zz LfT)
      have HO8 := Lib.hid ho8
      obtain ⟨V8, hV8⟩ : ∃ V8, V8 = (wr.alloc (.cells zz LfT)).setRow wr.heap.size cs.toArray := ⟨_, rfl⟩
      have hb8 : Below wr.heap.size wr V8 := by rw [hV8]; exact below_setRow (g := wr.heap.size) ((Below.refl _ _).alloc (Nat.le_refl _) _) (Nat.le_refl _) cs.toArray
      have hp8 : V8.heap[wr.heap.size]? = some (.cells cs.toArray LfT (0, 0)) := by rw [hV8]; exact setRow_heap _ _ _ cs.toArray _ _ ho8
      have HV8 := Lib.hid hV8
      have hpu8 := HPU.out.more kept_lv hb8 (Nat.le_refl _) hp8
      obtain ⟨p8, hp8e⟩ : ∃ p, p = wr.heap.size := ⟨_, rfl⟩
      have HP8E := Lib.hid hp8e
      rw [← hp8e] at hpu8 hp8
      have htr8 := hpu8.tr
      have HPU8 := Lib.hid hpu8
      have HK2 := Lib.hid htr8.c2
      have HKR : Hid (V8.cell? ⟨lb, 0, none⟩ = some (.slice (some ⟨q 0, 0, none⟩) (2 ^ D) (2 ^ D))) := Lib.hid (by have := htr8.row 0 (Nat.zero_le _); rw [Nat.sub_zero] at this; exact this)
      have HP80 : Hid (V8.cell? ⟨p8, 0, none⟩ = some (.int .i64 (ks j : Int))) := Lib.hid ((blk_cell hp8 0).trans (by rw [hcs]; rfl))
      obtain ⟨xd, hxd⟩ : ∃ z, z = dA (xs j) := ⟨_, rfl⟩
      have hxs2 : xd.size = 32 := by rw [hxd, rowV_size]
      have HIX := Lib.hid (info_dig hxs2)
      have HOX : Hid (xd.all (·.oneCell') = true) := Lib.hid (by rw [hxd]; exact dA_one _)
      have HXR : Hid (∀ W, Same4 V8 T lb p8 p8 W → W.rangeAt p8 1 xd.toList) := Lib.hid (fun W hW => range_of hW.2.2.1 (fun k v hv => by
        rw [blk_cell hp8, hcs, List.getElem?_toArray, lfL, Nat.add_comm 1 k, List.getElem?_cons_succ, ← hxd]; exact hv))
      have hkl := HKS.out j hlt
      have hk0 : (0 : Int) ≤ (ks j : Int) := by omega
      have hkl2 : ((ks j : Nat) : Int) < 2 ^ D := by exact_mod_cast hkl
      have HTH : Hid (V8.drew.there (q 0) (ks j * 32) xd.size) := Lib.hid (by rw [hxs2]; exact htr8.there (d := 0) (Nat.zero_le _) (by rw [Nat.sub_zero]; exact hkl))
      have HNE5 : Hid (T ≠ q 0 ∧ lb ≠ q 0 ∧ p8 ≠ q 0 ∧ p8 ≠ q 0) := Lib.hid ⟨fun c => (htr8.nT 0 (Nat.zero_le _)).1 c.symm, fun c => (htr8.nT 0 (Nat.zero_le _)).2 c.symm, fun c => by have := HPU.out.tr.lt (j := q 0) (.inr (.inr ⟨0, Nat.zero_le _, rfl⟩)); omega, fun c => by have := HPU.out.tr.lt (j := q 0) (.inr (.inr ⟨0, Nat.zero_le _, rfl⟩)); omega⟩
      have HPU9 : Hid (Pu w T b g n D lb cap q S qg (fun W F => lvX lk o m ks xs W F ∧ blkX p8 (.cells cs.toArray LfT (0, 0)) W F) (leafF F ks xs (j + 1)) es j (V8.drew.setCells (q 0) (ks j * 32) xd.toList)) := Lib.hid (by
        rw [hxd]
        exact (hpu8.next (kept_and kept_lv kept_blk) (Below.refl _ _).drew).leaf (kept_and kept_lv kept_blk) hkl (HXS.out j hlt))
      have hj10 : j + 1 ≤ 1000000000 := by omega
      have HPUSH := Lib.hid (HPU9.out.push (kept_and kept_lv kept_blk) 0 (ks j) (by have := HEL.out; omega) hj10)
      rw [show ((0 : Nat) : Int) = 0 from rfl] at HPUSH
      have hk9 : (V8.drew.setCells (q 0) (ks j * 32) xd.toList).cell? ⟨p8, 0, none⟩ = some (.int .i64 (ks j : Int)) := by
        obtain ⟨G9, _, hbb, _⟩ := HPU9.out.x
        exact (blk_cell hbb 0).trans (by rw [hcs]; rfl)
      obtain ⟨V9, hV9⟩ : ∃ V9, V9 = V8.drew.setCells (q 0) (ks j * 32) xd.toList := ⟨_, rfl⟩
      rw [← hV9] at hk9 HPUSH
      have HV9 := Lib.hid hV9
      have HK9 := Lib.hid hk9
      generalize hkj : ks j = kj at *
      have HKJ := Lib.hid hkj
      clear hrg hcs ho8 hV8 hb8 hp8 hpu8 hp8e htr8 hxd hxs2 hV9 hk9 hkj
      go_upto_region 5 with (first
        | (with_reducible refine wpList_load_mid rfl LfT (.tmp 18) rfl lk (o + j * 33) rfl cs _ HRG.out Tryz.underlying40 rfl HIL.out ?_)
        | (with_reducible refine wpList_store_row rfl LfT (.tmp 8) (.tmp 19) rfl _ _ rfl rfl LfT _ HO8.out HIA.out HSZ8.out HON8.out ?_))
      rw [← HV8.out, ← HP8E.out]
      refine wp_region_F (S := (fun W : World => Same4 V8 T lb p8 p8 W)) [] (by kernel_rfl) (⟨rfl, rfl, rfl, rfl⟩) (fun hHeld => ?_)
      refine wpAnyF_take (i := 0) (oi := _) (v := ?_) rfl (by kernel_rfl) (by kernel_rfl) (by kernel_rfl) (by kernel_rfl) (fun _ _ _ h => h) (Or.inl ⟨by rfl, ?_⟩) (by assumption) ?_
      rotate_left 1
      · intro w hSw
        (try dsimp only at hSw)
        (first | (go_simp; done) | (go_simp; with_reducible rfl))
      (try simp only [Act.put, List.getElem_toArray, List.getElem_cons_succ, List.getElem_cons_zero, List.setIfInBounds_toArray, List.set_cons_zero, List.set_cons_succ])
      refine wpAnyF_take (i := 1) (oi := _) (v := ?_) rfl (by kernel_rfl) (by kernel_rfl) (by kernel_rfl) (by kernel_rfl) (fun _ _ _ h => h) (Or.inl ⟨by rfl, ?_⟩) (by assumption) ?_
      rotate_left 1
      · intro w hSw
        (try dsimp only at hSw)
        (first | (go_simp; done) | (go_simp; with_reducible rfl))
      (try simp only [Act.put, List.getElem_toArray, List.getElem_cons_succ, List.getElem_cons_zero, List.setIfInBounds_toArray, List.set_cons_zero, List.set_cons_succ])
      refine wpAnyF_take (i := 2) (oi := _) (v := ?_) rfl (by kernel_rfl) (by kernel_rfl) (by kernel_rfl) (by kernel_rfl) (fun _ _ _ h => h) (Or.inl ⟨by rfl, ?_⟩) (by assumption) ?_
      rotate_left 1
      · intro w hSw
        (try dsimp only at hSw)
        (first | (go_simp; done) | (go_simp; with_reducible rfl))
      (try simp only [Act.put, List.getElem_toArray, List.getElem_cons_succ, List.getElem_cons_zero, List.setIfInBounds_toArray, List.set_cons_zero, List.set_cons_succ])
      refine wpAnyF_take (i := 3) (oi := _) (v := _) rfl (by kernel_rfl) (by kernel_rfl) (by kernel_rfl) (by kernel_rfl) (fun _ _ _ h => h) (yields_cellP (by rfl) 45 (.tmp 22) rfl (T) (2) rfl (.slice (some ⟨lb, 0, none⟩) (D + 1) cap) _ (fun W h => (cell_of h.1 _).trans HK2.out) Tryz.underlying45 rfl) (by assumption) ?_
      (try simp only [Act.put, List.getElem_toArray, List.getElem_cons_succ, List.getElem_cons_zero, List.setIfInBounds_toArray, List.set_cons_zero, List.set_cons_succ])
      refine wpAnyF_take (i := 4) (oi := _) (v := ?_) rfl (by kernel_rfl) (by kernel_rfl) (by kernel_rfl) (by kernel_rfl) (fun _ _ _ h => h) (Or.inl ⟨by rfl, ?_⟩) (by assumption) ?_
      rotate_left 1
      · intro w hSw
        (try dsimp only at hSw)
        (first | (go_simp; done) | (go_simp; with_reducible rfl))
      (try simp only [Act.put, List.getElem_toArray, List.getElem_cons_succ, List.getElem_cons_zero, List.setIfInBounds_toArray, List.set_cons_zero, List.set_cons_succ])
      refine wpAnyF_take (i := 5) (oi := _) (v := _) rfl (by kernel_rfl) (by kernel_rfl) (by kernel_rfl) (by kernel_rfl) (fun _ _ _ h => h) (yields_cellP (by rfl) 30 (.tmp 24) rfl (lb) (0) rfl (.slice (some ⟨q 0, 0, none⟩) (2 ^ D) (2 ^ D)) _ (fun W h => (cell_of h.2.1 _).trans HKR.out) Tryz.underlying30 rfl) (by assumption) ?_
      (try simp only [Act.put, List.getElem_toArray, List.getElem_cons_succ, List.getElem_cons_zero, List.setIfInBounds_toArray, List.set_cons_zero, List.set_cons_succ])
      refine wpAnyF_take (i := 6) (oi := _) (v := ?_) rfl (by kernel_rfl) (by kernel_rfl) (by kernel_rfl) (by kernel_rfl) (fun _ _ _ h => h) (Or.inl ⟨by rfl, ?_⟩) (by assumption) ?_
      rotate_left 1
      · intro w hSw
        (try dsimp only at hSw)
        (first | (go_simp; done) | (go_simp; with_reducible rfl))
      (try simp only [Act.put, List.getElem_toArray, List.getElem_cons_succ, List.getElem_cons_zero, List.setIfInBounds_toArray, List.set_cons_zero, List.set_cons_succ])
      refine wpAnyF_take (i := 7) (oi := _) (v := _) rfl (by kernel_rfl) (by kernel_rfl) (by kernel_rfl) (by kernel_rfl) (fun _ _ _ h => h) (yields_cellP (by rfl) 3 (.tmp 26) rfl (p8) (0) rfl (.int .i64 (kj : Int)) _ (fun W h => (cell_of h.2.2.1 _).trans HP80.out) Tryz.underlying3 rfl) (by assumption) ?_
      (try simp only [Act.put, List.getElem_toArray, List.getElem_cons_succ, List.getElem_cons_zero, List.setIfInBounds_toArray, List.set_cons_zero, List.set_cons_succ])
      refine wpAnyF_take (i := 8) (oi := _) (v := ?_) rfl (by kernel_rfl) (by kernel_rfl) (by kernel_rfl) (by kernel_rfl) (fun _ _ _ h => h) (Or.inl ⟨by rfl, ?_⟩) (by assumption) ?_
      rotate_left 1
      · intro w hSw
        (try dsimp only at hSw)
        (first | (go_simp; done) | (go_simp; with_reducible rfl))
      (try simp only [Act.put, List.getElem_toArray, List.getElem_cons_succ, List.getElem_cons_zero, List.setIfInBounds_toArray, List.set_cons_zero, List.set_cons_succ])
      refine wpAnyF_take (i := 9) (oi := _) (v := _) rfl (by kernel_rfl) (by kernel_rfl) (by kernel_rfl) (by kernel_rfl) (fun _ _ _ h => h) (yields_rowP (by rfl) 34 (.tmp 28) rfl p8 1 rfl xd _ (fun W h => HXR.out W h) Tryz.underlying34 rfl HIX.out) (by assumption) ?_
      (try simp only [Act.put, List.getElem_toArray, List.getElem_cons_succ, List.getElem_cons_zero, List.setIfInBounds_toArray, List.set_cons_zero, List.set_cons_succ])
      refine wpAnyF_take (i := 10) (oi := _) (v := ?_) rfl (by kernel_rfl) (by kernel_rfl) (by kernel_rfl) (by kernel_rfl) (fun _ _ _ h => h) (Or.inl ⟨by rfl, ?_⟩) (by assumption) ?_
      rotate_left 1
      · intro w hSw
        (try dsimp only at hSw)
        (first | (go_simp; done) | (go_simp; with_reducible rfl))
      (try simp only [Act.put, List.getElem_toArray, List.getElem_cons_succ, List.getElem_cons_zero, List.setIfInBounds_toArray, List.set_cons_zero, List.set_cons_succ])
      refine wpAnyF_ready (rs := [11]) (by kernel_rfl) (by simp) ?_
      refine AllReadyF.cons (o := _) rfl (fun K hK => ?_) AllReadyF.nil
      rw [if_pos (by kernel_rfl)]
      refine wp_store_mid 34 (.tmp 30) (.tmp 29) rfl (q 0) (kj * 32) xd rfl rfl HTH.out HIX.out HOX.out ?_
      refine hK.out _ _ (Same4.set hHeld HNE5.out) (fun hHeld3 => ?_)
      clear hK K
      (try simp only [Act.put, List.getElem_toArray, List.getElem_cons_succ, List.getElem_cons_zero, List.setIfInBounds_toArray, List.set_cons_zero, List.set_cons_succ])
      refine wpAnyF_done (by kernel_rfl) ?_ _
      clear hHeld hHeld3
      rw [← HV9.out]
      have k9 := HK9.out
      go_wp2_with fail
      refine HPUSH.out.mono ?_
      rintro e W4 ⟨rfl, es', hperm, hpu4⟩
      have HPU4 := Lib.hid (hpu4.less (Y := lvX lk o m ks xs) (fun _ _ c => c.1))
      have HES4 : Hid (Es1 ks (j + 1) es') := Lib.hid (HES.out.push (t := j) (by rw [HKJ.out]; exact hperm))
      have HEL4 : Hid (es'.length = j + 1) := Lib.hid (by rw [hperm.length_eq, List.length_cons, HEL.out])
      clear hperm hpu4 k9
      go_wp2_with fail
      go_roundg (m - (j + 1))
      case measure => omega
      case rel => exact ⟨j + 1, es', by go_num, by omega, HPU4.out, HEL4.out, HES4.out⟩
    · have hjm2 : j = m := by omega
      subst hjm2
      have HG1 := Lib.hid (HES.out.good (xs := xs) HG.out)
      have HFT := Lib.hid (HES.out.fits HKS.out)
      have hw1 : weight D es ≤ 20000 := by
        have h1 := weight_le (D := D) es
        have h2 : es.length * (D + 1) ≤ 1024 * 11 := Nat.mul_le_mul (by have := HEL.out; omega) (by omega)
        omega
      have HW1 := Lib.hid hw1
      have HPOP := Lib.hid (HPU.out.popU kept_lv (by have := HEL.out; omega))
      clear hw1
      go_wp2_with fail
      refine HPOP.out.mono ?_
      rintro e W2 ⟨a, cm, ok, rfl, hcase⟩
      have HCASE := Lib.hid hcase
      clear hcase
      go_wp2_with fail
      have hst2 : Lp2 w T b g n D lb cap q S qg (lvX lk o j ks xs) (leafF F ks xs j 0) 20000 (.pointer (some ⟨W2.heap.size, 0, none⟩)) (.bool ok) (.int .i64 0) (W2.alloc (.cells #[.int .i64 a, .int .i64 cm] 61)) := by
        have hbb : Below W2.heap.size W2 (W2.alloc (.cells #[.int .i64 a, .int .i64 cm] 61)) := (Below.refl _ _).alloc (Nat.le_refl _) _
        rcases HCASE.out with ⟨rfl, h0, hq⟩ | ⟨rfl, k, es', hperm, hq⟩
        · have hg0 := HG1.out
          rw [h0] at hg0
          exact ⟨0, rfl, by omega, .inl ⟨rfl, ⟨_, rfl⟩, j, _, hq.next kept_lv hbb, hg0, fun _ => rfl⟩⟩
        · have hf := HFT.out _ (hperm.mem_iff.2 (List.mem_cons_self ..))
          obtain ⟨l, rfl⟩ : ∃ l : Nat, a = (l : Int) := ⟨a.toNat, by have := hf.1; have e : (En.mk a cm k).n = a := rfl; omega⟩
          obtain ⟨i, rfl⟩ : ∃ i : Nat, cm = (i : Int) := ⟨cm.toNat, by have := hf.2.2.1; have e : (En.mk (l : Int) cm k).m = cm := rfl; omega⟩
          exact ⟨0, rfl, by omega, .inr ⟨rfl, W2.heap.size, l, i, k, j, es', _, rfl, hq.more kept_lv hbb (Nat.le_refl _) (heap_alloc_new W2 _), HG1.out.perm hperm, hf, fun e he => HFT.out e (hperm.mem_iff.2 (List.mem_cons_of_mem _ he)), fun _ => rfl, by rw [← weight_perm hperm]; exact HW1.out, by omega⟩⟩
      have HST2 := Lib.hid hst2
      clear hst2 HCASE HPOP HW1 HFT HG1 HPU HES HEL
      go_loopg [9, 10, 6] 20000 (fun gk v9 v10 v6 W => Lp2 w T b g n D lb cap q S qg (lvX lk o j ks xs) (leafF F ks xs j 0) gk v9 v10 v6 W)
      case atStart => exact HST2.out
      case round =>
        clear HST2
        obtain ⟨c, rfl, hcg, hrest⟩ := hrel
        rcases hrest with ⟨rfl, ⟨ad, rfl⟩, t, F', hpu, hgd, hf0⟩ | ⟨rfl, p, l, i, tt, t, es, F', rfl, hpu, hgd, hfit, hfits, hf0, hwt, htg⟩
        · have HFIN : Hid (PutTo w T b g n D lb cap j q F ks xs S (.returned (.int .i64 (c : Int))) wr) := Lib.hid (by
            obtain ⟨v, S', Tx', sh', hp⟩ := hpu
            exact ⟨c, F', S', Tx', sh', rfl, hp.tr, hgd.nil, hf0, hp.bk, hp.s1, hp.st, hp.tu⟩)
          clear hpu hgd hf0
          go_wp2_with fail
          go_ret
          exact HFIN.out
        · have HPU := Lib.hid hpu
          have HGD := Lib.hid hgd
          have HFIT := Lib.hid hfit
          have HFITS := Lib.hid hfits
          have HF0 := Lib.hid hf0
          have HWT := Lib.hid hwt
          have hlen : es.length ≤ 200000 := by have h1 := weight_len hfits; rw [weight_cons] at hwt; omega
          have HPK := Lib.hid (hpu.peekU (kept_and kept_lv kept_blk) (by omega))
          clear hpu hgd hfit hfits hf0 hwt
          go_upto_block 3 with (fail)
          go_cut [6] (fun v6 wc => Mid2 w T b g n D lb cap q S qg (lvX lk o j ks xs) (leafF F ks xs j 0) gk p l i v6 wc)
          case first =>
            go_wp2_with fail
            refine HPK.out.mono ?_
            rintro e W3 ⟨a, cm, more, rfl, hmore, hpu3⟩
            have hbb : Below W3.heap.size W3 (W3.alloc (.cells #[.int .i64 a, .int .i64 cm] 61)) := (Below.refl _ _).alloc (Nat.le_refl _) _
            have hpu4 := hpu3.next (kept_and kept_lv kept_blk) hbb
            obtain ⟨G4, _, hblk, _⟩ := hpu4.x
            have k0 := blk_cell hblk 0
            have k1 := blk_cell hblk 1
            have HPU4 := Lib.hid hpu4
            have HMORE := Lib.hid hmore
            have heq := fun a b l i W => eql_pl a b l i W
            simp only [List.getElem?_toArray, List.getElem?_cons_zero, List.getElem?_cons_succ] at k0 k1
            clear hmore hpu3 hpu4 hblk hbb
            cases more
            · go_upto_if 62 with (fail)
              go_cut [6] (fun v6 wc => Rk2 w T b g n D lb cap q S qg (lvX lk o j ks xs) (leafF F ks xs j 0) c p l i tt t es v6 wc)
              case first =>
                by_cases hl0 : l = 0
                · have HR0 : Hid (Rk2 w T b g n D lb cap q S qg (lvX lk o j ks xs) (leafF F ks xs j 0) c p l i tt t es (.int .i64 (c : Int)) (W3.alloc (.cells #[.int .i64 a, .int .i64 cm] 61))) := Lib.hid ⟨c, rfl, by omega, F', HPU4.out, fun d i' h1 h2 _ => HGD.out d i' h1 h2, fun d hd => by omega, HF0.out⟩
                  have hz1 : ¬ (0 : Int) < (l : Int) := by omega
                  have hz2 : ¬ 0 < l := by omega
                  go_wp2_with fail
                  go_meet
                  case rel => exact HR0.out
                · have hz1 : (0 : Int) < (l : Int) := by omega
                  have hz2 : 0 < l := by omega
                  obtain ⟨d, hd⟩ : ∃ d, l = d + 1 := ⟨l - 1, by omega⟩
                  have HREC := Lib.hid (HPU4.out.reck (kept_and kept_lv kept_blk) d i (by have := HFIT.out.2.1; simp only [Int.toNat_natCast] at this; omega) (by have := HFIT.out.2.2.2; simp only [Int.toNat_natCast] at this; rw [← hd]; exact this))
                  have HGR := Lib.hid (HGD.out.reck (d0 := d) (i0 := i) (by rw [← hd]) rfl)
                  rw [← hd] at HREC HGR
                  have HDL := Lib.hid hd
                  clear hd
                  go_wp2_with fail
                  refine HREC.out.mono ?_
                  rintro e W4 ⟨rfl, hpu5⟩
                  have HR1 : Hid (Rk2 w T b g n D lb cap q S qg (lvX lk o j ks xs) (leafF F ks xs j 0) c p l i tt t es (.int .i64 ((c + 1 : Nat) : Int)) W4) := Lib.hid ⟨c + 1, rfl, by omega, _, hpu5, HGR.out.1, fun d' hd' => by
                    have e9 : d' = d := by have := HDL.out; omega
                    subst e9
                    exact HGR.out.2, fun i' => by rw [setF_ne _ _ (fun x => by omega)]; exact HF0.out i'⟩
                  clear hpu5 k0 k1
                  go_wp2_with fail
                  go_meet
                  case rel => first | exact HR1.out | (rw [show ((c : Int) + 1) = ((c + 1 : Nat) : Int) by omega]; exact HR1.out)
              case rest =>
                obtain ⟨c2, rfl, hc2, F2, hpu5, hg5, hr5, hf5⟩ := hcut
                have HPU5 := Lib.hid hpu5
                have HG5 := Lib.hid hg5
                have HR5 := Lib.hid hr5
                have HF5 := Lib.hid hf5
                obtain ⟨G5, _, hblk5, _⟩ := hpu5.x
                have HPB : Hid (wc.drew.heap[p]? = some (.cells #[.int .i64 (l : Int), .int .i64 (i : Int)] 61 (0, 0))) := Lib.hid hblk5
                have HDEP := Lib.hid (tdepth_any T b n D lb cap q F2 wc.drew ((hpu5.next (kept_and kept_lv kept_blk) ((Below.refl _ _).drew)).tr))
                have HPU6 := Lib.hid (hpu5.next (kept_and kept_lv kept_blk) ((Below.refl _ _).drew))
                have hcl : c2 + gk ≤ 100001 := by omega
                have hlD : l ≤ D := by have := HFIT.out.2.1; simp only [Int.toNat_natCast] at this; omega
                have HLI : Hid (i < 2 ^ (D - l)) := Lib.hid (by have := HFIT.out.2.2.2; simp only [Int.toNat_natCast] at this; exact this)
                have hi1024 : i ≤ 1000000 := by
                  have h1 := HLI.out
                  have h2 : 2 ^ (D - l) ≤ 2 ^ 10 := Nat.pow_le_pow_right (by omega) (by omega)
                  omega
                have HWC := Lib.hid (weight_cons D ⟨(l : Int), (i : Int), tt⟩ es)
                clear hpu5 hg5 hr5 hf5 hblk5 k0 k1 HPU4 HF0 HGD
                go_upto_region 16 with (fail)
                refine wp_region_F (S := (fun W : World => W.heap[p]? = some (.cells #[.int .i64 (l : Int), .int .i64 (i : Int)] 61 (0, 0)))) [] (by kernel_rfl) (HPB.out) (fun hHeld => ?_)
                refine wpAnyF_take (i := 0) (oi := _) (v := ?_) rfl (by kernel_rfl) (by kernel_rfl) (by kernel_rfl) (by kernel_rfl) (fun _ _ _ h => h) (Or.inl ⟨by rfl, ?_⟩) (by assumption) ?_
                rotate_left 1
                · intro w hSw
                  (try dsimp only at hSw)
                  (first | (go_simp; done) | (go_simp; with_reducible rfl))
                (try simp only [Act.put, List.getElem_toArray, List.getElem_cons_succ, List.getElem_cons_zero, List.setIfInBounds_toArray, List.set_cons_zero, List.set_cons_succ])
                refine wpAnyF_take (i := 1) (oi := _) (v := _) rfl (by kernel_rfl) (by kernel_rfl) (by kernel_rfl) (by kernel_rfl) (fun _ _ _ h => h) (yields_cellP (by rfl) 3 (.tmp 68) rfl (p) (0) rfl (.int .i64 (l : Int)) _ (fun W h => blk_cell h 0) Tryz.underlying3 rfl) (by assumption) ?_
                (try simp only [Act.put, List.getElem_toArray, List.getElem_cons_succ, List.getElem_cons_zero, List.setIfInBounds_toArray, List.set_cons_zero, List.set_cons_succ])
                refine wpAnyF_take (i := 2) (oi := _) (v := ?_) rfl (by kernel_rfl) (by kernel_rfl) (by kernel_rfl) (by kernel_rfl) (fun _ _ _ h => h) (Or.inl ⟨by rfl, ?_⟩) (by assumption) ?_
                rotate_left 1
                · intro w hSw
                  (try dsimp only at hSw)
                  (first | (go_simp; done) | (go_simp; with_reducible rfl))
                (try simp only [Act.put, List.getElem_toArray, List.getElem_cons_succ, List.getElem_cons_zero, List.setIfInBounds_toArray, List.set_cons_zero, List.set_cons_succ])
                refine wpAnyF_ready (rs := [3]) (by kernel_rfl) (by simp) ?_
                refine AllReadyF.cons (o := _) rfl (fun K hK => ?_) AllReadyF.nil
                go_simp
                refine (HDEP.out).mono ?_
                rintro e W6 ⟨rfl, rfl⟩
                refine hK.out _ _ (hHeld) (fun hHeld3 => ?_)
                clear hK K
                (try simp only [Act.put, List.getElem_toArray, List.getElem_cons_succ, List.getElem_cons_zero, List.setIfInBounds_toArray, List.set_cons_zero, List.set_cons_succ])
                refine wpAnyF_take (i := 4) (oi := _) (v := ?_) rfl (by kernel_rfl) (by kernel_rfl) (by kernel_rfl) (by kernel_rfl) (fun _ _ _ h => h) (Or.inl ⟨by rfl, ?_⟩) (by assumption) ?_
                rotate_left 1
                · intro w hSw
                  (try dsimp only at hSw)
                  (first | (go_simp; done) | (go_simp; with_reducible rfl))
                (try simp only [Act.put, List.getElem_toArray, List.getElem_cons_succ, List.getElem_cons_zero, List.setIfInBounds_toArray, List.set_cons_zero, List.set_cons_succ])
                refine wpAnyF_done (by kernel_rfl) ?_ _
                clear hHeld hHeld3
                by_cases hLD : l < D
                · have hLDi : (l : Int) < (D : Int) := by omega
                  obtain ⟨l1, hl1⟩ : ∃ x, x = l + 1 := ⟨_, rfl⟩
                  obtain ⟨i1, hi1⟩ : ∃ x, x = i / 2 := ⟨_, rfl⟩
                  have HAB := Lib.hid (fun W => above_any l i (by omega) hi1024 W)
                  rw [← hl1, ← hi1] at HAB
                  have HL1 := Lib.hid hl1
                  have HI1 := Lib.hid hi1
                  have k0 : wc.drew.cell? ⟨p, 0, none⟩ = some (.int .i64 (l : Int)) := blk_cell HPB.out 0
                  have k1 : wc.drew.cell? ⟨p, 1, none⟩ = some (.int .i64 (i : Int)) := blk_cell HPB.out 1
                  have k0' : wc.cell? ⟨p, 0, none⟩ = some (.int .i64 (l : Int)) := blk_cell HPB.out 0
                  have k1' : wc.cell? ⟨p, 1, none⟩ = some (.int .i64 (i : Int)) := blk_cell HPB.out 1
                  clear hl1 hi1
                  go_wp2_with fail
                  refine (HAB.out _).mono ?_
                  rintro e W7 ⟨rfl, hb7⟩
                  have HPU7 := Lib.hid (HPU6.out.next (kept_and kept_lv kept_blk) hb7)
                  have HPUSH := Lib.hid (HPU7.out.push (kept_and kept_lv kept_blk) l1 i1 (by omega) (by omega))
                  clear hb7 k0 k1 k0' k1'
                  go_wp2_with fail
                  refine HPUSH.out.mono ?_
                  rintro e W8 ⟨rfl, es', hperm, hpu8⟩
                  have HM : Hid (Mid2 w T b g n D lb cap q S qg (lvX lk o j ks xs) (leafF F ks xs j 0) gk p l i (.int .i64 (c2 : Int)) W8) := Lib.hid (by
                    have hl1 := HL1.out
                    have hi1 := HI1.out
                    subst hl1 hi1
                    refine ⟨c2, rfl, hcl, t + 1, es', F2, hpu8, (Good.up HG5.out HR5.out).perm hperm.symm, fun e he => ?_, HF5.out, ?_, by omega⟩
                    · rcases List.mem_cons.1 (hperm.mem_iff.1 he) with rfl | he
                      · exact HFIT.out.up hLD
                      · exact HFITS.out e he
                    · rw [weight_perm hperm, weight_cons]
                      have h1 := HWT.out
                      rw [HWC.out] at h1
                      simp only [Int.toNat_natCast] at h1 ⊢
                      omega)
                  clear hperm hpu8
                  go_wp2_with fail
                  go_meet
                  case rel => exact HM.out
                · have hLDi : ¬ (l : Int) < (D : Int) := by omega
                  have HM : Hid (Mid2 w T b g n D lb cap q S qg (lvX lk o j ks xs) (leafF F ks xs j 0) gk p l i (.int .i64 (c2 : Int)) wc.drew) := Lib.hid (by
                    have hl1 : l = D := by omega
                    subst hl1
                    refine ⟨c2, rfl, hcl, t, es, F2, HPU6.out, Good.top HG5.out rfl rfl HR5.out, HFITS.out, HF5.out, ?_, by omega⟩
                    have h1 := HWT.out
                    rw [HWC.out] at h1
                    simp only [Int.toNat_natCast] at h1
                    omega)
                  go_wp2_with fail
                  go_meet
                  case rel => exact HM.out
            · by_cases he : a = (l : Int) ∧ cm = (i : Int)
              · obtain ⟨rfl, rfl⟩ := he
                have HM : Hid (Mid2 w T b g n D lb cap q S qg (lvX lk o j ks xs) (leafF F ks xs j 0) gk p l i (.int .i64 (c : Int)) (W3.alloc (.cells #[.int .i64 (l : Int), .int .i64 (i : Int)] 61))) := Lib.hid (by
                  obtain ⟨k, hk, hk1, hk2⟩ := HMORE.out rfl
                  refine ⟨c, rfl, by omega, t, es, F', HPU4.out, HGD.out.drop hk hk1 hk2, HFITS.out, HF0.out, ?_, by omega⟩
                  have h1 := HWT.out
                  rw [weight_cons] at h1
                  have h2 := HFIT.out.2.1
                  simp only [Int.toNat_natCast] at h1 h2
                  omega)
                go_wp2_with fail
                go_meet
                case rel => exact HM.out
              · have hbe : ((a == (l : Int)) && (cm == (i : Int))) = false := by
                  rw [Bool.eq_false_iff]
                  intro c
                  simp only [Bool.and_eq_true, beq_iff_eq] at c
                  exact he c
                go_upto_if 62 with (fail)
                go_cut [6] (fun v6 wc => Rk2 w T b g n D lb cap q S qg (lvX lk o j ks xs) (leafF F ks xs j 0) c p l i tt t es v6 wc)
                case first =>
                  by_cases hl0 : l = 0
                  · have HR0 : Hid (Rk2 w T b g n D lb cap q S qg (lvX lk o j ks xs) (leafF F ks xs j 0) c p l i tt t es (.int .i64 (c : Int)) (W3.alloc (.cells #[.int .i64 a, .int .i64 cm] 61))) := Lib.hid ⟨c, rfl, by omega, F', HPU4.out, fun d i' h1 h2 _ => HGD.out d i' h1 h2, fun d hd => by omega, HF0.out⟩
                    have hz1 : ¬ (0 : Int) < (l : Int) := by omega
                    have hz2 : ¬ 0 < l := by omega
                    go_wp2_with fail
                    go_meet
                    case rel => exact HR0.out
                  · have hz1 : (0 : Int) < (l : Int) := by omega
                    have hz2 : 0 < l := by omega
                    obtain ⟨d, hd⟩ : ∃ d, l = d + 1 := ⟨l - 1, by omega⟩
                    have HREC := Lib.hid (HPU4.out.reck (kept_and kept_lv kept_blk) d i (by have := HFIT.out.2.1; simp only [Int.toNat_natCast] at this; omega) (by have := HFIT.out.2.2.2; simp only [Int.toNat_natCast] at this; rw [← hd]; exact this))
                    have HGR := Lib.hid (HGD.out.reck (d0 := d) (i0 := i) (by rw [← hd]) rfl)
                    rw [← hd] at HREC HGR
                    have HDL := Lib.hid hd
                    clear hd
                    go_wp2_with fail
                    refine HREC.out.mono ?_
                    rintro e W4 ⟨rfl, hpu5⟩
                    have HR1 : Hid (Rk2 w T b g n D lb cap q S qg (lvX lk o j ks xs) (leafF F ks xs j 0) c p l i tt t es (.int .i64 ((c + 1 : Nat) : Int)) W4) := Lib.hid ⟨c + 1, rfl, by omega, _, hpu5, HGR.out.1, fun d' hd' => by
                      have e9 : d' = d := by have := HDL.out; omega
                      subst e9
                      exact HGR.out.2, fun i' => by rw [setF_ne _ _ (fun x => by omega)]; exact HF0.out i'⟩
                    clear hpu5 k0 k1
                    go_wp2_with fail
                    go_meet
                    case rel => first | exact HR1.out | (rw [show ((c : Int) + 1) = ((c + 1 : Nat) : Int) by omega]; exact HR1.out)
                case rest =>
                  obtain ⟨c2, rfl, hc2, F2, hpu5, hg5, hr5, hf5⟩ := hcut
                  have HPU5 := Lib.hid hpu5
                  have HG5 := Lib.hid hg5
                  have HR5 := Lib.hid hr5
                  have HF5 := Lib.hid hf5
                  obtain ⟨G5, _, hblk5, _⟩ := hpu5.x
                  have HPB : Hid (wc.drew.heap[p]? = some (.cells #[.int .i64 (l : Int), .int .i64 (i : Int)] 61 (0, 0))) := Lib.hid hblk5
                  have HDEP := Lib.hid (tdepth_any T b n D lb cap q F2 wc.drew ((hpu5.next (kept_and kept_lv kept_blk) ((Below.refl _ _).drew)).tr))
                  have HPU6 := Lib.hid (hpu5.next (kept_and kept_lv kept_blk) ((Below.refl _ _).drew))
                  have hcl : c2 + gk ≤ 100001 := by omega
                  have hlD : l ≤ D := by have := HFIT.out.2.1; simp only [Int.toNat_natCast] at this; omega
                  have HLI : Hid (i < 2 ^ (D - l)) := Lib.hid (by have := HFIT.out.2.2.2; simp only [Int.toNat_natCast] at this; exact this)
                  have hi1024 : i ≤ 1000000 := by
                    have h1 := HLI.out
                    have h2 : 2 ^ (D - l) ≤ 2 ^ 10 := Nat.pow_le_pow_right (by omega) (by omega)
                    omega
                  have HWC := Lib.hid (weight_cons D ⟨(l : Int), (i : Int), tt⟩ es)
                  clear hpu5 hg5 hr5 hf5 hblk5 k0 k1 HPU4 HF0 HGD
                  go_upto_region 16 with (fail)
                  refine wp_region_F (S := (fun W : World => W.heap[p]? = some (.cells #[.int .i64 (l : Int), .int .i64 (i : Int)] 61 (0, 0)))) [] (by kernel_rfl) (HPB.out) (fun hHeld => ?_)
                  refine wpAnyF_take (i := 0) (oi := _) (v := ?_) rfl (by kernel_rfl) (by kernel_rfl) (by kernel_rfl) (by kernel_rfl) (fun _ _ _ h => h) (Or.inl ⟨by rfl, ?_⟩) (by assumption) ?_
                  rotate_left 1
                  · intro w hSw
                    (try dsimp only at hSw)
                    (first | (go_simp; done) | (go_simp; with_reducible rfl))
                  (try simp only [Act.put, List.getElem_toArray, List.getElem_cons_succ, List.getElem_cons_zero, List.setIfInBounds_toArray, List.set_cons_zero, List.set_cons_succ])
                  refine wpAnyF_take (i := 1) (oi := _) (v := _) rfl (by kernel_rfl) (by kernel_rfl) (by kernel_rfl) (by kernel_rfl) (fun _ _ _ h => h) (yields_cellP (by rfl) 3 (.tmp 68) rfl (p) (0) rfl (.int .i64 (l : Int)) _ (fun W h => blk_cell h 0) Tryz.underlying3 rfl) (by assumption) ?_
                  (try simp only [Act.put, List.getElem_toArray, List.getElem_cons_succ, List.getElem_cons_zero, List.setIfInBounds_toArray, List.set_cons_zero, List.set_cons_succ])
                  refine wpAnyF_take (i := 2) (oi := _) (v := ?_) rfl (by kernel_rfl) (by kernel_rfl) (by kernel_rfl) (by kernel_rfl) (fun _ _ _ h => h) (Or.inl ⟨by rfl, ?_⟩) (by assumption) ?_
                  rotate_left 1
                  · intro w hSw
                    (try dsimp only at hSw)
                    (first | (go_simp; done) | (go_simp; with_reducible rfl))
                  (try simp only [Act.put, List.getElem_toArray, List.getElem_cons_succ, List.getElem_cons_zero, List.setIfInBounds_toArray, List.set_cons_zero, List.set_cons_succ])
                  refine wpAnyF_ready (rs := [3]) (by kernel_rfl) (by simp) ?_
                  refine AllReadyF.cons (o := _) rfl (fun K hK => ?_) AllReadyF.nil
                  go_simp
                  refine (HDEP.out).mono ?_
                  rintro e W6 ⟨rfl, rfl⟩
                  refine hK.out _ _ (hHeld) (fun hHeld3 => ?_)
                  clear hK K
                  (try simp only [Act.put, List.getElem_toArray, List.getElem_cons_succ, List.getElem_cons_zero, List.setIfInBounds_toArray, List.set_cons_zero, List.set_cons_succ])
                  refine wpAnyF_take (i := 4) (oi := _) (v := ?_) rfl (by kernel_rfl) (by kernel_rfl) (by kernel_rfl) (by kernel_rfl) (fun _ _ _ h => h) (Or.inl ⟨by rfl, ?_⟩) (by assumption) ?_
                  rotate_left 1
                  · intro w hSw
                    (try dsimp only at hSw)
                    (first | (go_simp; done) | (go_simp; with_reducible rfl))
                  (try simp only [Act.put, List.getElem_toArray, List.getElem_cons_succ, List.getElem_cons_zero, List.setIfInBounds_toArray, List.set_cons_zero, List.set_cons_succ])
                  refine wpAnyF_done (by kernel_rfl) ?_ _
                  clear hHeld hHeld3
                  by_cases hLD : l < D
                  · have hLDi : (l : Int) < (D : Int) := by omega
                    obtain ⟨l1, hl1⟩ : ∃ x, x = l + 1 := ⟨_, rfl⟩
                    obtain ⟨i1, hi1⟩ : ∃ x, x = i / 2 := ⟨_, rfl⟩
                    have HAB := Lib.hid (fun W => above_any l i (by omega) hi1024 W)
                    rw [← hl1, ← hi1] at HAB
                    have HL1 := Lib.hid hl1
                    have HI1 := Lib.hid hi1
                    have k0 : wc.drew.cell? ⟨p, 0, none⟩ = some (.int .i64 (l : Int)) := blk_cell HPB.out 0
                    have k1 : wc.drew.cell? ⟨p, 1, none⟩ = some (.int .i64 (i : Int)) := blk_cell HPB.out 1
                    have k0' : wc.cell? ⟨p, 0, none⟩ = some (.int .i64 (l : Int)) := blk_cell HPB.out 0
                    have k1' : wc.cell? ⟨p, 1, none⟩ = some (.int .i64 (i : Int)) := blk_cell HPB.out 1
                    clear hl1 hi1
                    go_wp2_with fail
                    refine (HAB.out _).mono ?_
                    rintro e W7 ⟨rfl, hb7⟩
                    have HPU7 := Lib.hid (HPU6.out.next (kept_and kept_lv kept_blk) hb7)
                    have HPUSH := Lib.hid (HPU7.out.push (kept_and kept_lv kept_blk) l1 i1 (by omega) (by omega))
                    clear hb7 k0 k1 k0' k1'
                    go_wp2_with fail
                    refine HPUSH.out.mono ?_
                    rintro e W8 ⟨rfl, es', hperm, hpu8⟩
                    have HM : Hid (Mid2 w T b g n D lb cap q S qg (lvX lk o j ks xs) (leafF F ks xs j 0) gk p l i (.int .i64 (c2 : Int)) W8) := Lib.hid (by
                      have hl1 := HL1.out
                      have hi1 := HI1.out
                      subst hl1 hi1
                      refine ⟨c2, rfl, hcl, t + 1, es', F2, hpu8, (Good.up HG5.out HR5.out).perm hperm.symm, fun e he => ?_, HF5.out, ?_, by omega⟩
                      · rcases List.mem_cons.1 (hperm.mem_iff.1 he) with rfl | he
                        · exact HFIT.out.up hLD
                        · exact HFITS.out e he
                      · rw [weight_perm hperm, weight_cons]
                        have h1 := HWT.out
                        rw [HWC.out] at h1
                        simp only [Int.toNat_natCast] at h1 ⊢
                        omega)
                    clear hperm hpu8
                    go_wp2_with fail
                    go_meet
                    case rel => exact HM.out
                  · have hLDi : ¬ (l : Int) < (D : Int) := by omega
                    have HM : Hid (Mid2 w T b g n D lb cap q S qg (lvX lk o j ks xs) (leafF F ks xs j 0) gk p l i (.int .i64 (c2 : Int)) wc.drew) := Lib.hid (by
                      have hl1 : l = D := by omega
                      subst hl1
                      refine ⟨c2, rfl, hcl, t, es, F2, HPU6.out, Good.top HG5.out rfl rfl HR5.out, HFITS.out, HF5.out, ?_, by omega⟩
                      have h1 := HWT.out
                      rw [HWC.out] at h1
                      simp only [Int.toNat_natCast] at h1
                      omega)
                    go_wp2_with fail
                    go_meet
                    case rel => exact HM.out
          case rest =>
            obtain ⟨c2, rfl, hc2, t2, es2, F2, hpu5, hg5, hfs5, hf5, hw5, ht5⟩ := hcut
            have HG5 := Lib.hid hg5
            have HFS5 := Lib.hid hfs5
            have HF5 := Lib.hid hf5
            have HW5 := Lib.hid hw5
            obtain ⟨G5, hlv5, hblk5, _⟩ := hpu5.x
            have k0 := blk_cell hblk5 0
            have k1 := blk_cell hblk5 1
            simp only [List.getElem?_toArray, List.getElem?_cons_zero, List.getElem?_cons_succ] at k0 k1
            have hlkn : lk ≠ wc.heap.size := by have := hlv5.2.2; omega
            have hsz5 := hpu5.lt
            have hpX := hpu5.less (Y := lvX lk o j ks xs) (fun _ _ x => x.1)
            have hbb : Below wc.heap.size wc (wc.alloc (.cells #[.int .i64 (l : Int), .int .i64 (i : Int)] 61)) := (Below.refl _ _).alloc (Nat.le_refl _) _
            have hp6 := hpX.more kept_lv hbb (Nat.le_refl _) (heap_alloc_new wc _)
            have hlen2 : es2.length ≤ 1000000000 := by have h1 := weight_len hfs5; omega
            have HPOP := Lib.hid (hp6.popU (kept_and kept_lv kept_blk) hlen2)
            have HPS := Lib.hid hsz5
            have HLKN := Lib.hid hlkn
            have hgk1 : 1 ≤ gk := by omega
            obtain ⟨p2, hp2⟩ : ∃ p2, p2 = wc.heap.size := ⟨_, rfl⟩
            have HP2 := Lib.hid hp2
            rw [← hp2] at HPOP HPS HLKN
            clear hg5 hfs5 hf5 hw5 hpu5 hlv5 hblk5 hsz5 hlkn hpX hbb hp6 hp2
            go_wp2_with fail
            (try rw [← HP2.out])
            refine HPOP.out.mono ?_
            rintro e W7 ⟨a, cm, ok2, rfl, hcase⟩
            have hblk7 : W7.heap[p2]? = some (.cells #[.int .i64 (l : Int), .int .i64 (i : Int)] 61 (0, 0)) := by
              rcases hcase with ⟨_, _, hq⟩ | ⟨_, k, es', _, hq⟩
              · obtain ⟨G7, _, hb7, _⟩ := hq.x; exact hb7
              · obtain ⟨G7, _, hb7, _⟩ := hq.x; exact hb7
            have HB7 := Lib.hid hblk7
            have HI2 : Hid ((Tryz.prog.info? 61).map (·.size) = some (#[Value.int .i64 a, .int .i64 cm] : Array Value).size) := Lib.hid (by kernel_rfl)
            have HS2 : Hid ((#[Value.int .i64 (l : Int), .int .i64 (i : Int)] : Array Value).size = (#[Value.int .i64 a, .int .i64 cm] : Array Value).size) := Lib.hid rfl
            have HN2 : Hid ((#[Value.int .i64 a, .int .i64 cm] : Array Value).all (·.oneCell') = true) := Lib.hid (by simp [Value.oneCell'])
            have hst9 : Lp2 w T b g n D lb cap q S qg (lvX lk o j ks xs) (leafF F ks xs j 0) (gk - 1) (.pointer (some ⟨p2, 0, none⟩)) (.bool ok2) (.int .i64 (c2 : Int)) (W7.setRow p2 #[.int .i64 a, .int .i64 cm]) := by
              rcases hcase with ⟨rfl, h0, hq⟩ | ⟨rfl, k, es', hperm, hq⟩
              · have hg0 := HG5.out
                rw [h0] at hg0
                exact ⟨c2, rfl, by omega, .inl ⟨rfl, ⟨_, rfl⟩, t2, F2, (hq.setP HPS.out HLKN.out).less (fun _ _ x => x.1), hg0, HF5.out⟩⟩
              · have hf := HFS5.out _ (hperm.mem_iff.2 (List.mem_cons_self ..))
                obtain ⟨l', rfl⟩ : ∃ l : Nat, a = (l : Int) := ⟨a.toNat, by have := hf.1; have e : (En.mk a cm k).n = a := rfl; omega⟩
                obtain ⟨i', rfl⟩ : ∃ i : Nat, cm = (i : Int) := ⟨cm.toNat, by have := hf.2.2.1; have e : (En.mk (l' : Int) cm k).m = cm := rfl; omega⟩
                exact ⟨c2, rfl, by omega, .inr ⟨rfl, p2, l', i', k, t2, es', F2, rfl, hq.setP HPS.out HLKN.out, HG5.out.perm hperm, hf, fun e he => HFS5.out e (hperm.mem_iff.2 (List.mem_cons_of_mem _ he)), HF5.out, by rw [← weight_perm hperm]; have := HW5.out; omega, by omega⟩⟩
            have HST9 := Lib.hid hst9
            clear hcase hblk7 hst9 k0 k1
            go_wp2_with (with_reducible refine wpList_store_row rfl 61 (.tmp 9) (.tmp 47) rfl p2 #[.int .i64 a, .int .i64 cm] rfl rfl 61 #[.int .i64 (l : Int), .int .i64 (i : Int)] HB7.out HI2.out HS2.out HN2.out ?_)
            go_roundg (gk - 1)
            case measure => omega
            case rel => exact HST9.out
end
end Go.Proofs.YtoclelpmampikaaGreat
