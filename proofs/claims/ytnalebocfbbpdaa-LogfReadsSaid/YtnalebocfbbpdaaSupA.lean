/-
  Package super: a block of numbers; what Bytes answers, and the document's Bytes.
-/
import Derived.Test.YtnalebocfbbpdaaRowB
import Derived.Test.YtnalebocfbbpdaaOwnW
import Derived.Test.YtnalebocfbbpdaaGeoC
import Derived.ArgAppend
namespace Go.Proofs.Ytnalebocfbbpdaa
open Go.RowKit Go
set_option linter.unusedVariables false
/-- a row of numbers of 64 bits: from place o of block g on they are l -/
def UR (w : World) (g o : Nat) (l : List Nat) : Prop := ∃ cs : Array Value, w.heap[g]? = some (.cells cs 24 (0, 0)) ∧ ∀ i, i < l.length → cs[o + i]? = some (.int .u64 ((l.getD i 0 : Nat) : Int))
theorem UR.lt {w : World} {g o : Nat} {l : List Nat} (h : UR w g o l) : g < w.heap.size := by obtain ⟨cs, h, _⟩ := h; exact blk_lt h
theorem UR.cell {w : World} {g o : Nat} {l : List Nat} (h : UR w g o l) {i : Nat} (hi : i < l.length) : w.cell? ⟨g, o + i, none⟩ = some (.int .u64 ((l.getD i 0 : Nat) : Int)) := by
  obtain ⟨cs, h, hc⟩ := h
  exact (blk_cell h _).trans (hc i hi)
theorem UR.keep {w w' : World} {g o : Nat} {l : List Nat} (h : UR w g o l) (hk : w'.heap[g]? = w.heap[g]?) : UR w' g o l := by
  obtain ⟨cs, h, hc⟩ := h
  exact ⟨cs, hk.trans h, hc⟩
theorem UR.below {w w' : World} {g o : Nat} {l : List Nat} (h : UR w g o l) (hb : Below w.heap.size w w') : UR w' g o l := h.keep (hb.block g h.lt)
theorem UR.own {w : World} {g o B : Nat} {v : Value} {l m : List Nat} (h : UR w g o l) (ho : Own w B v m) : v.ownBlock ≠ some g := by
  intro e
  obtain ⟨cs, h, _⟩ := h
  obtain ⟨_, k⟩ := ho
  rcases k with ⟨rfl, _⟩ | ⟨g2, cap, cur, rfl, _, hh, _⟩
  · cases e
  · have e2 : g2 = g := by
      have : (some g2 : Option Nat) = some g := e
      exact Option.some.inj this
    subst e2
    rw [hh] at h
    have h2 := Option.some.inj h
    injection h2 with _ h3 _
    exact absurd h3 (by decide)
theorem UR.only {w w' : World} {g o : Nat} {l : List Nat} {row : Option Nat} (h : UR w g o l) (hb : w.grownBy w' row) (hne : row ≠ some g) : UR w' g o l := h.keep (hb.block g h.lt (fun e => hne e.symm))
/-- a slice of bytes is appended; only the slice's own block turns -/
theorem wp_appsG {ops : Array Oper} {rest : List Oper} {o : Oper} {a : Act} {Q : Exit → Act → World → Prop} (W : World) (hgd : o.guard = none) (s x : Operand)
    (ho : o.op = .call { callee := .builtin .append, args := #[s, x], argTypes := #[42, 42] })
    (B : Nat) (v : Value) (l : List Nat) (hs : a.eval s = v) (hown : Own W B v l)
    (B' : Nat) (A : Option Addr) (m c : Nat) (l' : List Nat) (hx : a.eval x = .slice A m c) (hr : BS W B' A m c l') (hm0 : 0 < m) (hn : l.length + m < 1000000000) (hB : B ≤ W.heap.size)
    (h : ∀ v' w', Own w' B v' (l ++ l') → Below B W w' → W.grownBy w' v.ownBlock → wpList Try.prog ops Q rest (a.put o.dst v') w') :
    wpList Try.prog ops Q (o :: rest) a W := by
  obtain ⟨i0, hi, hz0, hz1, hz2⟩ := info_parts info_u8
  have hm := hr.len
  obtain ⟨b, off, rfl, _, hc⟩ := hr.at_ hm0
  refine wpList_append_own _ hgd s x 42 ho B 5 i0 (.int .u8 0) 1 1 Try.underlying42 hi hz0 hz1 hz2 rfl (by decide) v l.length (bvals l) hs hown ⟨b, off, none⟩ m c
      (bvals l') hx (by rw [bvals_len, hm, Nat.mul_one]) ?_ (bvals_one l') (by unfold maxLen; omega) (by omega) hB ?_
  · intro j u hj
    have hjl : j < l'.length := by
      rcases Nat.lt_or_ge j l'.length with h | h
      · exact h
      · rw [List.getElem?_eq_none (by rw [bvals_len]; exact h)] at hj; cases hj
    have h2 := hc j (by omega)
    rw [Go.WideShapes.add_plain, h2, ← hj]
    simp [bvals, List.getElem?_eq_getElem hjl, List.getD]
  · intro v' w1 hown' hg _
    refine h v' w1 ?_ ((Below.refl B W).grown hg hB (fun k hk => (World.ownsRow.lt hown k hk).1)) hg
    have e : bvals (l ++ l') = bvals l ++ bvals l' := by simp [bvals]
    unfold Own
    rw [e, List.length_append, hm]
    exact hown'
/-- a slice of the call's own, or one that is full and reads as l (a constant's bytes) -/
def OwnF (W : World) (B : Nat) (v : Value) (l : List Nat) : Prop :=
  Own W B v l ∨ ∃ g, g < W.heap.size ∧ v = .slice (some ⟨g, 0, none⟩) l.length l.length ∧ l.length < 1000000 ∧ ∀ j, j < l.length → W.cell? ⟨g, j, none⟩ = some (.int .u8 ((l.getD j 0 : Nat) : Int))
theorem OwnF.below {w w' : World} {B : Nat} {v : Value} {l : List Nat} (h : OwnF w B v l) (hb : Below w.heap.size w w') : OwnF w' B v l := by
  rcases h with h | ⟨g, h1, h2, h3, h4⟩
  · exact .inl (h.below hb)
  · exact .inr ⟨g, Nat.lt_of_lt_of_le h1 hb.size, h2, h3, fun j hj => (hb.cell (p := ⟨g, j, none⟩) h1).trans (h4 j hj)⟩
theorem OwnF.bs {w : World} {B : Nat} {v : Value} {l : List Nat} (h : OwnF w B v l) (h2 : ∀ i, l.getD i 0 < 256) : ∃ A c, v = .slice A l.length c ∧ BS w w.heap.size A l.length c l := by
  rcases h with h | ⟨g, k1, k2, k3, k4⟩
  · exact h.bs h2
  · exact ⟨_, _, k2, rfl, Nat.le_refl _, by omega, h2, fun _ => ⟨g, 0, rfl, k1, fun i hi => by rw [Nat.zero_add]; exact k4 i hi⟩⟩
theorem wp_appsF {ops : Array Oper} {rest : List Oper} {o : Oper} {a : Act} {Q : Exit → Act → World → Prop} (W : World) (hgd : o.guard = none) (s x : Operand)
    (ho : o.op = .call { callee := .builtin .append, args := #[s, x], argTypes := #[42, 42] })
    (B : Nat) (v : Value) (l : List Nat) (hs : a.eval s = v) (hown : OwnF W B v l)
    (B' : Nat) (A : Option Addr) (m c : Nat) (l' : List Nat) (hx : a.eval x = .slice A m c) (hr : BS W B' A m c l') (hm0 : 0 < m) (hn : l.length + m < 1000000000) (hB : B ≤ W.heap.size)
    (h : ∀ v' w', Own w' B v' (l ++ l') → Below B W w' → (∀ g o u, UR W g o u → UR w' g o u) → wpList Try.prog ops Q rest (a.put o.dst v') w') :
    wpList Try.prog ops Q (o :: rest) a W := by
  rcases hown with hown | ⟨g, k1, k2, k3, k4⟩
  · exact wp_appsG W hgd s x ho B v l hs hown B' A m c l' hx hr hm0 hn hB fun v' w' h1 h2 h3 => h v' w' h1 h2 fun g o u hu => hu.only h3 (hu.own hown)
  · obtain ⟨i0, hi, hz0, hz1, hz2⟩ := info_parts info_u8
    have hm := hr.len
    obtain ⟨b, off, rfl, _, hc⟩ := hr.at_ hm0
    subst k2
    refine wpList_append_grows W hgd s x 42 ho 5 i0 (.int .u8 0) 1 1 Try.underlying42 hi hz0 hz1 hz2 rfl (by decide) (some ⟨g, 0, none⟩) l.length l.length (bvals l) hs (fun e => by cases e) (by rw [bvals_len, Nat.mul_one]) ?_
      ⟨b, off, none⟩ m c (bvals l') hx (by rw [bvals_len, hm, Nat.mul_one]) ?_ (bvals_one l') (by omega) (by unfold maxLen; omega) (by omega) ?_
    · intro b2 e j u hj
      obtain rfl := Option.some.inj e
      have hjl : j < l.length := by
        rcases Nat.lt_or_ge j l.length with h | h
        · exact h
        · rw [List.getElem?_eq_none (by rw [bvals_len]; exact h)] at hj; cases hj
      rw [Go.WideShapes.add_plain, Nat.zero_add, k4 j hjl, ← hj]
      simp [bvals, List.getElem?_eq_getElem hjl, List.getD]
    · intro j u hj
      have hjl : j < l'.length := by
        rcases Nat.lt_or_ge j l'.length with h | h
        · exact h
        · rw [List.getElem?_eq_none (by rw [bvals_len]; exact h)] at hj; cases hj
      have h2 := hc j (by omega)
      rw [Go.WideShapes.add_plain, h2, ← hj]
      simp [bvals, List.getElem?_eq_getElem hjl, List.getD]
    · intro v' w1 hown' hg
      have e : bvals (l ++ l') = bvals l ++ bvals l' := by simp [bvals]
      refine h v' w1 ?_ ((Below.refl B W).grown hg hB (fun k hk => by cases hk)) fun g o u hu => hu.only hg (by simp)
      unfold Own
      rw [e, List.length_append, hm]
      obtain ⟨q1, q2⟩ := hown'
      refine ⟨q1, ?_⟩
      rcases q2 with q2 | ⟨g, cap, cur, hv, hg, hh, hr⟩
      · exact .inl q2
      · exact .inr ⟨g, cap, cur, hv, Nat.le_trans hB hg, hh, hr⟩
/-- numbers of n bytes each -/
def blkL (n : Nat) (l : List Nat) : List Nat := l.flatMap (putL n)
theorem blkL_len (n : Nat) (l : List Nat) : (blkL n l).length = n * l.length := by
  induction l with
  | nil => simp [blkL]
  | cons a l ih =>
    unfold blkL at *
    rw [List.flatMap_cons, List.length_append, ih, putL_len, List.length_cons]
    rw [Nat.mul_add]; omega
theorem blkL_byte (n : Nat) (l : List Nat) (i : Nat) : (blkL n l).getD i 0 < 256 := by
  induction l generalizing i with
  | nil => simp [blkL]
  | cons a l ih =>
    unfold blkL at *
    rw [List.flatMap_cons, List.getD_eq_getElem?_getD]
    by_cases h : i < (putL n a).length
    · rw [List.getElem?_append_left h, ← List.getD_eq_getElem?_getD]; exact putL_byte _ _ _
    · rw [List.getElem?_append_right (by omega), ← List.getD_eq_getElem?_getD]; exact ih _
theorem take_step {l : List Nat} {k : Nat} (hk : k < l.length) : l.take (k + 1) = l.take k ++ [l.getD k 0] := by
  rw [List.take_add_one, List.getElem?_eq_getElem hk]
  simp [List.getD, List.getElem?_eq_getElem hk]
theorem blkL_step (n : Nat) {l : List Nat} {k : Nat} (hk : k < l.length) : blkL n (l.take (k + 1)) = blkL n (l.take k) ++ putL n (l.getD k 0) := by
  rw [take_step hk]; unfold blkL; rw [List.flatMap_append]; simp
theorem app_byte {a b : List Nat} (ha : ∀ i, a.getD i 0 < 256) (hb : ∀ i, b.getD i 0 < 256) (i : Nat) : (a ++ b).getD i 0 < 256 := by
  rw [List.getD_eq_getElem?_getD]
  by_cases h : i < a.length
  · rw [List.getElem?_append_left h, ← List.getD_eq_getElem?_getD]; exact ha i
  · rw [List.getElem?_append_right (by omega), ← List.getD_eq_getElem?_getD]; exact hb _
/-- as Gives; what lies below block B stands as it was -/
def GivesB (B : Nat) (w : World) (l : List Nat) (e : Ending) (w' : World) : Prop :=
  ∃ A c, e = .returned (.slice A l.length c) ∧ Below B w w' ∧ BS w' w'.heap.size A l.length c l
theorem pad256 (A : Option Addr) (m c : Nat) (L : List Nat) (W : World) (h : BS W W.heap.size A m c L) (hm : m ≤ 256) :
    Calls Try.prog 35 #[.slice A m c, .int .i64 256] W (Gives W (padL L 256)) := pad_yes A m c 256 L W h (by omega) (by omega) (by omega)
def BlkRel (w : World) (B g o n : Nat) (l0 l : List Nat) (v i : Value) (wr : World) : Prop :=
  ∃ k : Nat, i = .int .i64 (k : Int) ∧ k ≤ l.length ∧ OwnF wr B v (l0 ++ blkL n (l.take k)) ∧ Below B w wr ∧ UR wr g o l
end Go.Proofs.Ytnalebocfbbpdaa
