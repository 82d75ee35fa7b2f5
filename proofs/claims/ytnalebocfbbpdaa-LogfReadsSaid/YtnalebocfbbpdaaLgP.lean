/-
  logf: Pad and Clone, whose bytes lie in a block of their own; rows of such bytes.
-/
import Derived.Test.YtnalebocfbbpdaaLgI
import Derived.Test.YtnalebocfbbpdaaRowA
import Derived.Laws.CopyOwn
namespace Go.Proofs.Ytnalebocfbbpdaa
open Go.RowKit Go
set_option linter.unusedVariables false
set_option linter.unusedSimpArgs false
set_option maxRecDepth 100000
theorem pad_own_end {w w' : World} {l : List Nat} {n m : Nat} (hn : n ≤ 65536) (hl : l.length = m) (h : ∀ i, l.getD i 0 < 256) (hb : Below w.heap.size w w')
    (hx : w'.heap[w.heap.size]? = some (.cells (splice (zeros n).toList 0 (bvals (l.take (min m n)))).toArray 5 (0, 0))) : GivesO w (padL l n) (.returned (.slice (some ⟨w.heap.size, 0, none⟩) n n)) w' := by
  have e := padL_len l n
  have hs : (splice (zeros n).toList 0 (bvals (l.take (min m n)))).length = n := by
    have hz : (zeros n).toList.length = n := by simp [zeros]
    have hb2 : (bvals (l.take (min m n))).length ≤ n := by rw [bvals_len, List.length_take]; omega
    rw [length_splice _ _ _ (by rw [hz]; omega), hz]
  refine ⟨_, rfl, Own.blk (Nat.le_refl _) hx e (Nat.le_refl _) (by unfold maxLen; omega) (by simpa using hs) ?_, hb⟩
  rw [List.take_of_length_le (by simpa using Nat.le_of_eq hs)]
  refine List.ext_getElem? fun i => ?_
  rcases Nat.lt_or_ge i n with hi | hi
  · have h1 := pad_cells hl i hi
    have h2 : (bvals (padL l n))[i]? = some (.int .u8 (((padL l n).getD i 0 : Nat) : Int)) := by
      unfold bvals
      rw [List.getElem?_map, List.getElem?_eq_getElem (by rw [e]; exact hi)]
      simp [List.getD, List.getElem?_eq_getElem (show i < (padL l n).length by rw [e]; exact hi)]
    rw [h2, ← h1]
    simp
  · rw [List.getElem?_eq_none (by simpa [hs] using hi), List.getElem?_eq_none (by rw [bvals_len, e]; exact hi)]
set_option maxHeartbeats 400000 in
theorem pad_own (A : Option Addr) (m c n : Nat) (l : List Nat) (w : World) (hs : BS w w.heap.size A m c l) (hm : m ≤ 1000) (h1 : 1 ≤ n) (hn : n ≤ 65536) :
    Calls Try.prog 35 #[.slice A m c, .int .i64 (n : Int)] w (GivesO w (padL l n)) := by
  have hmk := make_bytes n (by omega)
  have hcap := hs.cap
  have HS := Lib.hid hs
  clear hs
  have hk : (bvals (l.take (min m n))).length = Nat.min m n := by
    unfold bvals
    rw [List.length_map, List.length_take, HS.out.len]
    show min (min m n) m = min m n
    omega
  have hz : ∀ W : World, (W.alloc (.cells (zeros n) 5)).heap[W.heap.size]? = some (.cells (zeros n).toList.toArray 5 (0, 0)) := fun W => by rw [heap_alloc_new]
  have hp : 0 < (bvals (l.take (min m n))).length → some (⟨w.heap.size, 0, none⟩ : Addr) = some ⟨w.heap.size, 0, none⟩ ∧ ∃ ad, A = some ad ∧ ∀ j v, (bvals (l.take (min m n)))[j]? = some v → (w.alloc (.cells (zeros n) 5)).cell? (ad.add j) = some v := by
    intro h0
    refine ⟨rfl, ?_⟩
    have hm0 : 0 < m := by
      rw [hk] at h0
      have : Nat.min m n ≤ m := Nat.min_le_left _ _
      omega
    obtain ⟨b, o, rfl, hb, hcell⟩ := HS.out.at_ hm0
    refine ⟨_, rfl, fun j v hj => ?_⟩
    have hj1 : j < (bvals (l.take (min m n))).length := by
      rcases Nat.lt_or_ge j (bvals (l.take (min m n))).length with h | h
      · exact h
      · rw [List.getElem?_eq_none h] at hj; cases hj
    rw [hk] at hj1
    have h2 : Nat.min m n ≤ m := Nat.min_le_left _ _
    have hlen := HS.out.len
    rw [Go.WideShapes.add_plain, ((Below.refl w.heap.size w).alloc (Nat.le_refl _) _).cell (p := ⟨b, o + j, none⟩) hb, hcell j (by omega)]
    rw [← hj]
    have h3 : j < min m n := hj1
    simp [bvals, List.getElem?_map, List.getElem?_take_of_lt h3, List.getElem?_eq_getElem (show j < l.length by omega), List.getD]
  have HK := Lib.hid hk
  have HP := Lib.hid hp
  have HZ := Lib.hid hz
  have H1 : ∀ v ∈ bvals (l.take (min m n)), v.oneCell' = true := by
    intro v hv
    obtain ⟨x, _, rfl⟩ := List.mem_map.mp hv
    rfl
  have hfit : 0 + (bvals (l.take (min m n))).length ≤ (zeros n).toList.length := by
    have : Nat.min m n ≤ n := Nat.min_le_right _ _
    rw [hk]
    simp [zeros]
    exact this
  have HO := Lib.hid H1
  have HFi := Lib.hid hfit
  clear hk hp hz H1 hfit
  go_enter Try.func35, Try.ntmps35
  go_wp2_with (with_reducible refine wpList_copy_splice rfl (.tmp 14) (.tmp 15) 42 42 rfl 5 Try.underlying42 (by kernel_rfl) _ A n n m c rfl rfl w.heap.size 0 (zeros n).toList 5 (HZ.out _) (bvals (l.take (min m n))) HK.out HP.out HFi.out HO.out w.heap.size w ((Below.refl _ _).alloc (Nat.le_refl _) _) (Nat.le_refl _) ?_)
  intro w2 hw2 hb2
  have H : GivesO w (padL l n) (.returned (.slice (some ⟨w.heap.size, 0, none⟩) n n)) w2 := pad_own_end hn HS.out.len HS.out.byte hb2 hw2.out
  have HH := Lib.hid H
  clear H hw2 hb2
  go_wp2
  go_ret
  exact HH.out
set_option maxHeartbeats 400000 in
theorem bclone_own (A : Option Addr) (n c : Nat) (l : List Nat) (w : World) (hs : BS w w.heap.size A n c l) (hn : n ≤ 1000) :
    Calls Try.prog 21 #[.slice A n c] w (GivesO w l) := by
  have hlen := hs.len
  have hby := hs.byte
  have hq := eql_nil
  rcases A with _ | ad
  · have hl : l = [] := by
      rcases Nat.eq_zero_or_pos n with h0 | h0
      · exact List.eq_nil_of_length_eq_zero (by omega)
      · obtain ⟨b, o, e, _⟩ := hs.at_ h0; cases e
    subst hl
    have HG : GivesO w [] (.returned (.slice none 0 0)) w := ⟨_, rfl, Own.nil _ _, Below.refl _ _⟩
    have H := Lib.hid HG
    clear HG hs hlen hby
    go_enter Try.func21, Try.ntmps21
    go_wp2
    go_ret
    exact H.out
  · have HS := Lib.hid hs
    have HL := Lib.hid hlen
    have HBY := Lib.hid hby
    clear hs hlen hby
    go_enter Try.func21, Try.ntmps21
    go_wp2_with (at_builtin; refine wp_app_all _ rfl _ _ rfl ad n c l rfl rfl HS.out (by omega) ?_; intro v' w1 hown1 hb1)
    have HG : GivesO w l (.returned v') w1 := ⟨v', rfl, hown1, hb1⟩
    have H := Lib.hid HG
    clear HG hown1 hb1
    go_ret
    exact H.out
/-- a row of bytes, each in a block of its own -/
def BrO (w : World) (B : Nat) (v : Value) (Ls : List (List Nat)) : Prop :=
  ∃ vs : List Value, w.ownsRow B 42 1 v Ls.length vs ∧ ∀ i, i < Ls.length → ∃ x, vs[i]? = some x ∧ Own w 0 x (Ls.getD i []) ∧ ∀ j, (Ls.getD i []).getD j 0 < 256
theorem info_bs : (Try.prog.info? 42).map (fun i => (i.zero, i.size, i.bytes)) = some (some (.slice none 0 0), 1, 24) := by kernel_rfl
theorem own_grown {w w' : World} {l : List Nat} {v : Value} (h : Own w 0 v l) {row : Option Nat} (hg : w.grownBy w' row) {t : TypeId} (hr : ∀ g, row = some g → ∃ cs, w.heap[g]? = some (.cells cs t (0, 0))) (ht : t ≠ 5) : Own w' 0 v l :=
  h.keep fun g e => hg.block g (h.lt e).2 fun e2 => by
    obtain ⟨cs, h3⟩ := own_rows h g e
    obtain ⟨cs2, h4⟩ := hr g e2.symm
    rw [h3] at h4
    have h5 := Option.some.inj h4
    injection h5 with _ h6 _
    exact ht h6.symm
theorem BrO.below {w w' : World} {B : Nat} {v : Value} {Ls : List (List Nat)} (h : BrO w B v Ls) (hb : Below w.heap.size w w') : BrO w' B v Ls := by
  obtain ⟨vs, h1, h2⟩ := h
  refine ⟨vs, h1.kept (row := none) ⟨hb.os, hb.tape, hb.output, hb.size, fun k hk _ => hb.block k hk⟩ (by cases hv : v.ownBlock <;> simp), fun i hi => ?_⟩
  obtain ⟨x, h3, h4, h5⟩ := h2 i hi
  exact ⟨x, h3, h4.below hb, h5⟩
theorem BrO.one {w : World} {v : Value} {l : List Nat} {B : Nat} (hB : B ≤ w.heap.size) (h : Own w 0 v l) (hb : ∀ j, l.getD j 0 < 256) : BrO (w.alloc (.cells #[v] 42)) B (.slice (some ⟨w.heap.size, 0, none⟩) 1 1) [l] :=
  ⟨[v], ⟨rfl, .inr ⟨w.heap.size, 1, #[v], rfl, hB, heap_alloc_new _ _, Nat.le_refl _, by unfold maxLen; omega, rfl, rfl⟩⟩, fun i hi => by
    have h0 : i = 0 := by simp at hi; exact hi
    subst h0
    exact ⟨v, rfl, h.alloc _, hb⟩⟩
theorem BrO.at_ {w : World} {B : Nat} {v : Value} {Ls : List (List Nat)} (h : BrO w B v Ls) (hl : 0 < Ls.length) :
    ∃ g cap, v = .slice (some ⟨g, 0, none⟩) Ls.length cap ∧ Ls.length ≤ cap ∧ cap ≤ 9223372036854775807 ∧ g < w.heap.size ∧ ∀ i, i < Ls.length → ∃ A c, w.cell? ⟨g, i, none⟩ = some (.slice A (Ls.getD i []).length c) ∧ BS w w.heap.size A (Ls.getD i []).length c (Ls.getD i []) := by
  obtain ⟨vs, ⟨hvl, k⟩, h2⟩ := h
  rcases k with ⟨rfl, e⟩ | ⟨g, cap, cur, rfl, hg, hh, hn, hm, hs, ht⟩
  · omega
  · refine ⟨g, cap, rfl, hn, by unfold maxLen at hm; omega, blk_lt hh, fun i hi => ?_⟩
    obtain ⟨x, k1, k2, k3⟩ := h2 i hi
    obtain ⟨A, c, rfl, hbs⟩ := k2.bs k3
    refine ⟨A, c, (blk_cell hh i).trans ?_, hbs⟩
    have h3 : (cur.toList.take (Ls.length * 1))[i]? = some (.slice A (Ls.getD i []).length c) := by rw [ht]; exact k1
    rw [List.getElem?_take_of_lt (by omega)] at h3
    simpa using h3
/-- bytes are appended to the row -/
theorem wp_appBr {ops : Array Oper} {rest : List Oper} {o : Oper} {a : Act} {Q : Exit → Act → World → Prop} (W : World) (hgd : o.guard = none) (s x : Operand)
    (ho : o.op = .call { callee := .builtin .append, args := #[s, x], argTypes := #[29, 29] })
    (B : Nat) (v y : Value) (Ls : List (List Nat)) (l : List Nat) (hs : a.eval s = v) (hown : BrO W B v Ls) (hl : Ls.length < 1000)
    (hx : a.eval x = .slice (some ⟨W.heap.size, 0, none⟩) 1 1) (hy : Own W 0 y l) (hyb : ∀ j, l.getD j 0 < 256) (hB : B ≤ W.heap.size)
    (h : ∀ v' w', BrO w' B v' (Ls ++ [l]) → Below B W w' → wpList Try.prog ops Q rest (a.put o.dst v') w') :
    wpList Try.prog ops Q (o :: rest) a (W.alloc (.cells #[y] 42)) := by
  obtain ⟨vs, hr, hit⟩ := hown
  obtain ⟨i0, hi, hz0, hz1, hz2⟩ := info_parts info_bs
  have hba : Below W.heap.size W (W.alloc (.cells #[y] 42)) := (Below.refl _ _).alloc (Nat.le_refl _) _
  have hra := World.ownsRow.alloc hr (.cells #[y] 42)
  have hBa : B ≤ (W.alloc (.cells #[y] 42)).heap.size := by simp; omega
  obtain ⟨A, c, rfl, _⟩ := hy.bs hyb
  refine wpList_append_own _ hgd s x 29 ho B 42 i0 (.slice none 0 0) 1 24 Try.underlying29 hi hz0 hz1 hz2 rfl (by decide) v Ls.length vs hs hra ⟨W.heap.size, 0, none⟩ 1 1
    [.slice A l.length c] hx rfl ?_ ?_ (by unfold maxLen; omega) (by omega) hBa ?_
  · intro j u hj
    match j, hj with
    | 0, hj => simp at hj; subst hj; simp [Addr.add]
  · intro u hu; simp at hu; subst hu; rfl
  · intro v' w1 hown' hg _
    have hrow : ∀ g, v.ownBlock = some g → ∃ cs, (W.alloc (.cells #[.slice A l.length c] 42)).heap[g]? = some (.cells cs 42 (0, 0)) := fun g e => own_rows hra g e
    have hkeep : ∀ x2 l2, Own W 0 x2 l2 → Own w1 0 x2 l2 := fun x2 l2 h2 => own_grown (h2.alloc _) hg hrow (by decide)
    refine h v' w1 ⟨vs ++ [.slice A l.length c], by rw [List.length_append]; exact hown', fun i hi2 => ?_⟩ (((Below.refl B W).alloc hB _).grown hg hBa (fun k hk => (World.ownsRow.lt hra k hk).1))
    have hvl : vs.length = Ls.length := by have := hr.1; simpa using this
    by_cases hlt : i < Ls.length
    · obtain ⟨x2, k1, k2, k3⟩ := hit i hlt
      have e1 : (Ls ++ [l]).getD i [] = Ls.getD i [] := by simp [List.getD, List.getElem?_append_left hlt]
      rw [e1]
      exact ⟨x2, by rw [List.getElem?_append_left (by omega)]; exact k1, hkeep _ _ k2, k3⟩
    · have e0 : i = Ls.length := by rw [List.length_append] at hi2; simp at hi2; omega
      subst e0
      have e1 : (Ls ++ [l]).getD Ls.length [] = l := by simp [List.getD]
      rw [e1]
      exact ⟨_, by rw [← hvl]; simp, hkeep _ _ hy, hyb⟩
end Go.Proofs.Ytnalebocfbbpdaa
