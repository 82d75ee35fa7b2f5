/-
  Rows of blocks that a statement makes itself: a block is appended, cut, the row's tail; the document's Epoch.
-/
import Derived.Test.YtbfbcjfeicecmaaSupL
namespace Go.Proofs.Ytbfbcjfeicecmaa
open Go.RowKit Go
set_option linter.unusedVariables false
set_option linter.unusedSimpArgs false
/-- v is a slice that is a block of its own, of 256 bytes, which reads as l -/
def BkI (w : World) (l : List Nat) (v : Value) : Prop :=
  ∃ bi cs, v = .slice (some ⟨bi, 0, none⟩) 256 256 ∧ w.heap[bi]? = some (.cells cs 5 (0, 0)) ∧ (∀ i, i < 256 → cs[i]? = some (.int .u8 ((l.getD i 0 : Nat) : Int))) ∧ l.length = 256 ∧ ∀ i, l.getD i 0 < 256
theorem BkI.below {w w' : World} {l : List Nat} {v : Value} (h : BkI w l v) (hb : Below w.heap.size w w') : BkI w' l v := by
  obtain ⟨bi, cs, h1, h2, h3, h4, h5⟩ := h
  exact ⟨bi, cs, h1, (hb.block bi (blk_lt h2)).trans h2, h3, h4, h5⟩
theorem BkI.bs {w : World} {l : List Nat} {v : Value} (h : BkI w l v) : ∃ A, v = .slice A 256 256 ∧ BS w w.heap.size A 256 256 l := by
  obtain ⟨bi, cs, h1, h2, h3, h4, h5⟩ := h
  exact ⟨_, h1, BS.of_blk h2 (blk_lt h2) h4 (Nat.le_refl _) (by omega) h5 h3⟩
theorem BkI.keep {w w' : World} {l : List Nat} {v : Value} (h : BkI w l v) {row : Option Nat} (hg : w.grownBy w' row) {t : TypeId} {cs : Array Value} {fz : Nat × Nat} (hr : ∀ g, row = some g → w.heap[g]? = some (.cells cs t fz)) (ht : t ≠ 5) : BkI w' l v := by
  obtain ⟨bi, cs2, h1, h2, h3, h4, h5⟩ := h
  refine ⟨bi, cs2, h1, (hg.block bi (blk_lt h2) fun e => ?_).trans h2, h3, h4, h5⟩
  have h6 := hr bi e.symm
  rw [h2] at h6
  have h7 := Option.some.inj h6
  injection h7 with _ h8 _
  exact ht h8.symm
theorem info_bs : (Try.prog.info? 24).map (fun i => (i.zero, i.size, i.bytes)) = some (some (.slice none 0 0), 1, 24) := by kernel_rfl
/-- a row of blocks that the call itself made -/
def BkO (w : World) (B : Nat) (v : Value) (Ls : List (List Nat)) : Prop :=
  ∃ vs : List Value, w.ownsRow B 24 1 v Ls.length vs ∧ ∀ i, i < Ls.length → ∃ x, vs[i]? = some x ∧ BkI w (Ls.getD i []) x
theorem BkO.nil (w : World) (B : Nat) : BkO w B (.slice none 0 0) [] := ⟨[], World.ownsRow_nil _ _ _ _, fun i hi => by simp at hi⟩
theorem own_row {w : World} {B n : Nat} {v : Value} {e : TypeId} {vs : List Value} (h : w.ownsRow B e 1 v n vs) : ∀ g, v.ownBlock = some g → ∃ cs, w.heap[g]? = some (.cells cs e (0, 0)) := by
  intro g hg
  obtain ⟨_, k⟩ := h
  rcases k with ⟨rfl, _⟩ | ⟨g2, cap, cur, rfl, _, hh, _⟩
  · cases hg
  · have e2 : g2 = g := Option.some.inj (show (some g2 : Option Nat) = some g from hg)
    subst e2
    exact ⟨cur, hh⟩
theorem BkO.below {w w' : World} {B : Nat} {v : Value} {Ls : List (List Nat)} (h : BkO w B v Ls) (hb : Below w.heap.size w w') : BkO w' B v Ls := by
  obtain ⟨vs, h1, h2⟩ := h
  refine ⟨vs, h1.kept (row := none) ⟨hb.os, hb.tape, hb.output, hb.size, fun k hk _ => hb.block k hk⟩ (by cases hv : v.ownBlock <;> simp), fun i hi => ?_⟩
  obtain ⟨x, h3, h4⟩ := h2 i hi
  exact ⟨x, h3, h4.below hb⟩
/-- a block is appended -/
theorem wp_appB {ops : Array Oper} {rest : List Oper} {o : Oper} {a : Act} {Q : Exit → Act → World → Prop} (W : World) (hgd : o.guard = none) (s x : Operand)
    (ho : o.op = .call { callee := .builtin .append, args := #[s, x], argTypes := #[39, 39] })
    (B : Nat) (v y : Value) (Ls : List (List Nat)) (l : List Nat) (hs : a.eval s = v) (hown : BkO W B v Ls) (hl : Ls.length < 1000)
    (hx : a.eval x = .slice (some ⟨W.heap.size, 0, none⟩) 1 1) (hy : BkI W l y) (hB : B ≤ W.heap.size)
    (h : ∀ v' w', BkO w' B v' (Ls ++ [l]) → Below B W w' → (∀ l2 y2, BkI W l2 y2 → BkI w' l2 y2) → (∀ g o u, UR W g o u → UR w' g o u) → wpList Try.prog ops Q rest (a.put o.dst v') w') :
    wpList Try.prog ops Q (o :: rest) a (W.alloc (.cells #[y] 24)) := by
  obtain ⟨vs, hown, hit⟩ := hown
  obtain ⟨i0, hi, hz0, hz1, hz2⟩ := info_parts info_bs
  have hba : Below W.heap.size W (W.alloc (.cells #[y] 24)) := (Below.refl _ _).alloc (Nat.le_refl _) _
  obtain ⟨A, rfl, _⟩ := hy.bs
  refine wpList_append_own _ hgd s x 39 ho B 24 i0 (.slice none 0 0) 1 24 Try.underlying39 hi hz0 hz1 hz2 rfl (by decide) v Ls.length vs hs (World.ownsRow.alloc hown _) ⟨W.heap.size, 0, none⟩ 1 1
    [.slice A 256 256] hx rfl ?_ ?_ (by unfold maxLen; omega) (by omega) (by simp; omega) ?_
  · intro j u hj
    match j, hj with
    | 0, hj => simp at hj; subst hj; simp [Addr.add]
  · intro u hu; simp at hu; subst hu; rfl
  · intro v' w1 hown' hg _
    have hrow := own_row (World.ownsRow.alloc hown (.cells #[.slice A 256 256] 24))
    have hkeep : ∀ l2 y2, BkI W l2 y2 → BkI w1 l2 y2 := by
      intro l2 y2 h2
      have h3 := h2.below hba
      obtain ⟨bi, cs2, k1, k2, k3, k4, k5⟩ := h3
      refine ⟨bi, cs2, k1, (hg.block bi (blk_lt k2) fun e => ?_).trans k2, k3, k4, k5⟩
      obtain ⟨cs, hcs⟩ := hrow bi e.symm
      rw [k2] at hcs
      have h7 := Option.some.inj hcs
      injection h7 with _ h8 _
      exact absurd h8 (by decide)
    refine h v' w1 ⟨vs ++ [.slice A 256 256], by rw [List.length_append]; exact hown', fun i hi2 => ?_⟩ (((Below.refl B W).alloc hB _).grown hg (by simp; omega) (fun k hk => (World.ownsRow.lt hown k hk).1)) hkeep ?_
    · have hvl : vs.length = Ls.length := by have := hown.1; simpa using this
      by_cases hlt : i < Ls.length
      · obtain ⟨x2, k1, k2⟩ := hit i hlt
        have e1 : (Ls ++ [l]).getD i [] = Ls.getD i [] := by simp [List.getD, List.getElem?_append_left hlt]
        refine ⟨x2, by rw [List.getElem?_append_left (by omega)]; exact k1, ?_⟩
        rw [e1]
        exact hkeep _ _ k2
      · have e0 : i = Ls.length := by rw [List.length_append] at hi2; simp at hi2; omega
        subst e0
        have e1 : (Ls ++ [l]).getD Ls.length [] = l := by simp [List.getD]
        refine ⟨.slice A 256 256, by rw [← hvl]; simp, ?_⟩
        rw [e1]
        exact hkeep _ _ hy
    · intro g o u hu
      have h3 := hu.below hba
      refine h3.keep (hg.block g h3.lt fun e => ?_)
      obtain ⟨cs, hcs⟩ := hrow g e.symm
      obtain ⟨cs2, k2, _⟩ := h3
      rw [k2] at hcs
      have h7 := Option.some.inj hcs
      injection h7 with _ h8 _
      exact absurd h8 (by decide)
/-- .. as a row that can be read -/
theorem BkO.bks {w : World} {B : Nat} {v : Value} {Ls : List (List Nat)} (h : BkO w B v Ls) (hl : 0 < Ls.length) :
    ∃ g cap, v = .slice (some ⟨g, 0, none⟩) Ls.length cap ∧ Ls.length ≤ cap ∧ B ≤ g ∧ Bks w g 0 Ls ∧ All256 Ls ∧ (∀ i, i < Ls.length → w.frozen? ⟨g, i, none⟩ = false) ∧ (∃ cs, w.heap[g]? = some (.cells cs 24 (0, 0))) ∧ ∀ i, i < Ls.length → ∃ x, w.cell? ⟨g, i, none⟩ = some x ∧ BkI w (Ls.getD i []) x := by
  obtain ⟨vs, h1, h2⟩ := h
  have hall : All256 Ls := fun i hi => by obtain ⟨x, _, bi, cs, _, _, _, h4, _⟩ := h2 i hi; exact h4
  obtain ⟨hvl, k⟩ := h1
  rcases k with ⟨rfl, e⟩ | ⟨g, cap, cur, rfl, hg, hh, hn, hm, hs, ht⟩
  · omega
  · have hc : ∀ i x, i < Ls.length → vs[i]? = some x → w.cell? ⟨g, i, none⟩ = some x := fun i x hi hx => by
      have h3 : (cur.toList.take (Ls.length * 1))[i]? = some x := by rw [ht]; exact hx
      rw [List.getElem?_take_of_lt (by omega)] at h3
      exact (blk_cell hh i).trans (by simpa using h3)
    have hx : ∀ i, i < Ls.length → ∃ x, w.cell? ⟨g, i, none⟩ = some x ∧ BkI w (Ls.getD i []) x := fun i hi => by
      obtain ⟨x, k1, k2⟩ := h2 i hi
      exact ⟨x, hc i x hi k1, k2⟩
    refine ⟨g, cap, rfl, hn, hg, ⟨blk_lt hh, fun i hi => ?_⟩, hall, fun i hi => blk_free hh i, ⟨cur, hh⟩, hx⟩
    obtain ⟨x, k1, k2⟩ := hx i hi
    obtain ⟨A, rfl, k3⟩ := k2.bs
    rw [Nat.zero_add, hall i hi]
    exact ⟨A, 256, k1, k3⟩
theorem Bks.tail {w : World} {b o : Nat} {l : List Nat} {Ls : List (List Nat)} (h : Bks w b o (l :: Ls)) : Bks w b (o + 1) Ls :=
  ⟨h.1, fun i hi => by
    obtain ⟨A, c, h1, h2⟩ := h.2 (i + 1) (by simpa using hi)
    have e : (l :: Ls).getD (i + 1) [] = Ls.getD i [] := by simp
    rw [e] at h1 h2
    exact ⟨A, c, by rw [show o + 1 + i = o + (i + 1) by omega]; exact h1, h2⟩⟩
/-! the document's Epoch -/
theorem flat_drop {Ls : List (List Nat)} (ha : All256 Ls) : ∀ (q s : Nat), q < Ls.length → s + 8 ≤ 256 → (Ls.flatten.drop (256 * q + s)).take 8 = ((Ls.getD q []).drop s).take 8 := by
  intro q s hq hs
  induction Ls generalizing q with
  | nil => simp at hq
  | cons a Ls ih =>
    have h0 : a.length = 256 := by simpa using ha 0 (by simp)
    rw [List.flatten_cons]
    cases q with
    | zero =>
      rw [Nat.mul_zero, Nat.zero_add, List.drop_append_of_le_length (by omega), List.take_append_of_le_length (by rw [List.length_drop]; omega)]
      rfl
    | succ q =>
      have e : 256 * (q + 1) + s = a.length + (256 * q + s) := by omega
      rw [e, List.drop_append, List.drop_of_length_le (by omega), List.nil_append, show a.length + (256 * q + s) - a.length = 256 * q + s by omega]
      have := ih (fun i hi => by have := ha (i + 1) (by simpa using hi); simpa using this) q (by simpa using hq)
      rw [this]; simp
theorem epoch_num {Ls : List (List Nat)} (ha : All256 Ls) {k : Nat} (hk : k / 32 < Ls.length) : numAt Ls.flatten 8 k = num (((Ls.getD (k / 32) []).drop (8 * (k % 32))).take 8) := by
  unfold numAt
  rw [show 8 * k = 256 * (k / 32) + 8 * (k % 32) by omega, flat_drop ha _ _ hk (by omega)]
set_option maxHeartbeats 1000000 in
theorem repoch_any (b o c k : Nat) (Ls : List (List Nat)) (w : World) (h : Bks w b o Ls) (ha : All256 Ls) (hk : k / 32 < Ls.length) (hl : Ls.length ≤ 1000) :
    Calls Try.prog 21 #[.slice (some ⟨b, o, none⟩) Ls.length c, .int .i64 (k : Int)] w fun e w' => e = .returned (.int .u64 ((numAt Ls.flatten 8 k : Nat) : Int)) ∧ w = w' := by
  have HN := Lib.hid (epoch_num ha hk)
  obtain ⟨A, c1, k1, k2⟩ := h.2 (k / 32) hk
  rw [ha _ hk] at k1 k2
  obtain ⟨bb, oo, rfl, hbb, _⟩ := k2.at_ (by omega)
  have hcap := k2.cap
  have hs8 : 8 * (k % 32) + 8 ≤ 256 := by omega
  have hcut := (k2.drop (k := 8 * (k % 32)) (by omega)).take (k := 8) (by omega)
  have e1 : (if c1 = 8 * (k % 32) then some (⟨bb, oo, none⟩ : Addr) else (some (⟨bb, oo, none⟩ : Addr)).map (·.add (8 * (k % 32)))) = some ⟨bb, oo + 8 * (k % 32), none⟩ := by
    rw [if_neg (by omega)]
    simp [Go.WideShapes.add_plain]
  rw [e1] at hcut
  generalize numAt Ls.flatten 8 k = x at *
  generalize Ls.getD (k / 32) [] = l at *
  have q1 : (k : Int) / 32 = ((k / 32 : Nat) : Int) := by omega
  have q2 : (k : Int) % 32 = ((k % 32 : Nat) : Int) := by omega
  have hq : k / 32 ≤ 1000 := by omega
  generalize k / 32 = q at *
  have hr : k % 32 < 32 := by omega
  generalize k % 32 = r at *
  have q3 : (8 : Int) * (r : Int) = ((8 * r : Nat) : Int) := by omega
  generalize 8 * r = s at *
  have hc1 : s ≤ c1 := by omega
  have hc2 : s + 8 ≤ c1 := by omega
  have HC := Lib.hid hcut
  have HL := Lib.hid hl
  generalize Ls.length = n at *
  clear hcut h ha e1 k2
  go_enter Try.func21, Try.ntmps21
  go_wp2_with fail
  refine (refGet_any _ 8 _ _ _ _ HC.out).mono ?_
  rintro e w' ⟨rfl, rfl⟩
  rw [List.take_take, Nat.min_self, ← HN.out]
  go_wp2
  go_ret
  exact ⟨rfl, rfl⟩
end Go.Proofs.Ytbfbcjfeicecmaa
