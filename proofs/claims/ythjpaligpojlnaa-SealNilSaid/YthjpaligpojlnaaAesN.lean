/-
  What a word has of the one ahead of it, in one; a cipher in which one word is being written.
-/
import Derived.Test.YthjpaligpojlnaaAesM
namespace Go.Proofs.Ythjpaligpojlnaa
open Go.RowKit Go
set_option linter.unusedVariables false
attribute [local irreducible] Gf.inv Gf.tm Gf.pw Gf.spread Gf.sub Gf.boxAt Gf.bk Gf.rm Gf.bit
def bv (n : Nat) (ks : List Nat) (i r : Nat) : Nat :=
  if i % n = 0 then Gf.sub (ks.getD (4 * (i - 1) + (r + 1) % 4) 0) ^^^ (if r = 0 then Gf.pw 2 (i / n - 1) else 0)
  else if n = 8 ∧ i % 8 = 4 then Gf.sub (ks.getD (4 * (i - 1) + r) 0) else ks.getD (4 * (i - 1) + r) 0
theorem wnext_bv (n : Nat) (ks : List Nat) (i r : Nat) : Aes.wnext Gf.sub n ks i r = ks.getD (4 * (i - n) + r) 0 ^^^ bv n ks i r := rfl
theorem bv_lt {n i : Nat} {ks : List Nat} (hb : ∀ j, ks.getD j 0 < 256) (r : Nat) : bv n ks i r < 256 := by
  unfold bv
  have h0 : 0 < 256 := by omega
  split
  · refine Nat.xor_lt_two_pow (n := 8) (Gf.sub_lt (hb _)) ?_
    split
    · exact Gf.pw_lt (by omega) _
    · exact h0
  · split
    · exact Gf.sub_lt (hb _)
    · exact hb _
theorem bent_any (g n i : Nat) (hn : n = 4 ∨ n = 8) (hi : n ≤ i) (hi2 : i < 60) (ks : List Nat) (hb : ∀ j, ks.getD j 0 < 256) (w : World)
    (hw : Wd w g (i - 1) (ks.getD (4 * (i - 1) + 0) 0) (ks.getD (4 * (i - 1) + 1) 0) (ks.getD (4 * (i - 1) + 2) 0) (ks.getD (4 * (i - 1) + 3) 0)) (hbx : BoxC w g) :
    Calls Try.prog 44 #[.pointer (some ⟨g, 0, none⟩), .int .i64 (i : Int), .int .i64 (n : Int)] w fun e w' => e = .returned (.agg (l4 (bv n ks i 0) (bv n ks i 1) (bv n ks i 2) (bv n ks i 3))) ∧ Below w.heap.size w w' := by
  by_cases h0 : i % n = 0
  · have e0 : bv n ks i 0 = Gf.sub (ks.getD (4 * (i - 1) + 1) 0) ^^^ Gf.pw 2 (i / n - 1) := by unfold bv; rw [if_pos h0, if_pos rfl]
    have e1 : bv n ks i 1 = Gf.sub (ks.getD (4 * (i - 1) + 2) 0) := by unfold bv; rw [if_pos h0, if_neg (by omega), Nat.xor_zero]
    have e2 : bv n ks i 2 = Gf.sub (ks.getD (4 * (i - 1) + 3) 0) := by unfold bv; rw [if_pos h0, if_neg (by omega), Nat.xor_zero]
    have e3 : bv n ks i 3 = Gf.sub (ks.getD (4 * (i - 1) + 0) 0) := by unfold bv; rw [if_pos h0, if_neg (by omega), Nat.xor_zero]
    rw [e0, e1, e2, e3]
    rcases hn with rfl | rfl
    · exact bent_a4 g i (i - 1) (i / 4 - 1) _ _ _ _ (by omega) hi2 (by omega) (hb _) (hb _) (hb _) (hb _) w hw hbx
    · exact bent_a8 g i (i - 1) (i / 8 - 1) _ _ _ _ (by omega) hi2 (by omega) (hb _) (hb _) (hb _) (hb _) w hw hbx
  · rcases hn with rfl | rfl
    · have e : ∀ r, bv 4 ks i r = ks.getD (4 * (i - 1) + r) 0 := fun r => by unfold bv; rw [if_neg h0, if_neg (by omega)]
      rw [e, e, e, e]
      exact bent_c4 g i (i - 1) _ _ _ _ (by omega) hi2 h0 w hw
    · by_cases h4 : i % 8 = 4
      · have e : ∀ r, bv 8 ks i r = Gf.sub (ks.getD (4 * (i - 1) + r) 0) := fun r => by unfold bv; rw [if_neg h0, if_pos ⟨rfl, h4⟩]
        rw [e, e, e, e]
        exact bent_b8 g i (i - 1) _ _ _ _ (by omega) hi2 h4 (hb _) (hb _) (hb _) (hb _) w hw hbx
      · have e : ∀ r, bv 8 ks i r = ks.getD (4 * (i - 1) + r) 0 := fun r => by unfold bv; rw [if_neg h0, if_neg (fun c => h4 c.2)]
        rw [e, e, e, e]
        exact bent_c8 g i (i - 1) _ _ _ _ (by omega) hi2 h0 h4 w hw
/-- in the cipher g word m is being written; below B all is as in w -/
structure ExS (w : World) (B g N m : Nat) (ks : List Nat) (W : World) : Prop where
  le : B ≤ w.heap.size
  far : B ≤ g
  below : Below B w W
  row : ∃ F, Row W g 78 F 753 ∧ ∀ i, i < 753 → (i < 513 + m * 4 ∨ 513 + m * 4 + 4 ≤ i) → F i = cipF N ks i
section
variable {w W W' : World} {B g N m : Nat} {ks : List Nat}
theorem ExS.of (hB : B ≤ w.heap.size) (hg : B ≤ g) (hb : Below B w W) (h : CipR W g N ks) : ExS w B g N m ks W := ⟨hB, hg, hb, _, h, fun _ _ _ => rfl⟩
theorem ExS.lt (h : ExS w B g N m ks W) : g < W.heap.size := by obtain ⟨F, h1, _⟩ := h.row; exact Row.lt h1
theorem ExS.cell (h : ExS w B g N m ks W) {i : Nat} (hi : i < 753) (hc : i < 513 + m * 4 ∨ 513 + m * 4 + 4 ≤ i) : W.cell? ⟨g, i, none⟩ = some (cipF N ks i) := by
  obtain ⟨F, h1, h2⟩ := h.row
  rw [Row.cell h1 hi, h2 i hi hc]
theorem ExS.key (h : ExS w B g N m ks W) {j : Nat} (hj : j < 240) (hc : j < 4 * m ∨ 4 * m + 4 ≤ j) : W.cell? ⟨g, 513 + j, none⟩ = some (.int .u8 ((ks.getD j 0 : Nat) : Int)) := by
  rw [h.cell (i := 513 + j) (by omega) (by omega)]
  unfold cipF
  rw [if_neg (by omega), if_neg (by omega), Nat.add_sub_cancel_left]; rfl
theorem ExS.word (h : ExS w B g N m ks W) {k : Nat} (hk : k < 60) (hne : k ≠ m) : Wd W g k (ks.getD (4 * k + 0) 0) (ks.getD (4 * k + 1) 0) (ks.getD (4 * k + 2) 0) (ks.getD (4 * k + 3) 0) := by
  have e : ∀ r, r < 4 → W.cell? ⟨g, 513 + k * 4 + r, none⟩ = some (.int .u8 ((ks.getD (4 * k + r) 0 : Nat) : Int)) := fun r hr => by
    have := h.key (j := 4 * k + r) (by omega) (by omega)
    rw [show 513 + k * 4 + r = 513 + (4 * k + r) by omega]
    exact this
  exact ⟨h.lt, e 0 (by omega), e 1 (by omega), e 2 (by omega), e 3 (by omega)⟩
theorem ExS.box (h : ExS w B g N m ks W) : BoxC W g := by
  refine ⟨h.lt, fun c hc => ⟨?_, ?_⟩⟩
  · rw [h.cell (i := c) (by omega) (by omega)]
    unfold cipF
    rw [if_pos (by omega), box_sub hc]; rfl
  · rw [h.cell (i := 256 + c) (by omega) (by omega)]
    unfold cipF
    rw [if_pos (by omega), box_back hc]; rfl
theorem ExS.rounds (h : ExS w B g N m ks W) : W.cell? ⟨g, 512, none⟩ = some (.int .i64 (N : Int)) := by
  rw [h.cell (i := 512) (by omega) (by omega)]; rfl
theorem ExS.next (h : ExS w B g N m ks W) (hb : Below W.heap.size W W') : ExS w B g N m ks W' := by
  obtain ⟨F, h1, h2⟩ := h.row
  exact ⟨h.le, h.far, h.below.trans (hb.mono (Nat.le_trans h.le h.below.size)), F, Row.below h1 hb (Row.lt h1), h2⟩
theorem ExS.drew (h : ExS w B g N m ks W) : ExS w B g N m ks W.drew := h.next ((Below.refl _ _).drew)
theorem ExS.set (h : ExS w B g N m ks W) {q : Nat} (hq : q < 4) (v : Value) : ExS w B g N m ks (W.setCell ⟨g, 513 + m * 4 + q, none⟩ v) := by
  obtain ⟨F, h1, h2⟩ := h.row
  refine ⟨h.le, h.far, h.below.setCell h.far _, _, Row.set_ h1 (513 + m * 4 + q) v, fun i hi hc => ?_⟩
  rw [if_neg (by omega)]
  exact h2 i hi hc
theorem ExS.there (h : ExS w B g N m ks W) {q : Nat} (hq : q < 4) (hm : m < 60) : (∃ v, W.cell? ⟨g, 513 + m * 4 + q, none⟩ = some v) ∧ W.frozen? ⟨g, 513 + m * 4 + q, none⟩ = false := by
  obtain ⟨F, h1, h2⟩ := h.row
  exact ⟨⟨_, Row.cell h1 (i := 513 + m * 4 + q) (by omega)⟩, Row.free h1 _⟩
/-- the word is in -/
theorem ExS.end_ {key : List Nat} {n a b c d : Nat} (h : ExS w B g N m (Aes.sch Gf.sub key n m) W) (hm : m < 60) (h0 : (Aes.sch Gf.sub key n (m + 1)).getD (4 * m + 0) 0 = a) (h1 : (Aes.sch Gf.sub key n (m + 1)).getD (4 * m + 1) 0 = b)
    (h2 : (Aes.sch Gf.sub key n (m + 1)).getD (4 * m + 2) 0 = c) (h3 : (Aes.sch Gf.sub key n (m + 1)).getD (4 * m + 3) 0 = d) :
    CipR ((((W.setCell ⟨g, 513 + m * 4, none⟩ (.int .u8 (a : Int))).setCell ⟨g, 513 + m * 4 + 1, none⟩ (.int .u8 (b : Int))).setCell ⟨g, 513 + m * 4 + 2, none⟩ (.int .u8 (c : Int))).setCell ⟨g, 513 + m * 4 + 3, none⟩ (.int .u8 (d : Int))) g N (Aes.sch Gf.sub key n (m + 1)) := by
  subst h0 h1 h2 h3
  obtain ⟨F, r1, r2⟩ := h.row
  refine Row.congr ((((Row.set_ r1 (513 + m * 4) _).set_ (513 + m * 4 + 1) _).set_ (513 + m * 4 + 2) _).set_ (513 + m * 4 + 3) _) fun i hi => ?_
  by_cases c0 : i < 513 + m * 4 ∨ 513 + m * 4 + 4 ≤ i
  · rw [if_neg (by omega), if_neg (by omega), if_neg (by omega), if_neg (by omega), r2 i hi c0]
    unfold cipF
    by_cases c1 : i < 512
    · rw [if_pos c1, if_pos c1]
    · by_cases c2 : i = 512
      · rw [if_neg c1, if_pos c2, if_neg c1, if_pos c2]
      · obtain ⟨j, rfl⟩ : ∃ j, i = 513 + j := ⟨i - 513, by omega⟩
        rw [if_neg c1, if_neg c2, if_neg c1, if_neg c2, Nat.add_sub_cancel_left]
        by_cases c3 : j < 4 * m
        · rw [Aes.sch_old c3 (m + 1) (by omega)]
        · have l1 := Aes.sch_len (sb := Gf.sub) (key := key) (n := n) m
          have l2 := Aes.sch_len (sb := Gf.sub) (key := key) (n := n) (m + 1)
          rw [List.getD_eq_getElem?_getD, List.getD_eq_getElem?_getD, List.getElem?_eq_none (by omega), List.getElem?_eq_none (by omega)]
  · unfold cipF
    obtain ⟨j, rfl⟩ : ∃ j, i = 513 + j := ⟨i - 513, by omega⟩
    simp only [if_neg (show ¬ 513 + j < 512 by omega), if_neg (show ¬ 513 + j = 512 by omega), Nat.add_sub_cancel_left]
    rcases (by omega : j = 4 * m + 0 ∨ j = 4 * m + 1 ∨ j = 4 * m + 2 ∨ j = 4 * m + 3) with rfl | rfl | rfl | rfl
    · rw [if_neg (by omega), if_neg (by omega), if_neg (by omega), if_pos (by omega)]; rfl
    · rw [if_neg (by omega), if_neg (by omega), if_pos (by omega)]; rfl
    · rw [if_neg (by omega), if_pos (by omega)]; rfl
    · rw [if_pos (by omega)]; rfl
end
end Go.Proofs.Ythjpaligpojlnaa
