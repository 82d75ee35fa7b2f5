/-
  The document's Give and Turn; the statements' same and few.
-/
import Derived.Test.YtooahpfeamobcaaDoorPgL
import Derived.BigQuiet
import Derived.Deep.QuietTactic
namespace Go.Proofs.YtooahpfeamobcaaDoor
open Go.RowKit Go
set_option linter.unusedVariables false
set_option linter.unusedSimpArgs false
set_option maxRecDepth 100000
/-! two rows of pages, held against one another -/
def eqL : List Pg → List Pg → Bool
  | [], [] => true
  | p :: r, q :: s => eqP p q && eqL r s
  | _, _ => false
theorem eqL_iff : ∀ a b, eqL a b = true ↔ a = b
  | [], [] => by simp [eqL]
  | [], _ :: _ => by simp [eqL]
  | _ :: _, [] => by simp [eqL]
  | p :: r, q :: s => by
    unfold eqL
    rw [Bool.and_eq_true, eqP_iff, eqL_iff r s]
    constructor
    · rintro ⟨rfl, rfl⟩; rfl
    · intro h; injection h with h1 h2; exact ⟨h1, h2⟩
theorem eqL_len {a b : List Pg} (h : a.length ≠ b.length) : eqL a b = false := by
  cases hq : eqL a b
  · rfl
  · exact absurd (congrArg List.length ((eqL_iff _ _).1 hq)) h
theorem eqL_drop {a b : List Pg} {k : Nat} (h1 : k < a.length) (h2 : k < b.length) : eqL (a.drop k) (b.drop k) = (eqP (pg a k) (pg b k) && eqL (a.drop (k + 1)) (b.drop (k + 1))) := by
  rw [drop_at h1, drop_at h2]; rfl
theorem eqP_no {p q : Pg} (h : eqP p q = false) : p.k ≠ q.k ∨ (p.k = q.k ∧ p.c ≠ q.c) ∨ (p.k = q.k ∧ p.c = q.c ∧ p.r ≠ q.r) ∨ (p.k = q.k ∧ p.c = q.c ∧ p.r = q.r ∧ p.s ≠ q.s) ∨ (p.k = q.k ∧ p.c = q.c ∧ p.r = q.r ∧ p.s = q.s ∧ p.n ≠ q.n) := by
  by_cases h1 : p.k = q.k
  · by_cases h2 : p.c = q.c
    · by_cases h3 : p.r = q.r
      · by_cases h4 : p.s = q.s
        · by_cases h5 : p.n = q.n
          · rw [(eqP_iff p q).2 (Pg.ext' h1 h2 h3 h4 h5)] at h; cases h
          · exact .inr (.inr (.inr (.inr ⟨h1, h2, h3, h4, h5⟩)))
        · exact .inr (.inr (.inr (.inl ⟨h1, h2, h3, h4⟩)))
      · exact .inr (.inr (.inl ⟨h1, h2, h3⟩))
    · exact .inr (.inl ⟨h1, h2⟩)
  · exact .inl h1
set_option maxHeartbeats 4000000 in
theorem same_any (A A2 : Option Addr) (n c n2 c2 : Nat) (a b : List Pg) (w : World) (h : PS w A n c a) (h2 : PS w A2 n2 c2 b) (hn : n < 1000) :
    Calls Tryd.prog 9 #[.slice A n c, .slice A2 n2 c2] w fun e w' => e = .returned (.bool (eqL a b)) ∧ Below w.heap.size w w' := by
  have HP := Lib.hid h
  have HP2 := Lib.hid h2
  have HLN := Lib.hid h.len
  have HLN2 := Lib.hid h2.len
  have hcn := h.cap
  have hcm := h.capm
  have hcn2 := h2.cap
  have hcm2 := h2.capm
  clear h h2
  by_cases hnn : n = n2
  · subst hnn
    go_enter Tryd.func9, Tryd.ntmps9
    go_wp2
    go_loopw [13] (fun i W => ∃ k : Nat, i = .int .i64 (k : Int) ∧ k ≤ n ∧ eqL (a.drop k) (b.drop k) = eqL a b ∧ Below w.heap.size w W) (fun i _ => n - (intOf i).toNat)
    case atStart => exact ⟨0, rfl, Nat.zero_le _, rfl, Below.refl _ _⟩
    case round =>
      obtain ⟨k, rfl, hk, hl, hb⟩ := hrel
      have HL := Lib.hid hl
      have HB := Lib.hid hb
      clear hl hb
      by_cases hlt : k < n
      · obtain ⟨b1, o1, rfl, hb1, hc1⟩ := HP.out.cells (by omega)
        obtain ⟨b2, o2, rfl, hb2, hc2⟩ := HP2.out.cells (by omega)
        obtain ⟨c0, c1, c2, c3, c4⟩ := (hc1 _ HB.out).2 k hlt
        obtain ⟨d0, d1, d2, d3, d4⟩ := (hc2 _ HB.out).2 k hlt
        clear hc1 hc2
        have hst := eqL_drop (a := a) (b := b) (k := k) (by rw [HLN.out]; exact hlt) (by rw [HLN2.out]; exact hlt)
        generalize pg a k = p at *
        generalize pg b k = q at *
        have HST := Lib.hid hst
        have HBD : Hid (∀ m, Below w.heap.size w (wr.drewN m)) := Lib.hid (fun m => below_drewN HB.out m)
        clear hst
        by_cases he : eqP p q = true
        · obtain rfl := (eqP_iff p q).1 he
          have hltI : (k : Int) < (n : Int) := by omega
          go_wp2_with fail
          go_quiet (fail)
          go_wp2
          go_roundw
          case rel => exact ⟨k + 1, by go_num, by omega, by rw [← HL.out, HST.out, he]; rfl, HBD.out _⟩
          case measure => simp [intOf]; omega
        · have he' : eqP p q = false := by simpa using he
          have HZ : Hid (eqL a b = false) := Lib.hid (by rw [← HL.out, HST.out, he']; rfl)
          have hcs := eqP_no he'
          have hltI : (k : Int) < (n : Int) := by omega
          clear he he' HST
          rcases hcs with h1 | ⟨h1, h2⟩ | ⟨h1, h2, h3⟩ | ⟨h1, h2, h3, h4⟩ | ⟨h1, h2, h3, h4, h5⟩
          · have e1 : (p.k == q.k) = false := beq_eq_false_iff_ne.2 h1
            have e1' : ¬ p.k = q.k := h1
            go_wp2_with fail
            go_quiet (fail)
            go_wp2
            go_ret
            exact ⟨retb HZ.out.symm, HBD.out _⟩
          · have e1 : (p.c == q.c) = false := beq_eq_false_iff_ne.2 h2
            have e1' : ¬ p.c = q.c := h2
            rw [← h1] at d0
            clear h1
            go_wp2_with fail
            go_quiet (fail)
            go_wp2
            go_ret
            exact ⟨retb HZ.out.symm, HBD.out _⟩
          · have e1 : (p.r == q.r) = false := beq_eq_false_iff_ne.2 h3
            have e1' : ¬ p.r = q.r := h3
            rw [← h1] at d0
            rw [← h2] at d1
            clear h1 h2
            go_wp2_with fail
            go_quiet (fail)
            go_wp2
            go_ret
            exact ⟨retb HZ.out.symm, HBD.out _⟩
          · have e1 : (p.s == q.s) = false := beq_eq_false_iff_ne.2 h4
            have e1' : ¬ p.s = q.s := h4
            rw [← h1] at d0
            rw [← h2] at d1
            rw [← h3] at d2
            clear h1 h2 h3
            go_wp2_with fail
            go_quiet (fail)
            go_wp2
            go_ret
            exact ⟨retb HZ.out.symm, HBD.out _⟩
          · have e1 : (p.n == q.n) = false := beq_eq_false_iff_ne.2 h5
            have e1' : ¬ p.n = q.n := h5
            rw [← h1] at d0
            rw [← h2] at d1
            rw [← h3] at d2
            rw [← h4] at d3
            clear h1 h2 h3 h4
            go_wp2_with fail
            go_quiet (fail)
            go_wp2
            go_ret
            exact ⟨retb HZ.out.symm, HBD.out _⟩
      · obtain rfl : k = n := by omega
        have HZ : Hid (eqL a b = true) := Lib.hid (by
          rw [← HL.out, List.drop_of_length_le (by rw [HLN.out]; exact Nat.le_refl _), List.drop_of_length_le (by rw [HLN2.out]; exact Nat.le_refl _)]; rfl)
        have hltI : ¬ (k : Int) < (k : Int) := by omega
        go_wp2
        go_ret
        exact ⟨retb HZ.out.symm, HB.out⟩
  · have hni : ¬ (n : Int) = (n2 : Int) := by omega
    have hnb : ((n : Int) != (n2 : Int)) = true := bne_iff_ne.2 hni
    have HE := Lib.hid (eqL_len (a := a) (b := b) (by rw [HLN.out, HLN2.out]; exact hnn))
    go_enter Tryd.func9, Tryd.ntmps9
    go_wp2
    go_ret
    exact ⟨retb HE.out.symm, Below.refl _ _⟩
end Go.Proofs.YtooahpfeamobcaaDoor
