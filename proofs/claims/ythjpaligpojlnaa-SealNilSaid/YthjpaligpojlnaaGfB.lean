/-
  What the document's own product of two bytes answers.
-/
import Derived.Test.YthjpaligpojlnaaGfA
namespace Go.Proofs.Ythjpaligpojlnaa
set_option linter.unusedVariables false
open Go.RowKit
def RefRel1 (a b : Nat) (p w k : Value) : Prop := ∃ n W P : Nat, p = .int .i64 (P : Nat) ∧ w = .int .i64 (W : Nat) ∧ k = .int .i64 (n : Nat) ∧ n ≤ 8 ∧ W = 2 ^ n ∧ P = Gf.rp a b n
theorem ref1_facts {a b n W P : Nat} (ha : a < 256) (hb : b < 256) (hn : n ≤ 8) (hW : W = 2 ^ n) (hP : P = Gf.rp a b n) :
    1 ≤ W ∧ W ≤ 256 ∧ (a : Int) * (W : Int) ≤ 65536 ∧ (0 : Int) ≤ (a : Int) * (W : Int) ∧ P < 65536 ∧ (0 : Int) ≤ (b : Int) / (W : Int) ∧ (b : Int) / (W : Int) ≤ 255 ∧ a * W ≤ 65536 := by
  have h1 : 1 ≤ W := by rw [hW]; exact Nat.one_le_two_pow
  have h2 : W ≤ 256 := by rw [hW]; exact (show 2 ^ n ≤ 2 ^ 8 from Nat.pow_le_pow_right (by omega) hn)
  have h3 := Nat.mul_le_mul (Nat.le_of_lt ha) h2
  have h4 : ((a * W : Nat) : Int) = (a : Int) * (W : Int) := Int.natCast_mul a W
  have h5 : ((b / W : Nat) : Int) = (b : Int) / (W : Int) := Int.natCast_ediv b W
  have h6 : b / W ≤ b := Nat.div_le_self b W
  generalize b / W = q at h5 h6
  refine ⟨h1, h2, by omega, by omega, by rw [hP]; exact Gf.rp_lt ha hn, by omega, by omega, by omega⟩
theorem ref1_test {b n W : Nat} (hW : W = 2 ^ n) : ((b : Int) / (W : Int) % 2 == 1) = decide (b / 2 ^ n % 2 = 1) := by
  have h5 : ((b / W : Nat) : Int) = (b : Int) / (W : Int) := Int.natCast_ediv b W
  rw [← hW, Bool.eq_iff_iff]
  simp only [beq_iff_eq, decide_eq_true_eq]
  omega
theorem ref1_yes {a b n W P : Nat} (ha : a < 256) (hn : n < 8) (hW : W = 2 ^ n) (hP : P = Gf.rp a b n) (h : b / 2 ^ n % 2 = 1) :
    RefRel1 a b (.int .i64 (bits BinOp.xor IntKind.i64 (P : Int) ((a : Int) * (W : Int)))) (.int .i64 (2 * (W : Int))) (.int .i64 ((n : Int) + 1)) := by
  have hf := ref1_facts (b := 0) ha (by omega) (Nat.le_of_lt hn) hW rfl
  have hp : P < 65536 := by rw [hP]; exact Gf.rp_lt ha (Nat.le_of_lt hn)
  have hm : a * W < 2 ^ 63 := by omega
  refine ⟨n + 1, 2 * W, P ^^^ (a * W), ?_, rfl, rfl, by omega, by rw [hW, Nat.pow_succ]; omega, ?_⟩
  · rw [← xori (by omega) hm, Int.natCast_mul]
  · rw [Gf.rp, if_pos h, hP, hW]
theorem ref1_no {a b n W P : Nat} (hn : n < 8) (hW : W = 2 ^ n) (hP : P = Gf.rp a b n) (h : ¬ b / 2 ^ n % 2 = 1) :
    RefRel1 a b (.int .i64 (P : Int)) (.int .i64 (2 * (W : Int))) (.int .i64 ((n : Int) + 1)) := by
  refine ⟨n + 1, 2 * W, P, rfl, rfl, rfl, by omega, by rw [hW, Nat.pow_succ]; omega, ?_⟩
  rw [Gf.rp, if_neg h, hP]
def RefRel2 (a b : Nat) (p k : Value) : Prop := ∃ n P : Nat, p = .int .i64 (P : Nat) ∧ k = .int .i64 ((n : Int) + 7) ∧ n ≤ 7 ∧ P < 65536 ∧ Gf.red n P = Gf.red 7 (Gf.rp a b 8)
theorem ref2_facts {n P : Nat} (hn : n ≤ 7) (hp : P < 65536) :
    (0 : Int) ≤ (P : Int) / 2 ^ (n + 7) ∧ (P : Int) / 2 ^ (n + 7) ≤ 65536 ∧ (0 : Int) ≤ 283 * 2 ^ (n - 1) ∧ (283 : Int) * 2 ^ (n - 1) ≤ 36224 ∧ 283 * 2 ^ (n - 1) ≤ 36224 := by
  have h1 : ((P / 2 ^ (n + 7) : Nat) : Int) = (P : Int) / 2 ^ (n + 7) := by rw [Int.natCast_ediv]; simp
  have h2 : P / 2 ^ (n + 7) ≤ P := Nat.div_le_self _ _
  have h3 : 2 ^ (n - 1) ≤ 2 ^ 7 := Nat.pow_le_pow_right (by omega) (by omega)
  have h4 : ((2 ^ (n - 1) : Nat) : Int) = 2 ^ (n - 1) := by simp
  generalize P / 2 ^ (n + 7) = q at h1 h2
  generalize hm : 2 ^ (n - 1) = m at h3 h4
  rw [← h1, ← h4]
  omega
theorem ref2_test {n P : Nat} : ((P : Int) / 2 ^ (n + 7) % 2 == 1) = decide (P / 2 ^ (n + 7) % 2 = 1) := by
  have h1 : ((P / 2 ^ (n + 7) : Nat) : Int) = (P : Int) / 2 ^ (n + 7) := by rw [Int.natCast_ediv]; simp
  rw [← h1, Bool.eq_iff_iff]
  simp only [beq_iff_eq, decide_eq_true_eq]
  omega
theorem ref2_yes {a b n P : Nat} (h0 : ¬ n = 0) (hn : n ≤ 7) (hp : P < 65536) (hr : Gf.red n P = Gf.red 7 (Gf.rp a b 8)) (h : P / 2 ^ (n + 7) % 2 = 1) :
    RefRel2 a b (.int .i64 (bits BinOp.xor IntKind.i64 (P : Int) (283 * 2 ^ (n - 1)))) (.int .i64 ((n : Int) + 7 - 1)) := by
  obtain ⟨m, rfl⟩ : ∃ m, n = m + 1 := ⟨n - 1, by omega⟩
  have hf := ref2_facts hn hp
  have h4 : ((283 * 2 ^ (m + 1 - 1) : Nat) : Int) = 283 * 2 ^ (m + 1 - 1) := by rw [Int.natCast_mul]; simp
  have hs := Gf.red_step_lt (n := m) (p := P) (by omega) hp
  rw [if_pos h] at hs
  refine ⟨m, P ^^^ (283 * 2 ^ m), ?_, by congr 1; omega, by omega, hs, ?_⟩
  · rw [← h4, xori (by omega) (by omega)]; rfl
  · rw [← hr]
    conv => rhs; rw [Gf.red]
    rw [if_pos h]
theorem ref2_no {a b n P : Nat} (h0 : ¬ n = 0) (hn : n ≤ 7) (hp : P < 65536) (hr : Gf.red n P = Gf.red 7 (Gf.rp a b 8)) (h : ¬ P / 2 ^ (n + 7) % 2 = 1) :
    RefRel2 a b (.int .i64 (P : Int)) (.int .i64 ((n : Int) + 7 - 1)) := by
  obtain ⟨m, rfl⟩ : ∃ m, n = m + 1 := ⟨n - 1, by omega⟩
  refine ⟨m, P, rfl, by congr 1; omega, by omega, hp, ?_⟩
  rw [← hr]
  conv => rhs; rw [Gf.red]
  rw [if_neg h]
set_option maxHeartbeats 400000 in
theorem refMul_any (a b : Nat) (ha : a < 256) (hb : b < 256) (w : World) :
    Calls Try.prog 22 #[.int .u8 a, .int .u8 b] w fun e w' => e = .returned (.int .u8 (Gf.rm a b : Nat)) ∧ w = w' := by
  go_enter Try.func22, Try.ntmps22
  go_wp2
  go_loop [5, 6, 7] (fun p w k => RefRel1 a b p w k) (fun _ _ k => (8 - intOf k).toNat)
  case atStart => exact ⟨0, 1, 0, rfl, rfl, rfl, by omega, rfl, rfl⟩
  case round =>
    obtain ⟨n, W, P, rfl, rfl, rfl, hn, hW, hP⟩ := hrel
    obtain ⟨h1, h2, h3, h4, h5, h6, h7, _⟩ := ref1_facts ha hb hn hW hP
    have ht := ref1_test (b := b) hW
    by_cases hlt : n < 8
    · by_cases hc : b / 2 ^ n % 2 = 1
      · have hs := ref1_yes ha hlt hW hP hc
        rw [decide_eq_true hc] at ht
        have H := Lib.hid hs
        clear hs hW hP hc
        go_wp2
        go_round
        case rel => exact H.out
        case measure => simp [intOf]; omega
      · have hs := ref1_no hlt hW hP hc
        rw [decide_eq_false hc] at ht
        have H := Lib.hid hs
        clear hs hW hP hc
        go_wp2
        go_round
        case rel => exact H.out
        case measure => simp [intOf]; omega
    · obtain rfl : n = 8 := by omega
      have H := Lib.hid hP
      clear hW hP ht
      go_wp2
      go_loop [5, 8] (fun p k => RefRel2 a b p k) (fun _ k => (intOf k).toNat)
      case atStart => exact ⟨7, P, rfl, rfl, by omega, by omega, by rw [H.out]⟩
      case round =>
        obtain ⟨n, P, rfl, rfl, hn, hp, hr⟩ := hrel
        obtain ⟨k1, k2, k3, k4, _⟩ := ref2_facts hn hp
        by_cases hn0 : n = 0
        · subst hn0
          have HR := Lib.hid hr
          clear hr
          go_wp2
          go_ret
          exact ⟨ret_int (by unfold Gf.rm; rw [← HR.out]; simp [Gf.red]), rfl⟩
        · have ht := ref2_test (n := n) (P := P)
          by_cases hc : P / 2 ^ (n + 7) % 2 = 1
          · have hs := ref2_yes hn0 hn hp hr hc
            rw [decide_eq_true hc] at ht
            have HR := Lib.hid hs
            clear hs hr hc
            go_wp2
            go_round
            case rel => rw [IntWalk.wrap64_in _ ⟨Int.le_trans (by decide) k3, Int.le_trans k4 (by decide)⟩]; exact HR.out
            case measure => simp [intOf]; omega
          · have hs := ref2_no hn0 hn hp hr hc
            rw [decide_eq_false hc] at ht
            have HR := Lib.hid hs
            clear hs hr hc
            go_wp2
            go_round
            case rel => exact HR.out
            case measure => simp [intOf]; omega
end Go.Proofs.Ythjpaligpojlnaa
