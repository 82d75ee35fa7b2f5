/-
  The document's primes; its words; the table.
-/
import Derived.Test.YtcioonadjmkbcaaShaC
namespace Go.Proofs.Ytcioonadjmkbcaa
open Go.RowKit
set_option linter.unusedVariables false
def isU (n d : Nat) : Bool := (List.range d).all fun e => decide (e < 2) || !(n % e == 0)
theorem isU_succ (n d : Nat) (h : 2 ≤ d) : isU n (d + 1) = (isU n d && !(n % d == 0)) := by
  unfold isU
  rw [List.range_succ, List.all_append]
  simp [show ¬ d < 2 by omega]
theorem isU_all (n : Nat) : isU n n = Sha.isP n := by unfold isU Sha.isP; rfl
attribute [local irreducible] Sha.isP Sha.pr Sha.prs isU
def RInner (n : Nat) (is d : Value) : Prop := ∃ m : Nat, 2 ≤ m ∧ m ≤ n ∧ d = .int .i64 (m : Int) ∧ is = .bool (isU n m)
def ROuter (k0 : Nat) (k n : Value) : Prop := ∃ j q : Nat, j ≤ k0 ∧ 2 ≤ q ∧ q ≤ Sha.pr j ∧ (j = 0 ∨ Sha.pr (j - 1) < q) ∧ k = .int .i64 ((k0 : Int) - (j : Int)) ∧ n = .int .i64 (q : Int)
theorem early {k0 j q : Nat} (hk0 : k0 < 64) (hj : j ≤ k0) (h2 : 2 ≤ q) (hq : q < Sha.pr j) (h : j = 0 ∨ Sha.pr (j - 1) < q) : Sha.isP q = false := by
  rcases Nat.eq_zero_or_pos j with h0 | h0
  · subst h0; rw [Sha.pr0] at hq; omega
  · have hp := (Sha.pr_next (k := j - 1) (by omega)).2 q (by rcases h with h | h <;> omega)
    rw [show j - 1 + 1 = j by omega] at hp
    exact hp hq
set_option maxHeartbeats 1000000 in
theorem refPrime_in (k0 : Nat) (hk0 : k0 < 64) (w : World) :
    Calls Try.prog 20 #[.int .i64 (k0 : Int)] w fun e w' => e = .returned (.int .i64 ((Sha.pr k0 : Nat) : Int)) ∧ w = w' := by
  have H0 : Hid (ROuter k0 (.int .i64 (k0 : Int)) (.int .i64 2)) := Lib.hid ⟨0, 2, by omega, by omega, by rw [Sha.pr0]; omega, .inl rfl, by simp, rfl⟩
  go_enter Try.func20, Try.ntmps20
  go_wp2
  go_loop [0, 3] (fun k n => ROuter k0 k n) (fun _ n => (400 - intOf n).toNat)
  case atStart => exact H0.out
  case round =>
    obtain ⟨j, q, hj, hq2, hqp, hqq, rfl, rfl⟩ := hrel
    clear H0
    have hb := (Sha.pr_at (k := j) (by omega)).2.1
    have H1 : Hid (RInner q (.bool true) (.int .i64 2)) := Lib.hid ⟨2, by omega, by omega, rfl, by unfold isU; rfl⟩
    have HE := Lib.hid hqq
    clear hqq
    go_wp2
    go_loop [4, 5] (fun is d => RInner q is d) (fun _ d => (q - intOf d).toNat)
    case atStart => exact H1.out
    case round =>
      obtain ⟨m, hm2, hmq, rfl, rfl⟩ := hrel
      clear H1
      by_cases hlt : m < q
      · have hs := isU_succ q m hm2
        have HS := Lib.hid hs
        have hr := rem_nat q m
        have HR : Hid (RInner q (.bool (isU q (m + 1))) (.int .i64 ((m : Int) + 1))) := Lib.hid ⟨m + 1, by omega, by omega, rfl, rfl⟩
        clear hs
        cases hu : isU q m with
        | false =>
          rw [hu] at HS
          have e : isU q (m + 1) = false := by rw [HS.out]; rfl
          rw [e] at HR
          clear HS hu e
          go_wp2
          go_round
          case rel => exact HR.out
          case measure => simp [intOf]; omega
        | true =>
          rw [hu] at HS
          by_cases hz : q % m = 0
          · have e : isU q (m + 1) = false := by rw [HS.out, hz]; rfl
            rw [e] at HR
            have hzb : (((q % m : Nat) : Int) != 0) = false := by rw [hz]; rfl
            clear HS hu e hz
            generalize q % m = r at *
            go_wp2
            go_round
            case rel => exact HR.out
            case measure => simp [intOf]; omega
          · have e : isU q (m + 1) = true := by rw [HS.out]; simp [hz]
            rw [e] at HR
            have hzb : (((q % m : Nat) : Int) != 0) = true := by rw [bne_iff_ne]; omega
            clear HS hu e hz
            generalize q % m = r at *
            go_wp2
            go_round
            case rel => exact HR.out
            case measure => simp [intOf]; omega
      · obtain rfl : m = q := by omega
        rw [isU_all]
        by_cases hq : m = Sha.pr j
        · subst hq
          have hP := (Sha.pr_at (k := j) (by omega)).2.2
          rw [hP]
          clear hP
          by_cases hjk : j = k0
          · subst hjk
            have e : (((j : Int) - (j : Int)) == 0) = true := by simp
            go_wp2
            go_ret
            exact ⟨rfl, rfl⟩
          · have e : (((k0 : Int) - (j : Int)) == 0) = false := by rw [beq_eq_false_iff_ne]; omega
            have hn := Sha.pr_next (k := j) (by omega)
            have HR : Hid (ROuter k0 (.int .i64 ((k0 : Int) - (j : Int) - 1)) (.int .i64 (((Sha.pr j : Nat) : Int) + 1))) := Lib.hid ⟨j + 1, Sha.pr j + 1, by omega, by omega, by omega, .inr (by rw [Nat.add_sub_cancel]; omega), by congr 1; omega, rfl⟩
            clear hn
            go_wp2
            go_round
            case rel => exact HR.out
            case measure => simp [intOf]; omega
        · have hP := early hk0 hj hq2 (by omega) HE.out
          rw [hP]
          clear hP
          have HR : Hid (ROuter k0 (.int .i64 ((k0 : Int) - (j : Int))) (.int .i64 ((m : Int) + 1))) := Lib.hid ⟨j, m + 1, by omega, by omega, by omega, HE.out.imp id fun h => by omega, rfl, rfl⟩
          go_wp2
          go_round
          case rel => exact HR.out
          case measure => simp [intOf]; omega
set_option maxHeartbeats 400000 in
theorem refPrime_out (k : Int) (h : k < 0 ∨ 64 ≤ k) (w : World) :
    Calls Try.prog 20 #[.int .i64 k] w fun e w' => e = .returned (.int .i64 0) ∧ w = w' := by
  rcases h with h | h
  all_goals
    go_enter Try.func20, Try.ntmps20
    go_wp2
    go_ret
    exact ⟨rfl, rfl⟩
theorem refPrime_any (k : Int) (w : World) :
    Calls Try.prog 20 #[.int .i64 k] w fun e w' => e = .returned (.int .i64 ((prI k : Nat) : Int)) ∧ w = w' := by
  by_cases h : 0 ≤ k ∧ k < 64
  · obtain ⟨n, rfl⟩ : ∃ n : Nat, k = (n : Int) := ⟨k.toNat, by omega⟩
    rw [prI_in n (by omega)]
    exact refPrime_in n (by omega) w
  · rw [prI_out (by omega)]
    exact refPrime_out k (by omega) w
end Go.Proofs.Ytcioonadjmkbcaa
