/-
  The product of two words of 64 bits, powers, roots, primes: what they answer.
-/
import Derived.Test.YtoclelpmampikaaGreatShaNum
import Derived.WalkKit
import Derived.Lib.Hide
namespace Go.Proofs.YtoclelpmampikaaGreat
open Go.RowKit
set_option linter.unusedVariables false
set_option maxHeartbeats 400000 in
theorem mul64_any (x y : Nat) (hx : x < 18446744073709551616) (hy : y < 18446744073709551616) (w : World) :
    Calls Tryz.prog 73 #[.int .u64 (x : Int), .int .u64 (y : Int)] w fun e w' => e = .returned (.tuple #[.int .u64 ((x * y / 18446744073709551616 : Nat) : Int), .int .u64 ((x * y % 18446744073709551616 : Nat) : Int)]) ∧ w = w' := by
  have H1 := Lib.hid (mul_hi hx hy)
  have H2 := Lib.hid (mul_lo x y)
  clear hx hy
  go_enter Tryz.func73, Tryz.ntmps73
  go_wp2
  go_ret2
  exact ⟨by rw [← H1.out, ← H2.out]; rfl, rfl⟩
theorem pow_step (r j : Nat) (hb : r ^ (j + 1) * r < 340282366920938463463374607431768211456) (hr : r < 18446744073709551616) :
    r ^ (j + 1) % 18446744073709551616 * r % 18446744073709551616 = r ^ (j + 2) % 18446744073709551616 ∧
    IntKind.u64.wrap (IntKind.u64.wrap (((r ^ (j + 1) / 18446744073709551616 : Nat) : Int) * (r : Int)) + ((r ^ (j + 1) % 18446744073709551616 * r / 18446744073709551616 : Nat) : Int)) = ((r ^ (j + 2) / 18446744073709551616 : Nat) : Int) := by
  rw [show r ^ (j + 2) = r ^ (j + 1) * r from Nat.pow_succ _ _]
  generalize r ^ (j + 1) = P at *
  refine ⟨by rw [Nat.mod_mul_mod], ?_⟩
  have hP : P = P / 18446744073709551616 * 18446744073709551616 + P % 18446744073709551616 := by omega
  have e : P * r = P / 18446744073709551616 * r * 18446744073709551616 + P % 18446744073709551616 * r := by
    conv => lhs; rw [hP]
    rw [Nat.add_mul, Nat.mul_right_comm]
  rw [e] at hb ⊢
  clear hP e
  rw [cast_mul]
  generalize P / 18446744073709551616 * r = u at *
  generalize P % 18446744073709551616 * r = v at *
  rw [wrap_cast (n := u) (by omega), cast_add, wrap_cast (by omega)]
  congr 1
  omega
theorem pow_bound {r j : Nat} (hr : r < 137438953472) (hj : j ≤ 2) : r ^ (j + 1) < 2596148429267413814265248164610048 := by
  have h1 : r ^ (j + 1) ≤ 137438953471 ^ (j + 1) := Nat.pow_le_pow_left (by omega) _
  rcases (by omega : j = 0 ∨ j = 1 ∨ j = 2) with rfl | rfl | rfl <;> omega
def PowE (r n : Nat) : Ending := .returned (.tuple #[.int .u64 ((r ^ n / 18446744073709551616 : Nat) : Int), .int .u64 ((r ^ n % 18446744073709551616 : Nat) : Int)])
def PowRel (r n : Nat) (hi lo k : Value) : Prop :=
  ∃ j : Nat, k = .int .i64 (j : Int) ∧ j ≤ n - 1 ∧ hi = .int .u64 ((r ^ (j + 1) / 18446744073709551616 : Nat) : Int) ∧ lo = .int .u64 ((r ^ (j + 1) % 18446744073709551616 : Nat) : Int)
set_option maxHeartbeats 400000 in
theorem power_any (r n : Nat) (hr : r < 137438953472) (h1 : 1 ≤ n) (h3 : n ≤ 3) (w : World) :
    Calls Tryz.prog 56 #[.int .u64 (r : Int), .int .i64 (n : Int)] w fun e w' => e = PowE r n ∧ w = w' := by
  have H0 : Hid (PowRel r n (.int .u64 0) (.int .u64 (r : Int)) (.int .i64 0)) := Lib.hid ⟨0, rfl, by omega, by
    rw [Nat.zero_add, Nat.pow_one, Nat.div_eq_of_lt (by omega)]; rfl, by rw [Nat.zero_add, Nat.pow_one, Nat.mod_eq_of_lt (by omega)]⟩
  go_enter Tryz.func56, Tryz.ntmps56
  go_wp2
  go_loop [4, 5, 11] (fun hi lo k => PowRel r n hi lo k) (fun _ _ k => (n - intOf k).toNat)
  case atStart => exact H0.out
  case round =>
    obtain ⟨j, rfl, hj, rfl, rfl⟩ := hrel
    clear H0
    by_cases hlt : j < n - 1
    · have hb := pow_bound hr (j := j) (by omega)
      have hs := pow_step r j (by have h := pow_bound hr (j := j + 1) (by omega); rw [Nat.pow_succ] at h; omega) (by omega)
      have hm : r ^ (j + 1) % 18446744073709551616 < 18446744073709551616 := Nat.mod_lt _ (by omega)
      have HS := Lib.hid hs
      have HR : Hid (PowRel r n (.int .u64 ((r ^ (j + 2) / 18446744073709551616 : Nat) : Int)) (.int .u64 ((r ^ (j + 2) % 18446744073709551616 : Nat) : Int)) (.int .i64 ((j : Int) + 1))) := Lib.hid ⟨j + 1, rfl, by omega, rfl, rfl⟩
      clear hs hb
      generalize r ^ (j + 1) % 18446744073709551616 = lo at *
      generalize r ^ (j + 1) / 18446744073709551616 = hi at *
      have hlt' : (j : Int) < (n : Int) - 1 := by omega
      go_wp2_with fail
      refine (mul64_any lo r hm (by omega) _).mono ?_
      rintro e w' ⟨rfl, rfl⟩
      rw [HS.out.1]
      have HS2 := Lib.hid HS.out.2
      clear HS
      generalize lo * r / 18446744073709551616 = up at *
      generalize r ^ (j + 2) % 18446744073709551616 = lo2 at *
      generalize r ^ (j + 2) / 18446744073709551616 = hi2 at *
      go_wp2
      go_round
      case rel => rw [HS2.out]; exact HR.out
      case measure => simp [intOf]; omega
    · obtain rfl : n = j + 1 := by omega
      have HE : Hid (PowE r (j + 1) = .returned (.tuple #[.int .u64 ((r ^ (j + 1) / 18446744073709551616 : Nat) : Int), .int .u64 ((r ^ (j + 1) % 18446744073709551616 : Nat) : Int)])) := Lib.hid rfl
      generalize r ^ (j + 1) % 18446744073709551616 = lo at *
      generalize r ^ (j + 1) / 18446744073709551616 = hi at *
      have hlt' : ¬ (j : Int) < ((j + 1 : Nat) : Int) - 1 := by omega
      go_wp2
      go_ret2
      exact ⟨HE.out.symm, rfl⟩
def rootStep (n p r b : Nat) : Nat := if (r ||| b) ^ n ≤ p * 2 ^ (32 * n) then r ||| b else r
theorem or37 {a b : Nat} (ha : a < 137438953472) (hb : b < 137438953472) : a ||| b < 137438953472 := Nat.or_lt_two_pow (n := 37) ha hb
theorem rootStep_lt {n p r b : Nat} (hr : r < 137438953472) (hb : b < 137438953472) : rootStep n p r b < 137438953472 := by
  unfold rootStep; split
  · exact or37 hr hb
  · exact hr
def RootRel (n p : Nat) (r b : Value) : Prop :=
  ∃ k x : Nat, k ≤ 37 ∧ x < 137438953472 ∧ r = .int .u64 (x : Int) ∧ b = .int .u64 ((if k = 0 then 0 else 2 ^ (k - 1) : Nat) : Int) ∧ Sha.rootF n p k x = Sha.rootF n p 37 0
def bitOf (b : Value) : Nat := (intOf b).toNat
theorem root_next {n p k x : Nat} (hk : k < 37) (hx : x < 137438953472) (h : Sha.rootF n p (k + 1) x = Sha.rootF n p 37 0) (y : Nat) (hy : y = rootStep n p x (2 ^ k)) :
    RootRel n p (.int .u64 (y : Int)) (.int .u64 ((2 ^ k / 2 : Nat) : Int)) := by
  have hb : 2 ^ k < 137438953472 := by
    have : 2 ^ k ≤ 2 ^ 36 := Nat.pow_le_pow_right (by omega) (by omega)
    omega
  subst hy
  refine ⟨k, _, by omega, rootStep_lt hx hb, rfl, ?_, by rw [← h]; rfl⟩
  by_cases e : k = 0
  · subst e; rfl
  · rw [if_neg e]
    obtain ⟨j, rfl⟩ : ∃ j, k = j + 1 := ⟨k - 1, by omega⟩
    rw [Nat.pow_succ, Nat.mul_div_cancel _ (by omega), Nat.add_sub_cancel]
theorem root_test {n p P most : Nat} (h : most * 18446744073709551616 = p * 2 ^ (32 * n)) :
    (P / 18446744073709551616 < most ∨ P / 18446744073709551616 = most ∧ P % 18446744073709551616 = 0) ↔ P ≤ p * 2 ^ (32 * n) := by
  rw [← h]; omega
theorem power_2 (r : Nat) (hr : r < 137438953472) (w : World) : Calls Tryz.prog 56 #[.int .u64 (r : Int), .int .i64 2] w fun e w' => e = .returned (.tuple #[.int .u64 ((r ^ 2 / 18446744073709551616 : Nat) : Int), .int .u64 ((r ^ 2 % 18446744073709551616 : Nat) : Int)]) ∧ w = w' :=
  power_any r 2 hr (by omega) (by omega) w
theorem test_2 (P p : Nat) : (P / 18446744073709551616 < p ∨ P / 18446744073709551616 = p ∧ P % 18446744073709551616 = 0) ↔ P ≤ p * 2 ^ (32 * 2) :=
  root_test (n := 2) (by omega)
set_option maxHeartbeats 1000000 in
theorem root_2 (p : Nat) (hp : p < 4294967296) (w : World) :
    Calls Tryz.prog 39 #[.int .i64 2, .int .i64 (p : Int)] w fun e w' => e = .returned (.int .u32 ((Sha.rootW 2 p : Nat) : Int)) ∧ w = w' := by
  have H0 : Hid (RootRel 2 p (.int .u64 0) (.int .u64 68719476736)) := Lib.hid ⟨37, 0, by omega, by omega, rfl, rfl, rfl⟩
  go_enter Tryz.func39, Tryz.ntmps39
  go_wp2
  go_loop [5, 7] (fun r b => RootRel 2 p r b) (fun _ b => (intOf b).toNat)
  case atStart => exact H0.out
  case round =>
    obtain ⟨k, x, hk, hx, rfl, rfl, hF⟩ := hrel
    clear H0
    rcases Nat.eq_zero_or_pos k with h0 | h0
    · subst h0
      have hW : Sha.rootW 2 p = x % 4294967296 := by unfold Sha.rootW; rw [← hF]; rfl
      have HW := Lib.hid hW
      clear hF hW
      go_wp2
      go_ret
      exact ⟨ret_int (by rw [HW.out]; first | rfl | omega | simp), rfl⟩
    · obtain ⟨j, rfl⟩ : ∃ j, k = j + 1 := ⟨k - 1, by omega⟩
      have hj : j < 37 := by omega
      have hB : 2 ^ j < 137438953472 := by
        have : 2 ^ j ≤ 2 ^ 36 := Nat.pow_le_pow_right (by omega) (by omega)
        omega
      have hB0 : 0 < 2 ^ j := Nat.pow_pos (by omega)
      have HR := Lib.hid (fun y hy => root_next hj hx hF y hy)
      have e1 : (if j + 1 = 0 then 0 else 2 ^ (j + 1 - 1)) = 2 ^ j := by rw [if_neg (by omega), Nat.add_sub_cancel]
      rw [e1]
      clear e1 hF h0 hk
      have HT := Lib.hid (test_2 ((x ||| 2 ^ j) ^ 2) p)
      have HS : Hid (rootStep 2 p x (2 ^ j) = if (x ||| 2 ^ j) ^ 2 ≤ p * 2 ^ (32 * 2) then x ||| 2 ^ j else x) := Lib.hid rfl
      generalize 2 ^ j = B at *
      have h37 := or37 hx hB
      have HO := Lib.hid (or64 (a := x) (b := B) (by omega) (by omega))
      generalize x ||| B = y at *
      go_wp2_with fail
      rw [HO.out]
      refine (power_2 y h37 _).mono ?_
      rintro e w' ⟨rfl, rfl⟩
      generalize y ^ 2 = P at *
      have HD : Hid (((B : Int) / 2) = ((B / 2 : Nat) : Int)) := Lib.hid (by omega)
      by_cases hc : P ≤ p * 2 ^ (32 * 2)
      · have HV := Lib.hid (HR.out y (by rw [HS.out, if_pos hc]))
        have hc2 := HT.out.mpr hc
        clear hc HS HT HR
        generalize P / 18446744073709551616 = hi at *
        generalize P % 18446744073709551616 = lo at *
        rcases hc2 with h1 | ⟨h1, h2⟩
        · go_wp2
          rw [HO.out]
          go_round
          case rel => rw [HD.out]; exact HV.out
          case measure => simp [intOf]; omega
        · subst h1 h2
          go_wp2
          rw [HO.out]
          go_round
          case rel => rw [HD.out]; exact HV.out
          case measure => simp [intOf]; omega
      · have HV := Lib.hid (HR.out x (by rw [HS.out, if_neg hc]))
        have hc2 := fun h => hc (HT.out.mp h)
        clear hc HS HT HR
        generalize P / 18446744073709551616 = hi at *
        generalize P % 18446744073709551616 = lo at *
        have h1 : ¬ hi < p := fun h => hc2 (.inl h)
        by_cases h2 : hi = p
        · have h3 : ¬ lo = 0 := fun h => hc2 (.inr ⟨h2, h⟩)
          clear hc2
          subst h2
          have h4 : ((lo : Int) == 0) = false := by rw [beq_eq_false_iff_ne]; omega
          go_wp2
          go_round
          case rel => rw [HD.out]; exact HV.out
          case measure => simp [intOf]; omega
        · clear hc2
          have h4 : ((hi : Int) == (((p) : Nat) : Int)) = false := by rw [beq_eq_false_iff_ne]; omega
          go_wp2
          go_round
          case rel => rw [HD.out]; exact HV.out
          case measure => simp [intOf]; omega
theorem power_3 (r : Nat) (hr : r < 137438953472) (w : World) : Calls Tryz.prog 56 #[.int .u64 (r : Int), .int .i64 3] w fun e w' => e = .returned (.tuple #[.int .u64 ((r ^ 3 / 18446744073709551616 : Nat) : Int), .int .u64 ((r ^ 3 % 18446744073709551616 : Nat) : Int)]) ∧ w = w' :=
  power_any r 3 hr (by omega) (by omega) w
theorem test_3 (P p : Nat) : (P / 18446744073709551616 < p * 4294967296 ∨ P / 18446744073709551616 = p * 4294967296 ∧ P % 18446744073709551616 = 0) ↔ P ≤ p * 2 ^ (32 * 3) :=
  root_test (n := 3) (by omega)
set_option maxHeartbeats 1000000 in
theorem root_3 (p : Nat) (hp : p < 4294967296) (w : World) :
    Calls Tryz.prog 39 #[.int .i64 3, .int .i64 (p : Int)] w fun e w' => e = .returned (.int .u32 ((Sha.rootW 3 p : Nat) : Int)) ∧ w = w' := by
  have H0 : Hid (RootRel 3 p (.int .u64 0) (.int .u64 68719476736)) := Lib.hid ⟨37, 0, by omega, by omega, rfl, rfl, rfl⟩
  obtain ⟨q, hq⟩ : ∃ q : Nat, q = p * 4294967296 := ⟨_, rfl⟩
  have HQ := Lib.hid hq
  have hqi : (p : Int) * 4294967296 = (q : Int) := by omega
  have hq64 : q < 18446744073709551616 := by omega
  clear hq
  go_enter Tryz.func39, Tryz.ntmps39
  go_wp2
  clear hqi
  go_loop [5, 7] (fun r b => RootRel 3 p r b) (fun _ b => (intOf b).toNat)
  case atStart => exact H0.out
  case round =>
    obtain ⟨k, x, hk, hx, rfl, rfl, hF⟩ := hrel
    clear H0
    rcases Nat.eq_zero_or_pos k with h0 | h0
    · subst h0
      have hW : Sha.rootW 3 p = x % 4294967296 := by unfold Sha.rootW; rw [← hF]; rfl
      have HW := Lib.hid hW
      clear hF hW
      go_wp2
      go_ret
      exact ⟨ret_int (by rw [HW.out]; first | rfl | omega | simp), rfl⟩
    · obtain ⟨j, rfl⟩ : ∃ j, k = j + 1 := ⟨k - 1, by omega⟩
      have hj : j < 37 := by omega
      have hB : 2 ^ j < 137438953472 := by
        have : 2 ^ j ≤ 2 ^ 36 := Nat.pow_le_pow_right (by omega) (by omega)
        omega
      have hB0 : 0 < 2 ^ j := Nat.pow_pos (by omega)
      have HR := Lib.hid (fun y hy => root_next hj hx hF y hy)
      have e1 : (if j + 1 = 0 then 0 else 2 ^ (j + 1 - 1)) = 2 ^ j := by rw [if_neg (by omega), Nat.add_sub_cancel]
      rw [e1]
      clear e1 hF h0 hk
      have ht := test_3 ((x ||| 2 ^ j) ^ 3) p
      rw [← HQ.out] at ht
      have HT := Lib.hid ht
      clear ht HQ
      have HS : Hid (rootStep 3 p x (2 ^ j) = if (x ||| 2 ^ j) ^ 3 ≤ p * 2 ^ (32 * 3) then x ||| 2 ^ j else x) := Lib.hid rfl
      generalize 2 ^ j = B at *
      have h37 := or37 hx hB
      have HO := Lib.hid (or64 (a := x) (b := B) (by omega) (by omega))
      generalize x ||| B = y at *
      go_wp2_with fail
      rw [HO.out]
      refine (power_3 y h37 _).mono ?_
      rintro e w' ⟨rfl, rfl⟩
      generalize y ^ 3 = P at *
      have HD : Hid (((B : Int) / 2) = ((B / 2 : Nat) : Int)) := Lib.hid (by omega)
      by_cases hc : P ≤ p * 2 ^ (32 * 3)
      · have HV := Lib.hid (HR.out y (by rw [HS.out, if_pos hc]))
        have hc2 := HT.out.mpr hc
        clear hc HS HT HR
        generalize P / 18446744073709551616 = hi at *
        generalize P % 18446744073709551616 = lo at *
        rcases hc2 with h1 | ⟨h1, h2⟩
        · go_wp2
          rw [HO.out]
          go_round
          case rel => rw [HD.out]; exact HV.out
          case measure => simp [intOf]; omega
        · subst h1 h2
          go_wp2
          rw [HO.out]
          go_round
          case rel => rw [HD.out]; exact HV.out
          case measure => simp [intOf]; omega
      · have HV := Lib.hid (HR.out x (by rw [HS.out, if_neg hc]))
        have hc2 := fun h => hc (HT.out.mp h)
        clear hc HS HT HR
        generalize P / 18446744073709551616 = hi at *
        generalize P % 18446744073709551616 = lo at *
        have h1 : ¬ hi < q := fun h => hc2 (.inl h)
        by_cases h2 : hi = q
        · have h3 : ¬ lo = 0 := fun h => hc2 (.inr ⟨h2, h⟩)
          clear hc2
          subst h2
          have h4 : ((lo : Int) == 0) = false := by rw [beq_eq_false_iff_ne]; omega
          go_wp2
          go_round
          case rel => rw [HD.out]; exact HV.out
          case measure => simp [intOf]; omega
        · clear hc2
          have h4 : ((hi : Int) == (q : Int)) = false := by rw [beq_eq_false_iff_ne]; omega
          go_wp2
          go_round
          case rel => rw [HD.out]; exact HV.out
          case measure => simp [intOf]; omega
end Go.Proofs.YtoclelpmampikaaGreat
