/-
  Primes: the program's and the document's.
-/
import Derived.Test.YtoclelpmampikaaGreatShaB
namespace Go.Proofs.YtoclelpmampikaaGreat
open Go.RowKit
set_option linter.unusedVariables false
attribute [local irreducible] Sha.isP Sha.pr Sha.prs
theorem rem_nat (n d : Nat) : ((n : Int).tmod (d : Int)) = ((n % d : Nat) : Int) := by
  rw [Int.tmod_eq_emod_of_nonneg (by omega)]; rfl
def PrimeRel (n : Nat) (v : Value) : Prop := ∃ d : Nat, v = .int .i64 (d : Int) ∧ 2 ≤ d ∧ d ≤ 19 ∧ ∀ e, 2 ≤ e → e < d → n % e ≠ 0
theorem sq_lt {d m : Nat} (h : d < m) : d * d < m * m := Nat.mul_lt_mul_of_lt_of_le h (by omega) (by omega)
set_option maxHeartbeats 400000 in
theorem prime_any (n : Nat) (h2 : 2 ≤ n) (hn : n < 312) (w : World) :
    Calls Tryz.prog 57 #[.int .i64 (n : Int)] w fun e w' => e = .returned (.bool (Sha.isP n)) ∧ w = w' := by
  go_enter Tryz.func57, Tryz.ntmps57
  go_wp2
  go_loop [3] (fun d => PrimeRel n d) (fun d => (20 - intOf d).toNat)
  case atStart => exact ⟨2, rfl, by omega, by omega, fun e _ _ => by omega⟩
  case round =>
    obtain ⟨d, rfl, hd2, hd, hall⟩ := hrel
    by_cases hlt : d * d ≤ n
    · have hd18 : d < 18 := by
        rcases Nat.lt_or_ge d 18 with h | h
        · exact h
        · have := Nat.mul_le_mul h h; omega
      have hm : IntKind.i64.wrap ((d : Int) * (d : Int)) = ((d * d : Nat) : Int) := by
        rw [cast_mul]; exact IntWalk.i64_in _ (by omega)
      have hr := rem_nat n d
      by_cases hz : n % d = 0
      · have hP : Sha.isP n = false := by
          have : d < n := by
            rcases Nat.lt_or_ge d n with h | h
            · exact h
            · have := Nat.mul_le_mul hd2 (Nat.le_refl d); omega
          exact Sha.isP_no hd2 this hz
        have HP := Lib.hid hP
        have hzb : (((n % d : Nat) : Int) == 0) = true := by rw [hz]; rfl
        clear hall hP hz
        generalize n % d = r at *
        generalize d * d = s at *
        go_wp2
        go_ret
        exact ⟨ret_bool HP.out.symm, rfl⟩
      · have HR : Hid (PrimeRel n (.int .i64 ((d : Int) + 1))) := Lib.hid ⟨d + 1, rfl, by omega, by omega, fun e he hed => by
          by_cases h : e = d
          · subst h; exact hz
          · exact hall e he (by omega)⟩
        have hzb : (((n % d : Nat) : Int) == 0) = false := by rw [beq_eq_false_iff_ne]; omega
        clear hall hz
        generalize n % d = r at *
        generalize d * d = s at *
        go_wp2
        go_round
        case rel => exact HR.out
        case measure => simp [intOf]; omega
    · have HP : Hid (Sha.isP n = true) := by
        refine Lib.hid ?_
        rcases Nat.lt_or_ge d 19 with h | h
        · exact Sha.isP_of h2 hn (by omega) h hall
        · obtain rfl : d = 19 := by omega
          exact Sha.isP_of (d := 18) h2 hn (by omega) (by omega) fun e he hed => hall e he (by omega)
      have hm : IntKind.i64.wrap ((d : Int) * (d : Int)) = ((d * d : Nat) : Int) := by
        rw [cast_mul]; exact IntWalk.i64_in _ (by have := Nat.mul_le_mul hd hd; omega)
      clear hall
      generalize d * d = s at *
      go_wp2
      go_ret
      exact ⟨ret_bool HP.out.symm, rfl⟩
def prI (k : Int) : Nat := if 0 ≤ k ∧ k < 64 then Sha.pr k.toNat else 0
theorem prI_in (k : Nat) (h : k < 64) : prI (k : Int) = Sha.pr k := by unfold prI; rw [if_pos (by omega)]; rfl
theorem prI_out {k : Int} (h : k < 0 ∨ 64 ≤ k) : prI k = 0 := by unfold prI; rw [if_neg (by omega)]
def POuter (k0 : Nat) (k p : Value) : Prop := ∃ j : Nat, j ≤ k0 ∧ k = .int .i64 ((k0 : Int) - (j : Int)) ∧ p = .int .i64 ((Sha.pr j : Nat) : Int)
def PInner (j : Nat) (p : Value) : Prop := ∃ q : Nat, Sha.pr j < q ∧ q ≤ Sha.pr (j + 1) ∧ p = .int .i64 (q : Int)
set_option maxHeartbeats 1000000 in
theorem prime_in (k0 : Nat) (hk0 : k0 < 64) (w : World) :
    Calls Tryz.prog 40 #[.int .i64 (k0 : Int)] w fun e w' => e = .returned (.int .i64 ((Sha.pr k0 : Nat) : Int)) ∧ w = w' := by
  have H0 : Hid (POuter k0 (.int .i64 (k0 : Int)) (.int .i64 2)) := Lib.hid ⟨0, by omega, by simp, by rw [Sha.pr0]; rfl⟩
  go_enter Tryz.func40, Tryz.ntmps40
  go_wp2
  go_loop [0, 3] (fun k p => POuter k0 k p) (fun k _ => (intOf k).toNat)
  case atStart => exact H0.out
  case round =>
    obtain ⟨j, hj, rfl, rfl⟩ := hrel
    clear H0
    by_cases hlt : j < k0
    · have hp := Sha.pr_at (k := j) (by omega)
      have hn := Sha.pr_next (k := j) (by omega)
      have hq := Sha.pr_at (k := j + 1) (by omega)
      have hp1 := hp.1
      have hp2 := hp.2.1
      have HN := Lib.hid hn
      have HQ := Lib.hid hq
      have H1 : Hid (PInner j (.int .i64 (((Sha.pr j : Nat) : Int) + 1))) := Lib.hid ⟨Sha.pr j + 1, by omega, by omega, rfl⟩
      clear hp hn hq
      go_wp2
      go_loop [3] (fun p => PInner j p) (fun p => (((Sha.pr (j + 1) : Nat) : Int) - intOf p).toNat)
      case atStart => exact H1.out
      case round =>
        obtain ⟨q, hq1, hq2, rfl⟩ := hrel
        clear H1
        have hq3 := HQ.out.2.1
        by_cases hlq : q < Sha.pr (j + 1)
        · have hP := HN.out.2 q hq1 hlq
          have HR : Hid (PInner j (.int .i64 ((q : Int) + 1))) := Lib.hid ⟨q + 1, by omega, by omega, rfl⟩
          go_wp2_with fail
          refine (prime_any q (by omega) (by omega) _).mono ?_
          rintro e w' ⟨rfl, rfl⟩
          go_wp2
          go_round
          case rel => exact HR.out
          case measure => simp [intOf]; omega
        · obtain rfl : q = Sha.pr (j + 1) := by omega
          have hP := HQ.out.2.2
          have HR : Hid (POuter k0 (.int .i64 ((k0 : Int) - (j : Int) - 1)) (.int .i64 ((Sha.pr (j + 1) : Nat) : Int))) := Lib.hid ⟨j + 1, by omega, by congr 1; omega, rfl⟩
          go_wp2_with fail
          refine (prime_any _ (by omega) (by omega) _).mono ?_
          rintro e w' ⟨rfl, rfl⟩
          go_wp2
          go_round
          case rel => exact HR.out
          case measure => simp [intOf]; omega
    · obtain rfl : j = k0 := by omega
      go_wp2
      go_ret
      exact ⟨rfl, rfl⟩
set_option maxHeartbeats 400000 in
theorem prime_out (k : Int) (h : k < 0 ∨ 64 ≤ k) (w : World) :
    Calls Tryz.prog 40 #[.int .i64 k] w fun e w' => e = .returned (.int .i64 0) ∧ w = w' := by
  rcases h with h | h
  all_goals
    go_enter Tryz.func40, Tryz.ntmps40
    go_wp2
    go_ret
    exact ⟨rfl, rfl⟩
theorem Prime_any (k : Int) (w : World) :
    Calls Tryz.prog 40 #[.int .i64 k] w fun e w' => e = .returned (.int .i64 ((prI k : Nat) : Int)) ∧ w = w' := by
  by_cases h : 0 ≤ k ∧ k < 64
  · obtain ⟨n, rfl⟩ : ∃ n : Nat, k = (n : Int) := ⟨k.toNat, by omega⟩
    rw [prI_in n (by omega)]
    exact prime_in n (by omega) w
  · rw [prI_out (by omega)]
    exact prime_out k (by omega) w
end Go.Proofs.YtoclelpmampikaaGreat
