/-
  Roots and primes, and the product of two words of 64 bits: plain numbers.
-/
import Derived.Test.YtoclelpmampikaaGreatShaA
namespace Go.Proofs.YtoclelpmampikaaGreat
open Go.RowKit
set_option linter.unusedVariables false
theorem wrap_cast {n : Nat} (h : n < 18446744073709551616) : IntKind.u64.wrap (n : Int) = (n : Int) := wraps_u64 _ (by omega) (by omega)
theorem mask64 (x : Nat) (hx : x < 18446744073709551616) : bits .and .u64 (x : Int) 4294967295 = ((x % 4294967296 : Nat) : Int) := by
  have h := (bits_cast .u64 64 (by decide) wraps_u64 x 4294967295 hx (by omega)).1
  rw [show x &&& 4294967295 = x % 4294967296 from Nat.and_two_pow_sub_one_eq_mod x 32] at h
  exact h
theorem cast_div (a b : Nat) : (a : Int) / (b : Int) = ((a / b : Nat) : Int) := (Int.natCast_ediv a b).symm
theorem cast_mul (a b : Nat) : (a : Int) * (b : Int) = ((a * b : Nat) : Int) := (Int.natCast_mul a b).symm
theorem cast_add (a b : Nat) : (a : Int) + (b : Int) = ((a + b : Nat) : Int) := (Int.natCast_add a b).symm
theorem lo_bound {a b : Nat} (ha : a ≤ 4294967295) (hb : b ≤ 4294967295) : a * b ≤ 18446744065119617025 := Nat.mul_le_mul ha hb
theorem mul_parts (x y : Nat) : x * y = (x / 4294967296 * (y / 4294967296)) * 18446744073709551616 + (x / 4294967296 * (y % 4294967296)) * 4294967296 + (x % 4294967296 * (y / 4294967296)) * 4294967296 + x % 4294967296 * (y % 4294967296) := by
  have hx : x = x / 4294967296 * 4294967296 + x % 4294967296 := by omega
  have hy : y = y / 4294967296 * 4294967296 + y % 4294967296 := by omega
  generalize x / 4294967296 = a at *
  generalize x % 4294967296 = b at *
  generalize y / 4294967296 = c at *
  generalize y % 4294967296 = d at *
  subst hx hy
  rw [Nat.add_mul, Nat.mul_add, Nat.mul_add]
  have e1 : a * 4294967296 * (c * 4294967296) = a * c * 18446744073709551616 := by
    rw [Nat.mul_mul_mul_comm]
  have e2 : a * 4294967296 * d = a * d * 4294967296 := Nat.mul_right_comm _ _ _
  have e3 : b * (c * 4294967296) = b * c * 4294967296 := (Nat.mul_assoc _ _ _).symm
  rw [e1, e2, e3]
  omega
theorem mul_hi {x y : Nat} (hx : x < 18446744073709551616) (hy : y < 18446744073709551616) :
    IntKind.u64.wrap
              (IntKind.u64.wrap
                  (IntKind.u64.wrap ((x : Int) / 4294967296 * ((y : Int) / 4294967296)) +
                    IntKind.u64.wrap
                        (IntKind.u64.wrap ((x : Int) / 4294967296 * bits BinOp.and IntKind.u64 (y : Int) 4294967295) +
                          IntKind.u64.wrap
                              (bits BinOp.and IntKind.u64 (x : Int) 4294967295 *
                                bits BinOp.and IntKind.u64 (y : Int) 4294967295) /
                            4294967296) /
                      4294967296) +
                IntKind.u64.wrap
                    (bits BinOp.and IntKind.u64
                        (IntKind.u64.wrap
                          (IntKind.u64.wrap ((x : Int) / 4294967296 * bits BinOp.and IntKind.u64 (y : Int) 4294967295) +
                            IntKind.u64.wrap
                                (bits BinOp.and IntKind.u64 (x : Int) 4294967295 *
                                  bits BinOp.and IntKind.u64 (y : Int) 4294967295) /
                              4294967296))
                        4294967295 +
                      IntKind.u64.wrap (bits BinOp.and IntKind.u64 (x : Int) 4294967295 * ((y : Int) / 4294967296))) /
                  4294967296) = ((x * y / 18446744073709551616 : Nat) : Int) := by
  rw [mask64 x hx, mask64 y hy]
  have hp := mul_parts x y
  have e1 : (x : Int) / 4294967296 = ((x / 4294967296 : Nat) : Int) := cast_div x 4294967296
  have e2 : (y : Int) / 4294967296 = ((y / 4294967296 : Nat) : Int) := cast_div y 4294967296
  rw [e1, e2]
  have b1 : x / 4294967296 ≤ 4294967295 := by omega
  have b2 : y / 4294967296 ≤ 4294967295 := by omega
  have b3 : x % 4294967296 ≤ 4294967295 := by omega
  have b4 : y % 4294967296 ≤ 4294967295 := by omega
  have p1 := lo_bound b1 b2
  have p2 := lo_bound b1 b4
  have p3 := lo_bound b3 b2
  have p4 := lo_bound b3 b4
  simp only [cast_mul]
  rw [hp]
  clear hp e1 e2 b1 b2 b3 b4 hx hy
  generalize x / 4294967296 * (y / 4294967296) = d at *
  generalize x / 4294967296 * (y % 4294967296) = b at *
  generalize x % 4294967296 * (y / 4294967296) = c at *
  generalize x % 4294967296 * (y % 4294967296) = a at *
  rw [wrap_cast (n := d) (by omega), wrap_cast (n := b) (by omega), wrap_cast (n := c) (by omega), wrap_cast (n := a) (by omega)]
  have q1 : (a : Int) / 4294967296 = ((a / 4294967296 : Nat) : Int) := cast_div a 4294967296
  rw [q1, cast_add, wrap_cast (n := b + a / 4294967296) (by omega), mask64 _ (by omega)]
  have q2 : ((b + a / 4294967296 : Nat) : Int) / 4294967296 = (((b + a / 4294967296) / 4294967296 : Nat) : Int) := cast_div _ 4294967296
  rw [q2, cast_add, cast_add, wrap_cast (n := d + (b + a / 4294967296) / 4294967296) (by omega), wrap_cast (n := (b + a / 4294967296) % 4294967296 + c) (by omega)]
  have q3 : (((b + a / 4294967296) % 4294967296 + c : Nat) : Int) / 4294967296 = ((((b + a / 4294967296) % 4294967296 + c) / 4294967296 : Nat) : Int) := cast_div _ 4294967296
  rw [q3, cast_add, wrap_cast (by omega)]
  congr 1
  omega
theorem wrap_mod (n : Nat) : IntKind.u64.wrap (n : Int) = ((n % 18446744073709551616 : Nat) : Int) := by
  simp [IntKind.wrap, IntKind.bits, IntKind.signed]
theorem mul_lo (x y : Nat) : IntKind.u64.wrap ((x : Int) * (y : Int)) = ((x * y % 18446744073709551616 : Nat) : Int) := by
  rw [cast_mul, wrap_mod]
theorem wrap_mod32 (n : Nat) : IntKind.u32.wrap (n : Int) = ((n % 4294967296 : Nat) : Int) := by
  rw [IntKind.wrap_u32]
  omega
namespace Sha
/-- root number n of p times two to the 32 n: bits k - 1 to 0 are tried -/
def rootF (n p : Nat) : Nat → Nat → Nat
  | 0, r => r
  | k + 1, r => rootF n p k (if (r ||| 2 ^ k) ^ n ≤ p * 2 ^ (32 * n) then r ||| 2 ^ k else r)
def rootW (n p : Nat) : Nat := rootF n p 37 0 % 4294967296
def isP (n : Nat) : Bool := (List.range n).all fun d => decide (d < 2) || !(n % d == 0)
def prs : List Nat := (List.range 312).filter fun n => decide (2 ≤ n) && isP n
theorem prs_len : prs.length = 64 := by kernel_rfl
def pr (k : Nat) : Nat := prs.getD k 0
theorem pr0 : pr 0 = 2 := by kernel_rfl
theorem pr_all : ((List.range 64).all fun k => decide (2 ≤ pr k) && decide (pr k < 312) && isP (pr k) && (k == 63 || (decide (pr k < pr (k + 1)) && (List.range 312).all fun q => decide (q ≤ pr k) || decide (pr (k + 1) ≤ q) || !isP q))) = true := by kernel_rfl
theorem pr_at {k : Nat} (h : k < 64) : 2 ≤ pr k ∧ pr k < 312 ∧ isP (pr k) = true := by
  have := List.all_eq_true.mp pr_all k (List.mem_range.mpr h)
  simp only [Bool.and_eq_true, decide_eq_true_eq] at this
  exact ⟨this.1.1.1, this.1.1.2, this.1.2⟩
theorem pr_next {k : Nat} (h : k < 63) : pr k < pr (k + 1) ∧ ∀ q, pr k < q → q < pr (k + 1) → isP q = false := by
  have h0 := List.all_eq_true.mp pr_all k (List.mem_range.mpr (by omega))
  simp only [Bool.and_eq_true, Bool.or_eq_true, decide_eq_true_eq] at h0
  rcases h0.2 with e | e
  · have := eq_of_beq e; omega
  · refine ⟨e.1, fun q h1 h2 => ?_⟩
    have hq := (pr_at (k := k + 1) (by omega)).2.1
    have := List.all_eq_true.mp e.2 q (List.mem_range.mpr (by omega))
    simp only [Bool.or_eq_true, decide_eq_true_eq] at this
    rcases this with (h3 | h3) | h3
    · omega
    · omega
    · simpa using h3
theorem small_all : ((List.range 312).all fun n => decide (n < 2) || (List.range 19).all fun d => decide (d * d ≤ n) || isP n || (List.range d).any fun e => decide (2 ≤ e) && n % e == 0) = true := by kernel_rfl
theorem isP_of {n d : Nat} (hn : 2 ≤ n) (hn2 : n < 312) (hd : n < d * d) (hd2 : d < 19) (h : ∀ e, 2 ≤ e → e < d → n % e ≠ 0) : isP n = true := by
  have h0 := List.all_eq_true.mp small_all n (List.mem_range.mpr hn2)
  simp only [Bool.or_eq_true, decide_eq_true_eq] at h0
  rcases h0 with h0 | h0
  · omega
  · have h1 := List.all_eq_true.mp h0 d (List.mem_range.mpr hd2)
    simp only [Bool.or_eq_true, decide_eq_true_eq] at h1
    rcases h1 with (h1 | h1) | h1
    · omega
    · exact h1
    · obtain ⟨e, he, h2⟩ := List.any_eq_true.mp h1
      simp only [Bool.and_eq_true, decide_eq_true_eq] at h2
      exact absurd (eq_of_beq h2.2) (h e h2.1 (List.mem_range.mp he))
theorem isP_no {n d : Nat} (h2 : 2 ≤ d) (hd : d < n) (h : n % d = 0) : isP n = false := by
  unfold isP
  rw [List.all_eq_false]
  exact ⟨d, List.mem_range.mpr hd, by simp [h]; omega⟩
theorem isP_yes {n : Nat} (h : ∀ e, 2 ≤ e → e < n → n % e ≠ 0) : isP n = true := by
  unfold isP
  rw [List.all_eq_true]
  intro d hd
  by_cases h2 : d < 2
  · simp [h2]
  · have := h d (by omega) (List.mem_range.mp hd)
    simp [this]
theorem root_words : ((List.range 64).all fun k => rootW 3 (pr k) == K.getD k 0) = true := by kernel_rfl
theorem root_firsts : ((List.range 8).all fun k => rootW 2 (pr k) == H0.getD k 0) = true := by kernel_rfl
theorem root_K {k : Nat} (h : k < 64) : rootW 3 (pr k) = K.getD k 0 := eq_of_beq (List.all_eq_true.mp root_words k (List.mem_range.mpr h))
theorem root_H {k : Nat} (h : k < 8) : rootW 2 (pr k) = H0.getD k 0 := eq_of_beq (List.all_eq_true.mp root_firsts k (List.mem_range.mpr h))
end Sha
end Go.Proofs.YtoclelpmampikaaGreat
