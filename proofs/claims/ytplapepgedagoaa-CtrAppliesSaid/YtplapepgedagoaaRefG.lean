/-
  The document's own inverse and box (out of GfR: for a seat without the field's laws).
-/
import Derived.Test.YtplapepgedagoaaGfD
namespace Go.Proofs.Ytplapepgedagoaa
set_option linter.unusedVariables false
open Go.RowKit
attribute [local irreducible] Gf.inv Gf.tm Gf.pw Gf.spread Gf.sub Gf.boxAt Gf.bk Gf.rm Gf.bit
theorem bit_ret {c : Nat} {k : Int} (h0 : 0 ≤ k) : ((c : Int) / 2 ^ (k % 8).toNat).tmod 2 = ((Gf.bit c k.toNat : Nat) : Int) := by
  have e : (k % 8).toNat = k.toNat % 8 := by omega
  rw [e]
  have h1 : ((c / 2 ^ (k.toNat % 8) : Nat) : Int) = (c : Int) / 2 ^ (k.toNat % 8) := by rw [Int.natCast_ediv]; simp
  rw [← h1, Int.tmod_eq_emod_of_nonneg (Int.natCast_nonneg _)]
  unfold Gf.bit
  omega
set_option maxHeartbeats 400000 in
theorem bit_walk (c : Nat) (hc : c < 256) (k : Int) (h0 : 0 ≤ k) (h1 : k ≤ 14) (w : World) :
    Calls Try.prog 88 #[.int .u8 c, .int .i64 k] w fun e w' => e = .returned (.int .i64 (Gf.bit c k.toNat : Nat)) ∧ w = w' := by
  go_enter Try.func88, Try.ntmps88
  go_wp2
  go_ret
  exact ⟨ret_int (bit_ret h0), rfl⟩
theorem bit_any (c : Nat) (hc : c < 256) (k : Int) (h0 : 0 ≤ k) (h1 : k ≤ 14) (w : World) :
    Calls Try.prog 88 #[.int .u8 c, .int .i64 k] w fun e w' => ∃ z : Nat, e = .returned (.int .i64 z) ∧ z ≤ 1 ∧ Hid (z = Gf.bit c k.toNat) ∧ w = w' :=
  (bit_walk c hc k h0 h1 w).mono fun _ _ ⟨he, hw⟩ => ⟨_, he, by unfold Gf.bit; omega, Lib.hid rfl, hw⟩
theorem inv_found {a k : Nat} (ha : a < 256) (hk : k < 256) (h : Gf.rm a k = 1) : k = Gf.inv a := Gf.inv_only ha hk (by rw [Gf.tm_rm ha hk]; exact h)
theorem inv_none {a : Nat} (ha : a < 256) (h : ∀ j, j < 256 → Gf.rm a j ≠ 1) : Gf.inv a = 0 := by
  by_cases h0 : a = 0
  · subst h0; exact Gf.inv_zero
  · have h1 := Gf.tm_inv ha
    rw [if_neg h0, Gf.tm_rm ha (Gf.inv_lt ha)] at h1
    exact absurd h1 (h _ (Gf.inv_lt ha))
def InvRel (a : Nat) (k : Value) : Prop := ∃ n : Nat, k = .int .i64 (n : Int) ∧ n ≤ 256 ∧ ∀ j, j < n → Gf.rm a j ≠ 1
theorem inv_step {a n : Nat} (hn : n < 256) (h : ∀ j, j < n → Gf.rm a j ≠ 1) (h1 : ¬ Gf.rm a n = 1) : InvRel a (.int .i64 ((n : Int) + 1)) :=
  ⟨n + 1, rfl, by omega, fun j hj => by
    by_cases e : j = n
    · subst e; exact h1
    · exact h j (by omega)⟩
set_option maxHeartbeats 400000 in
set_option maxRecDepth 100000 in
theorem refInv_any (a : Nat) (ha : a < 256) (w : World) :
    Calls Try.prog 87 #[.int .u8 a] w fun e w' => e = .returned (.int .u8 (Gf.inv a : Nat)) ∧ w = w' := by
  go_enter Try.func87, Try.ntmps87
  go_wp2
  go_loop [3] (fun k => InvRel a k) (fun k => (256 - intOf k).toNat)
  case atStart => exact ⟨0, rfl, by omega, fun j hj => by omega⟩
  case round =>
    obtain ⟨n, rfl, hn, hall⟩ := hrel
    by_cases hlt : n < 256
    · by_cases h1 : Gf.rm a n = 1
      · have H := Lib.hid (inv_found ha hlt h1)
        have hb : (((Gf.rm a n : Nat) : Int) == 1) = true := by rw [h1]; rfl
        clear hall h1
        go_wp2_with (go_at_call 48; refine (refMul_any a n ha hlt _).mono ?_; rintro e w' ⟨rfl, rfl⟩)
        go_ret
        exact ⟨ret_int (by rw [← H.out]), rfl⟩
      · have H := Lib.hid (inv_step hlt hall h1)
        have hb : (((Gf.rm a n : Nat) : Int) == 1) = false := by simp; omega
        clear hall h1
        go_wp2_with (go_at_call 48; refine (refMul_any a n ha hlt _).mono ?_; rintro e w' ⟨rfl, rfl⟩)
        go_round
        case rel => exact H.out
        case measure => simp [intOf]; omega
    · obtain rfl : n = 256 := by omega
      have H := Lib.hid (inv_none ha hall)
      clear hall
      go_wp2
      go_ret
      exact ⟨ret_int (by rw [H.out]; rfl), rfl⟩

def SubRel (i : Nat) (o k : Value) : Prop := ∃ m : Nat, k = .int .i64 ((m : Int) - 1) ∧ o = .int .i64 ((Gf.bits8 i (8 - m) : Nat) : Int) ∧ m ≤ 8
theorem bits8_lt (i : Nat) : ∀ n, Gf.bits8 i n < 2 ^ n := by
  intro n
  induction n with
  | zero => simp [Gf.bits8]
  | succ n ih => unfold Gf.bits8; rw [Nat.pow_succ]; omega
theorem bit_le (c k : Nat) : Gf.bit c k ≤ 1 := by unfold Gf.bit; omega
theorem sub_step {i m : Nat} (h0 : ¬ m = 0) (hm : m ≤ 8) :
    SubRel i (.int .i64 (2 * ((Gf.bits8 i (8 - m) : Nat) : Int) + (((Gf.bit i ((m : Int) - 1).toNat : Nat) : Int) + ((Gf.bit i ((m : Int) - 1 + 4).toNat : Nat) : Int) + ((Gf.bit i ((m : Int) - 1 + 5).toNat : Nat) : Int)
      + ((Gf.bit i ((m : Int) - 1 + 6).toNat : Nat) : Int) + ((Gf.bit i ((m : Int) - 1 + 7).toNat : Nat) : Int) + ((Gf.bit 99 ((m : Int) - 1).toNat : Nat) : Int)) % 2)) (.int .i64 ((m : Int) - 1 - 1)) := by
  obtain ⟨n, rfl⟩ : ∃ n, m = n + 1 := ⟨m - 1, by omega⟩
  refine ⟨n, by congr 1; omega, ?_, by omega⟩
  have e1 : 8 - n = (8 - (n + 1)) + 1 := by omega
  have e2 : 7 - (8 - (n + 1)) = n := by omega
  rw [e1]
  have e3 : Gf.bits8 i (8 - (n + 1) + 1) = 2 * Gf.bits8 i (8 - (n + 1)) + (Gf.bit i n + Gf.bit i (n + 4) + Gf.bit i (n + 5) + Gf.bit i (n + 6) + Gf.bit i (n + 7) + Gf.bit 99 n) % 2 := by
    rw [Gf.bits8, e2]
  rw [e3]
  have t0 : (((n + 1 : Nat) : Int) - 1).toNat = n := by omega
  have t4 : (((n + 1 : Nat) : Int) - 1 + 4).toNat = n + 4 := by omega
  have t5 : (((n + 1 : Nat) : Int) - 1 + 5).toNat = n + 5 := by omega
  have t6 : (((n + 1 : Nat) : Int) - 1 + 6).toNat = n + 6 := by omega
  have t7 : (((n + 1 : Nat) : Int) - 1 + 7).toNat = n + 7 := by omega
  rw [t0, t4, t5, t6, t7]
  congr 1
set_option maxHeartbeats 800000 in
set_option maxRecDepth 100000 in
theorem refSub_any (c : Nat) (hc : c < 256) (w : World) :
    Calls Try.prog 72 #[.int .u8 c] w fun e w' => e = .returned (.int .u8 (Gf.sub c : Nat)) ∧ w = w' := by
  have hi := Gf.inv_lt hc
  go_enter Try.func72, Try.ntmps72
  go_wp2_with (go_at_call 87; refine (refInv_any c hc _).mono ?_; rintro e w' ⟨rfl, rfl⟩)
  generalize hI : Gf.inv c = i at *
  have HI := Lib.hid hI
  clear hI
  go_loop [4, 5] (fun o k => SubRel i o k) (fun _ k => (intOf k + 1).toNat)
  case atStart => exact ⟨8, rfl, rfl, by omega⟩
  case round =>
    obtain ⟨m, rfl, rfl, hm⟩ := hrel
    by_cases h0 : m = 0
    · subst h0
      go_wp2
      go_ret
      exact ⟨ret_int (by
        have h1 := Gf.spread_at hi
        have h2 : Gf.sub c = Gf.bits8 i 8 := by unfold Gf.sub; rw [HI.out]; exact h1.1
        have h3 := h1.2
        rw [h1.1] at h3
        rw [h2]
        omega), rfl⟩
    · have b0 : Gf.bits8 i (8 - m) < 256 := by
        have h1 := bits8_lt i (8 - m)
        have h2 : 2 ^ (8 - m) ≤ 2 ^ 8 := Nat.pow_le_pow_right (by omega) (by omega)
        omega
      have H := Lib.hid (sub_step (i := i) h0 hm)
      go_wp2_with fail
      refine (bit_any _ hi _ (by omega) (by omega) _).mono ?_
      rintro e w' ⟨z1, rfl, y1, Z1, rfl⟩
      go_wp2_with fail
      refine (bit_any _ hi _ (by omega) (by omega) _).mono ?_
      rintro e w' ⟨z2, rfl, y2, Z2, rfl⟩
      go_wp2_with fail
      refine (bit_any _ hi _ (by omega) (by omega) _).mono ?_
      rintro e w' ⟨z3, rfl, y3, Z3, rfl⟩
      go_wp2_with fail
      refine (bit_any _ hi _ (by omega) (by omega) _).mono ?_
      rintro e w' ⟨z4, rfl, y4, Z4, rfl⟩
      go_wp2_with fail
      refine (bit_any _ hi _ (by omega) (by omega) _).mono ?_
      rintro e w' ⟨z5, rfl, y5, Z5, rfl⟩
      go_wp2_with fail
      refine (bit_any 99 (by omega) _ (by omega) (by omega) _).mono ?_
      rintro e w' ⟨z6, rfl, y6, Z6, rfl⟩
      go_wp2
      go_round
      case rel => rw [Z1.out, Z2.out, Z3.out, Z4.out, Z5.out, Z6.out]; exact H.out
      case measure => simp [intOf]; omega
end Go.Proofs.Ytplapepgedagoaa
