/-
  What 'twice', 'times' and Mul of package gf answer.
-/
import Derived.Test.YthjpaligpojlnaaRows
import Derived.Test.YthjpaligpojlnaaGfMath
import Derived.Test.YthjpaligpojlnaaBits
import Derived.WalkKit
import Derived.WalkSpells
import Derived.WalkLawsBesides
import Derived.Lib.Hide
namespace Go.Proofs.Ythjpaligpojlnaa
set_option linter.unusedVariables false
open Go.RowKit
theorem top_bit {p : Nat} (hp : p < 256) : bits BinOp.and IntKind.u8 (p : Int) 128 = ((p &&& 128 : Nat) : Int) := and8 (b := 128) hp (by omega)
theorem low_bit {p : Nat} (hp : p < 256) : bits BinOp.and IntKind.u8 (p : Int) 1 = ((p % 2 : Nat) : Int) := by rw [← and1]; exact and8 (b := 1) hp (by omega)
theorem xt_yes {p : Nat} (h : ¬ p &&& 128 = 0) : bits BinOp.xor IntKind.u8 ((p : Int) * 2 % 256) 27 = ((Gf.xt p : Nat) : Int) := by
  have h1 : Gf.xt p = (2 * p % 256) ^^^ 27 := by unfold Gf.xt; rw [if_neg h]
  rw [h1]
  have h2 : ((p : Int) * 2 % 256) = ((2 * p % 256 : Nat) : Int) := by omega
  rw [h2]
  exact xor8 (b := 27) (by omega) (by omega)
theorem xt_no {p : Nat} (h : p &&& 128 = 0) : ((p : Int) * 2 % 256) = ((Gf.xt p : Nat) : Int) := by
  have h1 : Gf.xt p = 2 * p % 256 := by unfold Gf.xt; rw [if_pos h]
  rw [h1]; omega
set_option maxHeartbeats 400000 in
theorem twice_any (p : Nat) (hp : p < 256) (w : World) :
    Calls Try.prog 79 #[.int .u8 p] w fun e w' => e = .returned (.int .u8 (Gf.xt p : Nat)) ∧ w = w' := by
  by_cases h : p &&& 128 = 0
  · have hb : (bits BinOp.and IntKind.u8 (p : Int) 128 != 0) = false := by rw [top_bit hp, h]; rfl
    have H := Lib.hid h
    clear h
    go_enter Try.func79, Try.ntmps79
    go_wp2
    go_ret
    exact ⟨ret_int (xt_no H.out), rfl⟩
  · have hb : (bits BinOp.and IntKind.u8 (p : Int) 128 != 0) = true := by rw [top_bit hp]; simp; omega
    have H := Lib.hid h
    clear h
    go_enter Try.func79, Try.ntmps79
    go_wp2
    go_ret
    exact ⟨ret_int (xt_yes H.out), rfl⟩

def TimesRel (p q : Nat) (a b o : Value) : Prop := ∃ n p' q' o' : Nat, a = .int .u8 (p' : Nat) ∧ b = .int .u8 (q' : Nat) ∧ o = .int .u8 (o' : Nat) ∧ n ≤ 8 ∧ p' < 256 ∧ q' < 2 ^ n ∧ o' < 256 ∧ Gf.tmR n p' q' o' = Gf.tm p q
theorem TimesRel.step_odd {p q n p' q' o' : Nat} (hn : n ≤ 8) (hp : p' < 256) (hq : q' < 2 ^ n) (ho : o' < 256) (h : Gf.tmR n p' q' o' = Gf.tm p q) (h0 : 0 < q') (h1 : q' % 2 = 1) :
    TimesRel p q (.int .u8 (Gf.xt p' : Nat)) (.int .u8 ((q' : Int) / 2)) (.int .u8 (bits BinOp.xor IntKind.u8 (o' : Int) (p' : Int))) := by
  obtain ⟨m, rfl⟩ : ∃ m, n = m + 1 := ⟨n - 1, by rcases n with _ | n <;> simp at * ; omega⟩
  refine ⟨m, Gf.xt p', q' / 2, o' ^^^ p', rfl, by norm_cast, by rw [xor8 ho hp], by omega, Gf.xt_lt hp, by rw [Nat.pow_succ] at hq; omega, Gf.xor_lt ho hp, ?_⟩
  rw [← h]
  conv => rhs; rw [Gf.tmR]
  rw [if_pos h1]
theorem TimesRel.step_even {p q n p' q' o' : Nat} (hn : n ≤ 8) (hp : p' < 256) (hq : q' < 2 ^ n) (ho : o' < 256) (h : Gf.tmR n p' q' o' = Gf.tm p q) (h0 : 0 < q') (h1 : ¬ q' % 2 = 1) :
    TimesRel p q (.int .u8 (Gf.xt p' : Nat)) (.int .u8 ((q' : Int) / 2)) (.int .u8 (o' : Int)) := by
  obtain ⟨m, rfl⟩ : ∃ m, n = m + 1 := ⟨n - 1, by rcases n with _ | n <;> simp at * ; omega⟩
  refine ⟨m, Gf.xt p', q' / 2, o', rfl, by norm_cast, rfl, by omega, Gf.xt_lt hp, by rw [Nat.pow_succ] at hq; omega, ho, ?_⟩
  rw [← h]
  conv => rhs; rw [Gf.tmR]
  rw [if_neg h1]
set_option maxHeartbeats 400000 in
theorem times_any (p q : Nat) (hp : p < 256) (hq : q < 256) (w : World) :
    Calls Try.prog 70 #[.int .u8 p, .int .u8 q] w fun e w' => e = .returned (.int .u8 (Gf.tm p q : Nat)) ∧ w = w' := by
  go_enter Try.func70, Try.ntmps70
  go_wp2
  go_loop [0, 1, 5] (fun a b o => TimesRel p q a b o) (fun _ b _ => (intOf b).toNat)
  case atStart => exact ⟨8, p, q, 0, rfl, rfl, rfl, by omega, hp, by simpa using hq, by omega, rfl⟩
  case round =>
    obtain ⟨n, p', q', o', rfl, rfl, rfl, hn, hp', hq', ho', hr⟩ := hrel
    by_cases hz : q' = 0
    · subst hz
      have H := Lib.hid hr
      clear hr
      go_wp2
      go_ret
      exact ⟨ret_int (by rw [← H.out, Gf.tmR_zero]), rfl⟩
    · have hpos : 0 < q' := by omega
      by_cases h1 : q' % 2 = 1
      · have hb : (bits BinOp.and IntKind.u8 (q' : Int) 1 == 1) = true := by rw [low_bit (by have : 2 ^ n ≤ 2 ^ 8 := Nat.pow_le_pow_right (by omega) hn; omega), h1]; rfl
        have hs := TimesRel.step_odd hn hp' hq' ho' hr hpos h1
        have H := Lib.hid hs
        clear hs hr h1 hz hq'
        go_wp2_with (go_at_call 79; refine (twice_any _ hp' _).mono ?_; rintro e w' ⟨rfl, rfl⟩)
        go_round
        case rel => exact H.out
        case measure => simp [intOf]; omega
      · have hb : (bits BinOp.and IntKind.u8 (q' : Int) 1 == 1) = false := by
          rw [low_bit (by have : 2 ^ n ≤ 2 ^ 8 := Nat.pow_le_pow_right (by omega) hn; omega)]
          have : q' % 2 = 0 := by omega
          rw [this]; rfl
        have hs := TimesRel.step_even hn hp' hq' ho' hr hpos h1
        have H := Lib.hid hs
        clear hs hr h1 hz hq'
        go_wp2_with (go_at_call 79; refine (twice_any _ hp' _).mono ?_; rintro e w' ⟨rfl, rfl⟩)
        go_round
        case rel => exact H.out
        case measure => simp [intOf]; omega
end Go.Proofs.Ythjpaligpojlnaa
