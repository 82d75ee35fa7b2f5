/-
  Powers, inverses, the spread bits, the box.
-/
import Derived.Test.YthjpaligpojlnaaGfB
namespace Go.Proofs.Ythjpaligpojlnaa
set_option linter.unusedVariables false
open Go.RowKit
theorem rot_ret {i k : Nat} {x y : Int} (hi : i < 256) (hx : x = ((i * 2 ^ k % 256 : Nat) : Int)) (hy : y = ((i / 2 ^ (8 - k) : Nat) : Int)) :
    Ending.returned (.int .u8 (bits BinOp.or IntKind.u8 x y)) = .returned (.int .u8 ((Gf.rot i k : Nat) : Int)) := by
  rw [hx, hy, or8 (Nat.mod_lt _ (by omega)) (Nat.lt_of_le_of_lt (Nat.div_le_self _ _) hi)]
  rfl
set_option maxHeartbeats 400000 in
theorem rot_any (i k : Nat) (hi : i < 256) (hk : k < 5) (w : World) :
    Calls Try.prog 47 #[.int .u8 i, .int .i64 k] w fun e w' => e = .returned (.int .u8 (Gf.rot i k : Nat)) ∧ w = w' := by
  have h0 : bits BinOp.and IntKind.u64 0 7 = 0 := by decide
  have h1 : bits BinOp.and IntKind.u64 1 7 = 1 := by decide
  have h2 : bits BinOp.and IntKind.u64 2 7 = 2 := by decide
  have h3 : bits BinOp.and IntKind.u64 3 7 = 3 := by decide
  have h4 : bits BinOp.and IntKind.u64 4 7 = 4 := by decide
  obtain rfl | rfl | rfl | rfl | rfl : k = 0 ∨ k = 1 ∨ k = 2 ∨ k = 3 ∨ k = 4 := by omega
  all_goals
    clear hk
    go_enter Try.func47, Try.ntmps47
    go_wp2
    go_ret
    exact ⟨rot_ret hi (by omega) (by omega), rfl⟩
/-- the box's cells behind so many rounds -/
def Gf.boxAt : Nat → Array Value
  | 0 => Array.replicate 512 (.int .u8 0)
  | n + 1 => ((Gf.boxAt n).setIfInBounds n (.int .u8 ((Gf.sub n : Nat) : Int))).setIfInBounds (256 + Gf.sub n) (.int .u8 (n : Int))
def SprRel (i : Nat) (o k : Value) : Prop := ∃ n : Nat, o = .int .u8 ((Gf.spr i n : Nat) : Int) ∧ k = .int .i64 (n : Int) ∧ n ≤ 5
theorem spr_step {i n : Nat} (hi : i < 256) (hn : n < 5) : SprRel i (.int .u8 (bits BinOp.xor IntKind.u8 ((Gf.spr i n : Nat) : Int) ((Gf.rot i n : Nat) : Int))) (.int .i64 ((n : Int) + 1)) :=
  ⟨n + 1, by rw [xor8 (Gf.spr_lt hi n) (Gf.rot_lt hi)]; rfl, rfl, by omega⟩
set_option maxHeartbeats 400000 in
theorem lit_any (i k : Nat) (hi : i < 256) (hk : k < 5) (b : Nat) (w : World) (hc : w.cell? ⟨b, 0, none⟩ = some (.int .u8 i)) :
    Calls Try.prog 46 #[.int .i64 k, .pointer (some ⟨b, 0, none⟩)] w fun e w' => e = .returned (.int .u8 (Gf.rot i k : Nat)) ∧ w = w' := by
  go_enter Try.func46, Try.ntmps46
  go_wp2_with (go_at_call 47; refine (rot_any _ _ hi hk _).mono ?_; rintro e w' ⟨rfl, rfl⟩)
  go_ret
  exact ⟨rfl, rfl⟩
set_option maxHeartbeats 400000 in
theorem sum_any (i : Nat) (hi : i < 256) (b : Nat) (w : World) (hc : w.cell? ⟨b, 0, none⟩ = some (.int .u8 i)) :
    Calls Try.prog 45 #[.int .i64 5, .func (Fn.func 46) #[] #[.pointer (some ⟨b, 0, none⟩)]] w fun e w' => e = .returned (.int .u8 (Gf.spr i 5 : Nat)) ∧ w = w' := by
  go_enter Try.func45, Try.ntmps45
  go_wp2
  go_loop [5, 8] (fun o k => SprRel i o k) (fun _ k => (5 - intOf k).toNat)
  case atStart => exact ⟨0, rfl, rfl, by omega⟩
  case round =>
    obtain ⟨n, rfl, rfl, hn⟩ := hrel
    by_cases hlt : n < 5
    · have H := Lib.hid (spr_step hi hlt)
      go_wp2_with (go_at_call 46; refine (lit_any _ _ hi hlt _ _ hc).mono ?_; rintro e w' ⟨rfl, rfl⟩)
      go_round
      case rel => exact H.out
      case measure => simp [intOf]; omega
    · obtain rfl : n = 5 := by omega
      go_wp2
      go_ret
      exact ⟨rfl, rfl⟩
set_option maxHeartbeats 400000 in
theorem spread_any (i : Nat) (hi : i < 256) (w : World) :
    Calls Try.prog 31 #[.int .u8 i] w fun e w' => e = .returned (.int .u8 (Gf.spread i : Nat)) ∧ w.alloc (.cells #[.int .u8 i] 5) = w' := by
  go_enter Try.func31, Try.ntmps31
  go_wp2_with (go_at_call 45; refine (sum_any i hi _ _ (by simp)).mono ?_; rintro e w' ⟨rfl, rfl⟩)
  go_ret
  exact ⟨ret_int (xor8 (b := 99) (Gf.spr_lt hi 5) (by omega)), rfl⟩
def PowRel (a N : Nat) (o s n : Value) : Prop := ∃ o' s' n' : Nat, o = .int .u8 (o' : Int) ∧ s = .int .u8 (s' : Int) ∧ n = .int .i64 (n' : Int) ∧ o' < 256 ∧ s' < 256 ∧ n' ≤ N ∧ Gf.tm o' (Gf.pw s' n') = Gf.pw a N
theorem pow_odd {a N o s n : Nat} (ho : o < 256) (hs : s < 256) (hn : n ≤ N) (h : Gf.tm o (Gf.pw s n) = Gf.pw a N) (h1 : n % 2 = 1) :
    PowRel a N (.int .u8 ((Gf.tm o s : Nat) : Int)) (.int .u8 ((Gf.tm s s : Nat) : Int)) (.int .i64 ((n : Int) / 2)) := by
  refine ⟨_, _, n / 2, rfl, rfl, by rw [Int.natCast_ediv]; rfl, Gf.tm_lt ho, Gf.tm_lt hs, by omega, ?_⟩
  rw [← Gf.pw_step_odd ho hs, ← h]
  congr 2
  omega
theorem pow_even {a N o s n : Nat} (ho : o < 256) (hs : s < 256) (hn : n ≤ N) (h : Gf.tm o (Gf.pw s n) = Gf.pw a N) (h1 : ¬ n % 2 = 1) :
    PowRel a N (.int .u8 (o : Int)) (.int .u8 ((Gf.tm s s : Nat) : Int)) (.int .i64 ((n : Int) / 2)) := by
  refine ⟨_, _, n / 2, rfl, rfl, by rw [Int.natCast_ediv]; rfl, ho, Gf.tm_lt hs, by omega, ?_⟩
  rw [← Gf.pw_step_even hs, ← h]
  congr 2
  omega
set_option maxHeartbeats 400000 in
theorem power_any (a N : Nat) (ha : a < 256) (hN : N ≤ 9223372036854775807) (w : World) :
    Calls Try.prog 48 #[.int .u8 a, .int .i64 N] w fun e w' => e = .returned (.int .u8 (Gf.pw a N : Nat)) ∧ w = w' := by
  go_enter Try.func48, Try.ntmps48
  go_wp2
  go_loop [5, 6, 1] (fun o s n => PowRel a N o s n) (fun _ _ n => (intOf n).toNat)
  case atStart => exact ⟨1, a, N, rfl, rfl, rfl, by omega, ha, by omega, Gf.one_tm (Gf.pw_lt ha _)⟩
  case round =>
    obtain ⟨o', s', n', rfl, rfl, rfl, ho, hs, hn, hr⟩ := hrel
    by_cases hz : n' = 0
    · subst hz
      have H := Lib.hid hr
      clear hr
      go_wp2
      go_ret
      exact ⟨ret_int (by rw [← H.out, Gf.pw, Gf.tm_one ho]), rfl⟩
    · have hpos : 0 < n' := by omega
      have hl : bits BinOp.and IntKind.i64 (n' : Int) 1 = ((n' % 2 : Nat) : Int) := by rw [← and1]; exact andi (b := 1) (by omega) (by omega)
      by_cases h1 : n' % 2 = 1
      · have hb : (bits BinOp.and IntKind.i64 (n' : Int) 1 == 1) = true := by rw [hl, h1]; rfl
        have H := Lib.hid (pow_odd ho hs hn hr h1)
        clear hr h1 hz hl
        go_wp2_with (go_at_call 70; refine (times_any _ _ (by omega) (by omega) _).mono ?_; rintro e w' ⟨rfl, rfl⟩)
        go_round
        case rel => exact H.out
        case measure => simp [intOf]; omega
      · have h0 : n' % 2 = 0 := by omega
        have hb : (bits BinOp.and IntKind.i64 (n' : Int) 1 == 1) = false := by rw [hl, h0]; rfl
        have H := Lib.hid (pow_even ho hs hn hr h1)
        clear hr h1 hz hl h0
        go_wp2_with (go_at_call 70; (refine (times_any _ _ hs hs _).mono ?_; rintro e w' ⟨rfl, rfl⟩))
        go_round
        case rel => exact H.out
        case measure => simp [intOf]; omega
set_option maxHeartbeats 400000 in
theorem power_neg (a : Nat) (n : Int) (hn : n < 1) (w : World) :
    Calls Try.prog 48 #[.int .u8 a, .int .i64 n] w fun e w' => e = .returned (.int .u8 1) ∧ w = w' := by
  go_enter Try.func48, Try.ntmps48
  go_wp2
  go_loop [5, 6, 1] (fun o s k => o = .int .u8 1 ∧ s = .int .u8 a ∧ k = .int .i64 n) (fun _ _ _ => 0)
  case atStart => exact ⟨rfl, rfl, rfl⟩
  case round =>
    obtain ⟨rfl, rfl, rfl⟩ := hrel
    go_wp2
    go_ret
    exact ⟨rfl, rfl⟩
set_option maxHeartbeats 400000 in
theorem inv_any (a : Nat) (ha : a < 256) (w : World) :
    Calls Try.prog 32 #[.int .u8 a] w fun e w' => e = .returned (.int .u8 (Gf.inv a : Nat)) ∧ w = w' := by
  go_enter Try.func32, Try.ntmps32
  go_wp2_with (go_at_call 48; refine (power_any a 254 ha (by omega) _).mono ?_; rintro e w' ⟨rfl, rfl⟩)
  go_ret
  exact ⟨rfl, rfl⟩
end Go.Proofs.Ythjpaligpojlnaa
