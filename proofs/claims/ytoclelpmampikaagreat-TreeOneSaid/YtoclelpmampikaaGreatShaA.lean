/-
  The words of 32 bits: what their functions answer, the program's and the document's.
-/
import Derived.Test.YtoclelpmampikaaGreatRows
import Derived.Test.YtoclelpmampikaaGreatBits
import Derived.Test.YtoclelpmampikaaGreatShaMath
import Derived.WalkKit
import Derived.Lib.Hide
namespace Go.Proofs.YtoclelpmampikaaGreat
open Go.RowKit
set_option linter.unusedVariables false
theorem wraps_u32 (n : Int) (h0 : 0 ≤ n) (h1 : n < 2 ^ 32) : IntKind.u32.wrap n = n := IntWalk.u32_in n ⟨h0, by omega⟩
theorem and32 {a b : Nat} (ha : a < 4294967296) (hb : b < 4294967296) : bits .and .u32 a b = ((a &&& b : Nat) : Int) := (bits_cast .u32 32 (by decide) wraps_u32 a b ha hb).1
theorem or32 {a b : Nat} (ha : a < 4294967296) (hb : b < 4294967296) : bits .or .u32 a b = ((a ||| b : Nat) : Int) := (bits_cast .u32 32 (by decide) wraps_u32 a b ha hb).2.1
theorem xor32 {a b : Nat} (ha : a < 4294967296) (hb : b < 4294967296) : bits .xor .u32 a b = ((a ^^^ b : Nat) : Int) := (bits_cast .u32 32 (by decide) wraps_u32 a b ha hb).2.2
theorem nat_u32 {z : Int} (h : (Lit.int .u32 z).wf = true) : ∃ n : Nat, n < 4294967296 ∧ z = (n : Int) := by
  have := bounds_u32 h
  exact ⟨z.toNat, by omega, by omega⟩
theorem rot_eq {x k a b : Nat} (hx : x < 4294967296) (ha : a = 2 ^ k) (hb : b = 2 ^ (32 - k)) :
    bits .or .u32 ((x : Int) / (a : Int)) ((x : Int) * (b : Int) % 4294967296) = ((Sha.rotr x k : Nat) : Int) := by
  have h := or32 (a := x / a) (b := x * b % 4294967296) (Nat.lt_of_le_of_lt (Nat.div_le_self _ _) hx) (Nat.mod_lt _ (by omega))
  unfold Sha.rotr
  rw [← ha, ← hb]
  simp only [Int.natCast_ediv, Int.natCast_emod, Int.natCast_mul] at h
  exact h
theorem rot_eq' {x k a b : Nat} (hx : x < 4294967296) (ha : a = 2 ^ k) (hb : b = 2 ^ (32 - k)) :
    bits .or .u32 ((x : Int) * (b : Int) % 4294967296) ((x : Int) / (a : Int)) = ((Sha.rotr x k : Nat) : Int) := by
  have h := or32 (a := x * b % 4294967296) (b := x / a) (Nat.mod_lt _ (by omega)) (Nat.lt_of_le_of_lt (Nat.div_le_self _ _) hx)
  rw [Nat.or_comm] at h
  unfold Sha.rotr
  rw [← ha, ← hb]
  simp only [Int.natCast_ediv, Int.natCast_emod, Int.natCast_mul] at h
  exact h
set_option maxHeartbeats 400000 in
theorem rotl_2 (x : Nat) (hx : x < 4294967296) (w : World) :
    Calls Tryz.prog 97 #[.int .u32 (x : Int), .int .i64 (-2)] w fun e w' => e = .returned (.int .u32 ((Sha.rotr x 2 : Nat) : Int)) ∧ w = w' := by
  have h : bits .and .u64 (IntKind.u64.wrap (-2)) 31 = 30 := by kernel_rfl
  have H := Lib.hid (rot_eq' (k := 2) (a := 4) (b := 1073741824) hx rfl rfl)
  go_enter Tryz.func97, Tryz.ntmps97
  go_wp2
  go_ret
  exact ⟨ret_int H.out, rfl⟩
set_option maxHeartbeats 400000 in
theorem turned_2 (x : Nat) (hx : x < 4294967296) (w : World) :
    Calls Tryz.prog 94 #[.int .u32 (x : Int), .int .i64 2] w fun e w' => e = .returned (.int .u32 ((Sha.rotr x 2 : Nat) : Int)) ∧ w = w' := by
  go_enter Tryz.func94, Tryz.ntmps94
  go_wp2_with (with_reducible refine (rotl_2 x hx _).mono ?_; rintro e w' ⟨rfl, rfl⟩)
  go_ret
  exact ⟨rfl, rfl⟩
set_option maxHeartbeats 400000 in
theorem rotl_6 (x : Nat) (hx : x < 4294967296) (w : World) :
    Calls Tryz.prog 97 #[.int .u32 (x : Int), .int .i64 (-6)] w fun e w' => e = .returned (.int .u32 ((Sha.rotr x 6 : Nat) : Int)) ∧ w = w' := by
  have h : bits .and .u64 (IntKind.u64.wrap (-6)) 31 = 26 := by kernel_rfl
  have H := Lib.hid (rot_eq' (k := 6) (a := 64) (b := 67108864) hx rfl rfl)
  go_enter Tryz.func97, Tryz.ntmps97
  go_wp2
  go_ret
  exact ⟨ret_int H.out, rfl⟩
set_option maxHeartbeats 400000 in
theorem turned_6 (x : Nat) (hx : x < 4294967296) (w : World) :
    Calls Tryz.prog 94 #[.int .u32 (x : Int), .int .i64 6] w fun e w' => e = .returned (.int .u32 ((Sha.rotr x 6 : Nat) : Int)) ∧ w = w' := by
  go_enter Tryz.func94, Tryz.ntmps94
  go_wp2_with (with_reducible refine (rotl_6 x hx _).mono ?_; rintro e w' ⟨rfl, rfl⟩)
  go_ret
  exact ⟨rfl, rfl⟩
set_option maxHeartbeats 400000 in
theorem rotl_7 (x : Nat) (hx : x < 4294967296) (w : World) :
    Calls Tryz.prog 97 #[.int .u32 (x : Int), .int .i64 (-7)] w fun e w' => e = .returned (.int .u32 ((Sha.rotr x 7 : Nat) : Int)) ∧ w = w' := by
  have h : bits .and .u64 (IntKind.u64.wrap (-7)) 31 = 25 := by kernel_rfl
  have H := Lib.hid (rot_eq' (k := 7) (a := 128) (b := 33554432) hx rfl rfl)
  go_enter Tryz.func97, Tryz.ntmps97
  go_wp2
  go_ret
  exact ⟨ret_int H.out, rfl⟩
set_option maxHeartbeats 400000 in
theorem turned_7 (x : Nat) (hx : x < 4294967296) (w : World) :
    Calls Tryz.prog 94 #[.int .u32 (x : Int), .int .i64 7] w fun e w' => e = .returned (.int .u32 ((Sha.rotr x 7 : Nat) : Int)) ∧ w = w' := by
  go_enter Tryz.func94, Tryz.ntmps94
  go_wp2_with (with_reducible refine (rotl_7 x hx _).mono ?_; rintro e w' ⟨rfl, rfl⟩)
  go_ret
  exact ⟨rfl, rfl⟩
set_option maxHeartbeats 400000 in
theorem rotl_11 (x : Nat) (hx : x < 4294967296) (w : World) :
    Calls Tryz.prog 97 #[.int .u32 (x : Int), .int .i64 (-11)] w fun e w' => e = .returned (.int .u32 ((Sha.rotr x 11 : Nat) : Int)) ∧ w = w' := by
  have h : bits .and .u64 (IntKind.u64.wrap (-11)) 31 = 21 := by kernel_rfl
  have H := Lib.hid (rot_eq' (k := 11) (a := 2048) (b := 2097152) hx rfl rfl)
  go_enter Tryz.func97, Tryz.ntmps97
  go_wp2
  go_ret
  exact ⟨ret_int H.out, rfl⟩
set_option maxHeartbeats 400000 in
theorem turned_11 (x : Nat) (hx : x < 4294967296) (w : World) :
    Calls Tryz.prog 94 #[.int .u32 (x : Int), .int .i64 11] w fun e w' => e = .returned (.int .u32 ((Sha.rotr x 11 : Nat) : Int)) ∧ w = w' := by
  go_enter Tryz.func94, Tryz.ntmps94
  go_wp2_with (with_reducible refine (rotl_11 x hx _).mono ?_; rintro e w' ⟨rfl, rfl⟩)
  go_ret
  exact ⟨rfl, rfl⟩
set_option maxHeartbeats 400000 in
theorem rotl_13 (x : Nat) (hx : x < 4294967296) (w : World) :
    Calls Tryz.prog 97 #[.int .u32 (x : Int), .int .i64 (-13)] w fun e w' => e = .returned (.int .u32 ((Sha.rotr x 13 : Nat) : Int)) ∧ w = w' := by
  have h : bits .and .u64 (IntKind.u64.wrap (-13)) 31 = 19 := by kernel_rfl
  have H := Lib.hid (rot_eq' (k := 13) (a := 8192) (b := 524288) hx rfl rfl)
  go_enter Tryz.func97, Tryz.ntmps97
  go_wp2
  go_ret
  exact ⟨ret_int H.out, rfl⟩
set_option maxHeartbeats 400000 in
theorem turned_13 (x : Nat) (hx : x < 4294967296) (w : World) :
    Calls Tryz.prog 94 #[.int .u32 (x : Int), .int .i64 13] w fun e w' => e = .returned (.int .u32 ((Sha.rotr x 13 : Nat) : Int)) ∧ w = w' := by
  go_enter Tryz.func94, Tryz.ntmps94
  go_wp2_with (with_reducible refine (rotl_13 x hx _).mono ?_; rintro e w' ⟨rfl, rfl⟩)
  go_ret
  exact ⟨rfl, rfl⟩
set_option maxHeartbeats 400000 in
theorem rotl_17 (x : Nat) (hx : x < 4294967296) (w : World) :
    Calls Tryz.prog 97 #[.int .u32 (x : Int), .int .i64 (-17)] w fun e w' => e = .returned (.int .u32 ((Sha.rotr x 17 : Nat) : Int)) ∧ w = w' := by
  have h : bits .and .u64 (IntKind.u64.wrap (-17)) 31 = 15 := by kernel_rfl
  have H := Lib.hid (rot_eq' (k := 17) (a := 131072) (b := 32768) hx rfl rfl)
  go_enter Tryz.func97, Tryz.ntmps97
  go_wp2
  go_ret
  exact ⟨ret_int H.out, rfl⟩
set_option maxHeartbeats 400000 in
theorem turned_17 (x : Nat) (hx : x < 4294967296) (w : World) :
    Calls Tryz.prog 94 #[.int .u32 (x : Int), .int .i64 17] w fun e w' => e = .returned (.int .u32 ((Sha.rotr x 17 : Nat) : Int)) ∧ w = w' := by
  go_enter Tryz.func94, Tryz.ntmps94
  go_wp2_with (with_reducible refine (rotl_17 x hx _).mono ?_; rintro e w' ⟨rfl, rfl⟩)
  go_ret
  exact ⟨rfl, rfl⟩
set_option maxHeartbeats 400000 in
theorem rotl_18 (x : Nat) (hx : x < 4294967296) (w : World) :
    Calls Tryz.prog 97 #[.int .u32 (x : Int), .int .i64 (-18)] w fun e w' => e = .returned (.int .u32 ((Sha.rotr x 18 : Nat) : Int)) ∧ w = w' := by
  have h : bits .and .u64 (IntKind.u64.wrap (-18)) 31 = 14 := by kernel_rfl
  have H := Lib.hid (rot_eq' (k := 18) (a := 262144) (b := 16384) hx rfl rfl)
  go_enter Tryz.func97, Tryz.ntmps97
  go_wp2
  go_ret
  exact ⟨ret_int H.out, rfl⟩
set_option maxHeartbeats 400000 in
theorem turned_18 (x : Nat) (hx : x < 4294967296) (w : World) :
    Calls Tryz.prog 94 #[.int .u32 (x : Int), .int .i64 18] w fun e w' => e = .returned (.int .u32 ((Sha.rotr x 18 : Nat) : Int)) ∧ w = w' := by
  go_enter Tryz.func94, Tryz.ntmps94
  go_wp2_with (with_reducible refine (rotl_18 x hx _).mono ?_; rintro e w' ⟨rfl, rfl⟩)
  go_ret
  exact ⟨rfl, rfl⟩
set_option maxHeartbeats 400000 in
theorem rotl_19 (x : Nat) (hx : x < 4294967296) (w : World) :
    Calls Tryz.prog 97 #[.int .u32 (x : Int), .int .i64 (-19)] w fun e w' => e = .returned (.int .u32 ((Sha.rotr x 19 : Nat) : Int)) ∧ w = w' := by
  have h : bits .and .u64 (IntKind.u64.wrap (-19)) 31 = 13 := by kernel_rfl
  have H := Lib.hid (rot_eq' (k := 19) (a := 524288) (b := 8192) hx rfl rfl)
  go_enter Tryz.func97, Tryz.ntmps97
  go_wp2
  go_ret
  exact ⟨ret_int H.out, rfl⟩
set_option maxHeartbeats 400000 in
theorem turned_19 (x : Nat) (hx : x < 4294967296) (w : World) :
    Calls Tryz.prog 94 #[.int .u32 (x : Int), .int .i64 19] w fun e w' => e = .returned (.int .u32 ((Sha.rotr x 19 : Nat) : Int)) ∧ w = w' := by
  go_enter Tryz.func94, Tryz.ntmps94
  go_wp2_with (with_reducible refine (rotl_19 x hx _).mono ?_; rintro e w' ⟨rfl, rfl⟩)
  go_ret
  exact ⟨rfl, rfl⟩
set_option maxHeartbeats 400000 in
theorem rotl_22 (x : Nat) (hx : x < 4294967296) (w : World) :
    Calls Tryz.prog 97 #[.int .u32 (x : Int), .int .i64 (-22)] w fun e w' => e = .returned (.int .u32 ((Sha.rotr x 22 : Nat) : Int)) ∧ w = w' := by
  have h : bits .and .u64 (IntKind.u64.wrap (-22)) 31 = 10 := by kernel_rfl
  have H := Lib.hid (rot_eq' (k := 22) (a := 4194304) (b := 1024) hx rfl rfl)
  go_enter Tryz.func97, Tryz.ntmps97
  go_wp2
  go_ret
  exact ⟨ret_int H.out, rfl⟩
set_option maxHeartbeats 400000 in
theorem turned_22 (x : Nat) (hx : x < 4294967296) (w : World) :
    Calls Tryz.prog 94 #[.int .u32 (x : Int), .int .i64 22] w fun e w' => e = .returned (.int .u32 ((Sha.rotr x 22 : Nat) : Int)) ∧ w = w' := by
  go_enter Tryz.func94, Tryz.ntmps94
  go_wp2_with (with_reducible refine (rotl_22 x hx _).mono ?_; rintro e w' ⟨rfl, rfl⟩)
  go_ret
  exact ⟨rfl, rfl⟩
set_option maxHeartbeats 400000 in
theorem rotl_25 (x : Nat) (hx : x < 4294967296) (w : World) :
    Calls Tryz.prog 97 #[.int .u32 (x : Int), .int .i64 (-25)] w fun e w' => e = .returned (.int .u32 ((Sha.rotr x 25 : Nat) : Int)) ∧ w = w' := by
  have h : bits .and .u64 (IntKind.u64.wrap (-25)) 31 = 7 := by kernel_rfl
  have H := Lib.hid (rot_eq' (k := 25) (a := 33554432) (b := 128) hx rfl rfl)
  go_enter Tryz.func97, Tryz.ntmps97
  go_wp2
  go_ret
  exact ⟨ret_int H.out, rfl⟩
set_option maxHeartbeats 400000 in
theorem turned_25 (x : Nat) (hx : x < 4294967296) (w : World) :
    Calls Tryz.prog 94 #[.int .u32 (x : Int), .int .i64 25] w fun e w' => e = .returned (.int .u32 ((Sha.rotr x 25 : Nat) : Int)) ∧ w = w' := by
  go_enter Tryz.func94, Tryz.ntmps94
  go_wp2_with (with_reducible refine (rotl_25 x hx _).mono ?_; rintro e w' ⟨rfl, rfl⟩)
  go_ret
  exact ⟨rfl, rfl⟩
theorem s0_eq {x : Nat} (hx : x < 4294967296) : bits .xor .u32 (bits .xor .u32 ((Sha.rotr x 7 : Nat) : Int) ((Sha.rotr x 18 : Nat) : Int)) ((x : Int) / 8) = ((Sha.s0 x : Nat) : Int) := by
  rw [xor32 (Sha.rotr_lt _ hx) (Sha.rotr_lt _ hx)]
  have h := xor32 (Sha.xor_lt (Sha.rotr_lt 7 hx) (Sha.rotr_lt 18 hx)) (b := x / 8) (Nat.lt_of_le_of_lt (Nat.div_le_self _ _) hx)
  simp only [Int.natCast_ediv] at h
  exact h
set_option maxHeartbeats 400000 in
theorem s0_any (x : Nat) (hx : x < 4294967296) (w : World) :
    Calls Tryz.prog 83 #[.int .u32 (x : Int)] w fun e w' => e = .returned (.int .u32 ((Sha.s0 x : Nat) : Int)) ∧ w = w' := by
  have H := Lib.hid (s0_eq hx)
  go_enter Tryz.func83, Tryz.ntmps83
  go_wp2_with (first | ((with_reducible refine (turned_7 x hx _).mono ?_); rintro e w' ⟨rfl, rfl⟩) | ((with_reducible refine (turned_18 x hx _).mono ?_); rintro e w' ⟨rfl, rfl⟩))
  go_ret
  exact ⟨ret_int H.out, rfl⟩
theorem s1_eq {x : Nat} (hx : x < 4294967296) : bits .xor .u32 (bits .xor .u32 ((Sha.rotr x 17 : Nat) : Int) ((Sha.rotr x 19 : Nat) : Int)) ((x : Int) / 1024) = ((Sha.s1 x : Nat) : Int) := by
  rw [xor32 (Sha.rotr_lt _ hx) (Sha.rotr_lt _ hx)]
  have h := xor32 (Sha.xor_lt (Sha.rotr_lt 17 hx) (Sha.rotr_lt 19 hx)) (b := x / 1024) (Nat.lt_of_le_of_lt (Nat.div_le_self _ _) hx)
  simp only [Int.natCast_ediv] at h
  exact h
set_option maxHeartbeats 400000 in
theorem s1_any (x : Nat) (hx : x < 4294967296) (w : World) :
    Calls Tryz.prog 84 #[.int .u32 (x : Int)] w fun e w' => e = .returned (.int .u32 ((Sha.s1 x : Nat) : Int)) ∧ w = w' := by
  have H := Lib.hid (s1_eq hx)
  go_enter Tryz.func84, Tryz.ntmps84
  go_wp2_with (first | ((with_reducible refine (turned_17 x hx _).mono ?_); rintro e w' ⟨rfl, rfl⟩) | ((with_reducible refine (turned_19 x hx _).mono ?_); rintro e w' ⟨rfl, rfl⟩))
  go_ret
  exact ⟨ret_int H.out, rfl⟩
theorem near_eq {x : Nat} (hx : x < 4294967296) : bits .xor .u32 (bits .xor .u32 ((Sha.rotr x 2 : Nat) : Int) ((Sha.rotr x 13 : Nat) : Int)) (((Sha.rotr x 22 : Nat) : Int)) = ((Sha.bS0 x : Nat) : Int) := by
  rw [xor32 (Sha.rotr_lt _ hx) (Sha.rotr_lt _ hx)]
  have h := xor32 (Sha.xor_lt (Sha.rotr_lt 2 hx) (Sha.rotr_lt 13 hx)) (Sha.rotr_lt 22 hx)
  exact h
set_option maxHeartbeats 400000 in
theorem near_any (x : Nat) (hx : x < 4294967296) (w : World) :
    Calls Tryz.prog 86 #[.int .u32 (x : Int)] w fun e w' => e = .returned (.int .u32 ((Sha.bS0 x : Nat) : Int)) ∧ w = w' := by
  have H := Lib.hid (near_eq hx)
  go_enter Tryz.func86, Tryz.ntmps86
  go_wp2_with (first | ((with_reducible refine (turned_2 x hx _).mono ?_); rintro e w' ⟨rfl, rfl⟩) | ((with_reducible refine (turned_13 x hx _).mono ?_); rintro e w' ⟨rfl, rfl⟩) | ((with_reducible refine (turned_22 x hx _).mono ?_); rintro e w' ⟨rfl, rfl⟩))
  go_ret
  exact ⟨ret_int H.out, rfl⟩
theorem far_eq {x : Nat} (hx : x < 4294967296) : bits .xor .u32 (bits .xor .u32 ((Sha.rotr x 6 : Nat) : Int) ((Sha.rotr x 11 : Nat) : Int)) (((Sha.rotr x 25 : Nat) : Int)) = ((Sha.bS1 x : Nat) : Int) := by
  rw [xor32 (Sha.rotr_lt _ hx) (Sha.rotr_lt _ hx)]
  have h := xor32 (Sha.xor_lt (Sha.rotr_lt 6 hx) (Sha.rotr_lt 11 hx)) (Sha.rotr_lt 25 hx)
  exact h
set_option maxHeartbeats 400000 in
theorem far_any (x : Nat) (hx : x < 4294967296) (w : World) :
    Calls Tryz.prog 85 #[.int .u32 (x : Int)] w fun e w' => e = .returned (.int .u32 ((Sha.bS1 x : Nat) : Int)) ∧ w = w' := by
  have H := Lib.hid (far_eq hx)
  go_enter Tryz.func85, Tryz.ntmps85
  go_wp2_with (first | ((with_reducible refine (turned_6 x hx _).mono ?_); rintro e w' ⟨rfl, rfl⟩) | ((with_reducible refine (turned_11 x hx _).mono ?_); rintro e w' ⟨rfl, rfl⟩) | ((with_reducible refine (turned_25 x hx _).mono ?_); rintro e w' ⟨rfl, rfl⟩))
  go_ret
  exact ⟨ret_int H.out, rfl⟩
theorem choose_eq {x y z : Nat} (hx : x < 4294967296) (hy : y < 4294967296) (hz : z < 4294967296) :
    bits .xor .u32 (bits .and .u32 x y) (bits .and .u32 (bits .xor .u32 IntKind.u32.max x) z) = ((Sha.ch x y z : Nat) : Int) := by
  have e : IntKind.u32.max = ((4294967295 : Nat) : Int) := rfl
  have h1 : (4294967295 ^^^ x) < 4294967296 := Sha.xor_lt (by omega) hx
  rw [e, xor32 (by omega) hx, and32 hx hy, and32 h1 hz]
  exact xor32 (Sha.and_lt _ hx) (Sha.and_lt _ h1)
set_option maxHeartbeats 400000 in
theorem choose_any (x y z : Nat) (hx : x < 4294967296) (hy : y < 4294967296) (hz : z < 4294967296) (w : World) :
    Calls Tryz.prog 87 #[.int .u32 (x : Int), .int .u32 (y : Int), .int .u32 (z : Int)] w fun e w' => e = .returned (.int .u32 ((Sha.ch x y z : Nat) : Int)) ∧ w = w' := by
  have H := Lib.hid (choose_eq hx hy hz)
  have hs : ¬ IntKind.u32.signed = true := by decide
  go_enter Tryz.func87, Tryz.ntmps87
  go_wp2
  go_ret
  exact ⟨ret_int H.out, rfl⟩
theorem most_eq {x y z : Nat} (hx : x < 4294967296) (hy : y < 4294967296) (hz : z < 4294967296) :
    bits .xor .u32 (bits .xor .u32 (bits .and .u32 x y) (bits .and .u32 x z)) (bits .and .u32 y z) = ((Sha.maj x y z : Nat) : Int) := by
  rw [and32 hx hy, and32 hx hz, and32 hy hz, xor32 (Sha.and_lt _ hx) (Sha.and_lt _ hx)]
  exact xor32 (Sha.xor_lt (Sha.and_lt _ hx) (Sha.and_lt _ hx)) (Sha.and_lt _ hy)
set_option maxHeartbeats 400000 in
theorem most_any (x y z : Nat) (hx : x < 4294967296) (hy : y < 4294967296) (hz : z < 4294967296) (w : World) :
    Calls Tryz.prog 88 #[.int .u32 (x : Int), .int .u32 (y : Int), .int .u32 (z : Int)] w fun e w' => e = .returned (.int .u32 ((Sha.maj x y z : Nat) : Int)) ∧ w = w' := by
  have H := Lib.hid (most_eq hx hy hz)
  go_enter Tryz.func88, Tryz.ntmps88
  go_wp2
  go_ret
  exact ⟨ret_int H.out, rfl⟩
end Go.Proofs.YtoclelpmampikaaGreat
