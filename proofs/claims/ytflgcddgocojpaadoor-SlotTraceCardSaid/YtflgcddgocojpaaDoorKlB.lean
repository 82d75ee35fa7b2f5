/-
  Sizes (class): Of, Pages, Place; the example.
-/
import Derived.Test.YtflgcddgocojpaaDoorKlA
namespace Go.Proofs.YtflgcddgocojpaaDoor
open Go.RowKit Go
set_option linter.unusedVariables false
set_option linter.unusedSimpArgs false
def szN (k : Nat) : Nat := [8, 16, 24, 32, 48, 64, 96, 120].getD k 0
theorem szN_at (k : Nat) (h : k < 8) : szV[k]? = some (.int .i64 ((szN k : Nat) : Int)) := by
  rcases (by omega : k = 0 ∨ k = 1 ∨ k = 2 ∨ k = 3 ∨ k = 4 ∨ k = 5 ∨ k = 6 ∨ k = 7) with rfl | rfl | rfl | rfl | rfl | rfl | rfl | rfl <;> rfl
theorem szN_le (k : Nat) (h : k < 8) : 8 ≤ szN k ∧ szN k ≤ 120 := by
  rcases (by omega : k = 0 ∨ k = 1 ∨ k = 2 ∨ k = 3 ∨ k = 4 ∨ k = 5 ∨ k = 6 ∨ k = 7) with rfl | rfl | rfl | rfl | rfl | rfl | rfl | rfl <;> decide
theorem rsize_n (k : Nat) (h : k < 8) : GK 20 #[.int .i64 (k : Int)] (.int .i64 ((szN k : Nat) : Int)) := by
  rcases (by omega : k = 0 ∨ k = 1 ∨ k = 2 ∨ k = 3 ∨ k = 4 ∨ k = 5 ∨ k = 6 ∨ k = 7) with rfl | rfl | rfl | rfl | rfl | rfl | rfl | rfl
  · exact rsize_0
  · exact rsize_1
  · exact rsize_2
  · exact rsize_3
  · exact rsize_4
  · exact rsize_5
  · exact rsize_6
  · exact rsize_7
/-- n is of class i -/
structure InCl (n : Int) (i : Nat) : Prop where
  lt : i < 8
  one : 1 ≤ n
  lo : ∀ k, k < i → ((szN k : Nat) : Int) < n
  hi : n ≤ ((szN i : Nat) : Int)
theorem InCl.ex (n : Int) (h1 : 1 ≤ n) (h2 : n ≤ 120) : ∃ i, InCl n i := by
  rcases (by omega : n ≤ 8 ∨ (8 < n ∧ n ≤ 16) ∨ (16 < n ∧ n ≤ 24) ∨ (24 < n ∧ n ≤ 32) ∨ (32 < n ∧ n ≤ 48) ∨ (48 < n ∧ n ≤ 64) ∨ (64 < n ∧ n ≤ 96) ∨ (96 < n ∧ n ≤ 120)) with h | h | h | h | h | h | h | h
  · exact ⟨0, by omega, h1, fun k hk => absurd hk (Nat.not_lt_zero k), by show n ≤ ((8 : Nat) : Int); omega⟩
  · exact ⟨1, by omega, h1, fun k hk => by
      rcases (by omega : k = 0) with rfl
      · show ((8 : Nat) : Int) < n; omega, by show n ≤ ((16 : Nat) : Int); omega⟩
  · exact ⟨2, by omega, h1, fun k hk => by
      rcases (by omega : k = 0 ∨ k = 1) with rfl | rfl
      · show ((8 : Nat) : Int) < n; omega
      · show ((16 : Nat) : Int) < n; omega, by show n ≤ ((24 : Nat) : Int); omega⟩
  · exact ⟨3, by omega, h1, fun k hk => by
      rcases (by omega : k = 0 ∨ k = 1 ∨ k = 2) with rfl | rfl | rfl
      · show ((8 : Nat) : Int) < n; omega
      · show ((16 : Nat) : Int) < n; omega
      · show ((24 : Nat) : Int) < n; omega, by show n ≤ ((32 : Nat) : Int); omega⟩
  · exact ⟨4, by omega, h1, fun k hk => by
      rcases (by omega : k = 0 ∨ k = 1 ∨ k = 2 ∨ k = 3) with rfl | rfl | rfl | rfl
      · show ((8 : Nat) : Int) < n; omega
      · show ((16 : Nat) : Int) < n; omega
      · show ((24 : Nat) : Int) < n; omega
      · show ((32 : Nat) : Int) < n; omega, by show n ≤ ((48 : Nat) : Int); omega⟩
  · exact ⟨5, by omega, h1, fun k hk => by
      rcases (by omega : k = 0 ∨ k = 1 ∨ k = 2 ∨ k = 3 ∨ k = 4) with rfl | rfl | rfl | rfl | rfl
      · show ((8 : Nat) : Int) < n; omega
      · show ((16 : Nat) : Int) < n; omega
      · show ((24 : Nat) : Int) < n; omega
      · show ((32 : Nat) : Int) < n; omega
      · show ((48 : Nat) : Int) < n; omega, by show n ≤ ((64 : Nat) : Int); omega⟩
  · exact ⟨6, by omega, h1, fun k hk => by
      rcases (by omega : k = 0 ∨ k = 1 ∨ k = 2 ∨ k = 3 ∨ k = 4 ∨ k = 5) with rfl | rfl | rfl | rfl | rfl | rfl
      · show ((8 : Nat) : Int) < n; omega
      · show ((16 : Nat) : Int) < n; omega
      · show ((24 : Nat) : Int) < n; omega
      · show ((32 : Nat) : Int) < n; omega
      · show ((48 : Nat) : Int) < n; omega
      · show ((64 : Nat) : Int) < n; omega, by show n ≤ ((96 : Nat) : Int); omega⟩
  · exact ⟨7, by omega, h1, fun k hk => by
      rcases (by omega : k = 0 ∨ k = 1 ∨ k = 2 ∨ k = 3 ∨ k = 4 ∨ k = 5 ∨ k = 6) with rfl | rfl | rfl | rfl | rfl | rfl | rfl
      · show ((8 : Nat) : Int) < n; omega
      · show ((16 : Nat) : Int) < n; omega
      · show ((24 : Nat) : Int) < n; omega
      · show ((32 : Nat) : Int) < n; omega
      · show ((48 : Nat) : Int) < n; omega
      · show ((64 : Nat) : Int) < n; omega
      · show ((96 : Nat) : Int) < n; omega, by show n ≤ ((120 : Nat) : Int); omega⟩

/-! pages -/
theorem tup2 {a b : Int} {o : Bool} (h : a = b) : Ending.returned (.tuple #[.int .i64 a, .bool o]) = .returned (.tuple #[.int .i64 b, .bool o]) := by rw [h]
/-! places -/
theorem place_low (c k : Int) (h : k < 0) : GK 44 #[.int .i64 c, .int .i64 k] (.tuple #[.int .i64 0, .int .i64 0, .bool false]) := by
  intro w hS
  clear hS
  go_enter Tryd.func44, Tryd.ntmps44
  go_wp2
  go_ret3
  exact ⟨rfl, rfl⟩
theorem place_high (c k n : Int) (h0 : 0 ≤ k) (h : n ≤ k) (HN : GK 26 #[.int .i64 c] (.int .i64 n)) : GK 44 #[.int .i64 c, .int .i64 k] (.tuple #[.int .i64 0, .int .i64 0, .bool false]) := by
  intro w hS
  have h1 : ¬ k < 0 := by omega
  have GN := Lib.hid HN
  clear HN
  go_enter Tryd.func44, Tryd.ntmps44
  go_wp2_with fail
  refine (GN.out _ hS).mono ?_
  rintro e w' ⟨rfl, rfl⟩
  go_wp2
  go_ret3
  exact ⟨rfl, rfl⟩
theorem place_0 (k : Int) (h0 : 0 ≤ k) (h : k < 16) : GK 44 #[.int .i64 0, .int .i64 k] (.tuple #[.int .i64 (k * 16), .int .i64 16, .bool true]) := by
  intro w hS
  have h1 : ¬ k < 0 := by omega
  have h2 : ¬ 16 ≤ k := by omega
  go_enter Tryd.func44, Tryd.ntmps44
  go_wp2_with fail
  refine (slots_0 _ hS).mono ?_
  rintro e w' ⟨rfl, rfl⟩
  go_wp2_with fail
  refine (wide_0 _ hS).mono ?_
  rintro e w' ⟨rfl, rfl⟩
  go_wp2_with fail
  refine (wide_0 _ hS).mono ?_
  rintro e w' ⟨rfl, rfl⟩
  go_wp2
  go_ret3
  exact ⟨rfl, rfl⟩
theorem place_1 (k : Int) (h0 : 0 ≤ k) (h : k < 10) : GK 44 #[.int .i64 1, .int .i64 k] (.tuple #[.int .i64 (k * 24), .int .i64 24, .bool true]) := by
  intro w hS
  have h1 : ¬ k < 0 := by omega
  have h2 : ¬ 10 ≤ k := by omega
  go_enter Tryd.func44, Tryd.ntmps44
  go_wp2_with fail
  refine (slots_1 _ hS).mono ?_
  rintro e w' ⟨rfl, rfl⟩
  go_wp2_with fail
  refine (wide_1 _ hS).mono ?_
  rintro e w' ⟨rfl, rfl⟩
  go_wp2_with fail
  refine (wide_1 _ hS).mono ?_
  rintro e w' ⟨rfl, rfl⟩
  go_wp2
  go_ret3
  exact ⟨rfl, rfl⟩
theorem place_2 (k : Int) (h0 : 0 ≤ k) (h : k < 8) : GK 44 #[.int .i64 2, .int .i64 k] (.tuple #[.int .i64 (k * 32), .int .i64 32, .bool true]) := by
  intro w hS
  have h1 : ¬ k < 0 := by omega
  have h2 : ¬ 8 ≤ k := by omega
  go_enter Tryd.func44, Tryd.ntmps44
  go_wp2_with fail
  refine (slots_2 _ hS).mono ?_
  rintro e w' ⟨rfl, rfl⟩
  go_wp2_with fail
  refine (wide_2 _ hS).mono ?_
  rintro e w' ⟨rfl, rfl⟩
  go_wp2_with fail
  refine (wide_2 _ hS).mono ?_
  rintro e w' ⟨rfl, rfl⟩
  go_wp2
  go_ret3
  exact ⟨rfl, rfl⟩
theorem place_3 (k : Int) (h0 : 0 ≤ k) (h : k < 6) : GK 44 #[.int .i64 3, .int .i64 k] (.tuple #[.int .i64 (k * 40), .int .i64 40, .bool true]) := by
  intro w hS
  have h1 : ¬ k < 0 := by omega
  have h2 : ¬ 6 ≤ k := by omega
  go_enter Tryd.func44, Tryd.ntmps44
  go_wp2_with fail
  refine (slots_3 _ hS).mono ?_
  rintro e w' ⟨rfl, rfl⟩
  go_wp2_with fail
  refine (wide_3 _ hS).mono ?_
  rintro e w' ⟨rfl, rfl⟩
  go_wp2_with fail
  refine (wide_3 _ hS).mono ?_
  rintro e w' ⟨rfl, rfl⟩
  go_wp2
  go_ret3
  exact ⟨rfl, rfl⟩
theorem place_4 (k : Int) (h0 : 0 ≤ k) (h : k < 4) : GK 44 #[.int .i64 4, .int .i64 k] (.tuple #[.int .i64 (k * 56), .int .i64 56, .bool true]) := by
  intro w hS
  have h1 : ¬ k < 0 := by omega
  have h2 : ¬ 4 ≤ k := by omega
  go_enter Tryd.func44, Tryd.ntmps44
  go_wp2_with fail
  refine (slots_4 _ hS).mono ?_
  rintro e w' ⟨rfl, rfl⟩
  go_wp2_with fail
  refine (wide_4 _ hS).mono ?_
  rintro e w' ⟨rfl, rfl⟩
  go_wp2_with fail
  refine (wide_4 _ hS).mono ?_
  rintro e w' ⟨rfl, rfl⟩
  go_wp2
  go_ret3
  exact ⟨rfl, rfl⟩
theorem place_5 (k : Int) (h0 : 0 ≤ k) (h : k < 3) : GK 44 #[.int .i64 5, .int .i64 k] (.tuple #[.int .i64 (k * 72), .int .i64 72, .bool true]) := by
  intro w hS
  have h1 : ¬ k < 0 := by omega
  have h2 : ¬ 3 ≤ k := by omega
  go_enter Tryd.func44, Tryd.ntmps44
  go_wp2_with fail
  refine (slots_5 _ hS).mono ?_
  rintro e w' ⟨rfl, rfl⟩
  go_wp2_with fail
  refine (wide_5 _ hS).mono ?_
  rintro e w' ⟨rfl, rfl⟩
  go_wp2_with fail
  refine (wide_5 _ hS).mono ?_
  rintro e w' ⟨rfl, rfl⟩
  go_wp2
  go_ret3
  exact ⟨rfl, rfl⟩
theorem place_6 (k : Int) (h0 : 0 ≤ k) (h : k < 2) : GK 44 #[.int .i64 6, .int .i64 k] (.tuple #[.int .i64 (k * 104), .int .i64 104, .bool true]) := by
  intro w hS
  have h1 : ¬ k < 0 := by omega
  have h2 : ¬ 2 ≤ k := by omega
  go_enter Tryd.func44, Tryd.ntmps44
  go_wp2_with fail
  refine (slots_6 _ hS).mono ?_
  rintro e w' ⟨rfl, rfl⟩
  go_wp2_with fail
  refine (wide_6 _ hS).mono ?_
  rintro e w' ⟨rfl, rfl⟩
  go_wp2_with fail
  refine (wide_6 _ hS).mono ?_
  rintro e w' ⟨rfl, rfl⟩
  go_wp2
  go_ret3
  exact ⟨rfl, rfl⟩
theorem place_7 (k : Int) (h0 : 0 ≤ k) (h : k < 2) : GK 44 #[.int .i64 7, .int .i64 k] (.tuple #[.int .i64 (k * 128), .int .i64 128, .bool true]) := by
  intro w hS
  have h1 : ¬ k < 0 := by omega
  have h2 : ¬ 2 ≤ k := by omega
  go_enter Tryd.func44, Tryd.ntmps44
  go_wp2_with fail
  refine (slots_7 _ hS).mono ?_
  rintro e w' ⟨rfl, rfl⟩
  go_wp2_with fail
  refine (wide_7 _ hS).mono ?_
  rintro e w' ⟨rfl, rfl⟩
  go_wp2_with fail
  refine (wide_7 _ hS).mono ?_
  rintro e w' ⟨rfl, rfl⟩
  go_wp2
  go_ret3
  exact ⟨rfl, rfl⟩
end Go.Proofs.YtflgcddgocojpaaDoor
