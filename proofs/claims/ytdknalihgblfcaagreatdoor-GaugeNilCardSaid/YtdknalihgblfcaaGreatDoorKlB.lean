/-
  Sizes (class): Of, Pages, Place; the example.
-/
import Derived.Test.YtdknalihgblfcaaGreatDoorKlA
namespace Go.Proofs.YtdknalihgblfcaaGreatDoor
open Go.RowKit Go
set_option linter.unusedVariables false
set_option linter.unusedSimpArgs false
def szN (k : Nat) : Nat := [8, 16, 24, 32, 48, 64, 96, 120].getD k 0
theorem szN_at (k : Nat) (h : k < 8) : szV[k]? = some (.int .i64 ((szN k : Nat) : Int)) := by
  rcases (by omega : k = 0 ∨ k = 1 ∨ k = 2 ∨ k = 3 ∨ k = 4 ∨ k = 5 ∨ k = 6 ∨ k = 7) with rfl | rfl | rfl | rfl | rfl | rfl | rfl | rfl <;> rfl
theorem szN_le (k : Nat) (h : k < 8) : 8 ≤ szN k ∧ szN k ≤ 120 := by
  rcases (by omega : k = 0 ∨ k = 1 ∨ k = 2 ∨ k = 3 ∨ k = 4 ∨ k = 5 ∨ k = 6 ∨ k = 7) with rfl | rfl | rfl | rfl | rfl | rfl | rfl | rfl <;> decide
/-- n is of class i -/
structure InCl (n : Int) (i : Nat) : Prop where
  lt : i < 8
  one : 1 ≤ n
  lo : ∀ k, k < i → ((szN k : Nat) : Int) < n
  hi : n ≤ ((szN i : Nat) : Int)
theorem InCl.ex (n : Int) (h1 : 1 ≤ n) (h2 : n ≤ 120) : ∃ i, InCl n i := by
  rcases (by omega : n ≤ 8 ∨ (8 < n ∧ n ≤ 16) ∨ (16 < n ∧ n ≤ 24) ∨ (24 < n ∧ n ≤ 32) ∨ (32 < n ∧ n ≤ 48) ∨ (48 < n ∧ n ≤ 64) ∨ (64 < n ∧ n ≤ 96) ∨ (96 < n ∧ n ≤ 120)) with h | h | h | h | h | h | h | h
  · exact ⟨0, by omega, h1, fun k hk => absurd hk (Nat.not_lt_zero k), by show n ≤ ((8 : Nat) : Int); omega⟩
  · exact ⟨1, by omega, h1, fun k hk => by
      rcases (by omega : k = 0) with rfl
      · show ((8 : Nat) : Int) < n; omega, by show n ≤ ((16 : Nat) : Int); omega⟩
  · exact ⟨2, by omega, h1, fun k hk => by
      rcases (by omega : k = 0 ∨ k = 1) with rfl | rfl
      · show ((8 : Nat) : Int) < n; omega
      · show ((16 : Nat) : Int) < n; omega, by show n ≤ ((24 : Nat) : Int); omega⟩
  · exact ⟨3, by omega, h1, fun k hk => by
      rcases (by omega : k = 0 ∨ k = 1 ∨ k = 2) with rfl | rfl | rfl
      · show ((8 : Nat) : Int) < n; omega
      · show ((16 : Nat) : Int) < n; omega
      · show ((24 : Nat) : Int) < n; omega, by show n ≤ ((32 : Nat) : Int); omega⟩
  · exact ⟨4, by omega, h1, fun k hk => by
      rcases (by omega : k = 0 ∨ k = 1 ∨ k = 2 ∨ k = 3) with rfl | rfl | rfl | rfl
      · show ((8 : Nat) : Int) < n; omega
      · show ((16 : Nat) : Int) < n; omega
      · show ((24 : Nat) : Int) < n; omega
      · show ((32 : Nat) : Int) < n; omega, by show n ≤ ((48 : Nat) : Int); omega⟩
  · exact ⟨5, by omega, h1, fun k hk => by
      rcases (by omega : k = 0 ∨ k = 1 ∨ k = 2 ∨ k = 3 ∨ k = 4) with rfl | rfl | rfl | rfl | rfl
      · show ((8 : Nat) : Int) < n; omega
      · show ((16 : Nat) : Int) < n; omega
      · show ((24 : Nat) : Int) < n; omega
      · show ((32 : Nat) : Int) < n; omega
      · show ((48 : Nat) : Int) < n; omega, by show n ≤ ((64 : Nat) : Int); omega⟩
  · exact ⟨6, by omega, h1, fun k hk => by
      rcases (by omega : k = 0 ∨ k = 1 ∨ k = 2 ∨ k = 3 ∨ k = 4 ∨ k = 5) with rfl | rfl | rfl | rfl | rfl | rfl
      · show ((8 : Nat) : Int) < n; omega
      · show ((16 : Nat) : Int) < n; omega
      · show ((24 : Nat) : Int) < n; omega
      · show ((32 : Nat) : Int) < n; omega
      · show ((48 : Nat) : Int) < n; omega
      · show ((64 : Nat) : Int) < n; omega, by show n ≤ ((96 : Nat) : Int); omega⟩
  · exact ⟨7, by omega, h1, fun k hk => by
      rcases (by omega : k = 0 ∨ k = 1 ∨ k = 2 ∨ k = 3 ∨ k = 4 ∨ k = 5 ∨ k = 6) with rfl | rfl | rfl | rfl | rfl | rfl | rfl
      · show ((8 : Nat) : Int) < n; omega
      · show ((16 : Nat) : Int) < n; omega
      · show ((24 : Nat) : Int) < n; omega
      · show ((32 : Nat) : Int) < n; omega
      · show ((48 : Nat) : Int) < n; omega
      · show ((64 : Nat) : Int) < n; omega
      · show ((96 : Nat) : Int) < n; omega, by show n ≤ ((120 : Nat) : Int); omega⟩

set_option maxHeartbeats 1000000 in
theorem of_in (n : Int) (i : Nat) (h : InCl n i) : GK 16 #[.int .i64 n] (.tuple #[.int .i64 (i : Int), .bool true]) := by
  intro w hS
  obtain ⟨c0, c1, c2, c3, c4, c5, c6, c7⟩ := hS.cells
  have hidx : ∀ k : Nat, k < 8 → ∀ w, (Instr.index 22 (.agg #[.int .i64 8, .int .i64 16, .int .i64 24, .int .i64 32, .int .i64 48, .int .i64 64, .int .i64 96, .int .i64 120]) (.int .i64 (k : Int))).run Tryz.prog w = .ok (.int .i64 ((szN k : Nat) : Int)) w := fun k hk w => run_index_arr 22 3 8 szV k _ w Tryz.underlying22 (by kernel_rfl) (by kernel_rfl) (by kernel_rfl) hk (szN_at k hk)
  have HIX := Lib.hid hidx
  clear hS hidx
  have HI := Lib.hid h
  have h1 : ¬ n < 1 := by have := h.one; omega
  have hi8 : i < 8 := h.lt
  clear h
  go_enter Tryz.func16, Tryz.ntmps16
  go_wp2
  clear c0 c1 c2 c3 c4 c5 c6 c7
  go_loopw [9] (fun v9 wr => (∃ k : Nat, v9 = .int .i64 (k : Int) ∧ k ≤ i) ∧ w = wr) (fun v _ => (i - intOf v).toNat)
  case atStart => exact ⟨⟨0, rfl, Nat.zero_le _⟩, rfl⟩
  case round =>
    obtain ⟨⟨k, rfl, hk⟩, rfl⟩ := hrel
    have hidx := HIX.out k (by omega)
    have hk8 : (k : Int) < 8 := by omega
    by_cases hlt : k < i
    · have hc : ¬ n ≤ ((szN k : Nat) : Int) := by have := HI.out.lo k hlt; omega
      generalize szN k = sk at *
      go_wp2
      go_roundw
      case rel => exact ⟨⟨k + 1, rfl, by omega⟩, by trivial⟩
      case measure => simp [intOf]; omega
    · obtain rfl : k = i := by omega
      have hc := HI.out.hi
      generalize szN k = sk at *
      go_wp2
      go_ret2
      exact ⟨rfl, rfl⟩
set_option maxHeartbeats 1000000 in
theorem of_high (n : Int) (h : 120 < n) : GK 16 #[.int .i64 n] (.tuple #[.int .i64 0, .bool false]) := by
  intro w hS
  obtain ⟨c0, c1, c2, c3, c4, c5, c6, c7⟩ := hS.cells
  have hidx : ∀ k : Nat, k < 8 → ∀ w, (Instr.index 22 (.agg #[.int .i64 8, .int .i64 16, .int .i64 24, .int .i64 32, .int .i64 48, .int .i64 64, .int .i64 96, .int .i64 120]) (.int .i64 (k : Int))).run Tryz.prog w = .ok (.int .i64 ((szN k : Nat) : Int)) w := fun k hk w => run_index_arr 22 3 8 szV k _ w Tryz.underlying22 (by kernel_rfl) (by kernel_rfl) (by kernel_rfl) hk (szN_at k hk)
  have HIX := Lib.hid hidx
  clear hS hidx
  have h1 : ¬ n < 1 := by omega
  go_enter Tryz.func16, Tryz.ntmps16
  go_wp2
  clear c0 c1 c2 c3 c4 c5 c6 c7
  go_loopw [9] (fun v9 wr => (∃ k : Nat, v9 = .int .i64 (k : Int) ∧ k ≤ 8) ∧ w = wr) (fun v _ => (8 - intOf v).toNat)
  case atStart => exact ⟨⟨0, rfl, Nat.zero_le _⟩, rfl⟩
  case round =>
    obtain ⟨⟨k, rfl, hk⟩, rfl⟩ := hrel
    by_cases hlt : k < 8
    · have hidx := HIX.out k hlt
      have hk8 : (k : Int) < 8 := by omega
      have hc : ¬ n ≤ ((szN k : Nat) : Int) := by have := (szN_le k hlt).2; omega
      generalize szN k = sk at *
      go_wp2
      go_roundw
      case rel => exact ⟨⟨k + 1, rfl, by omega⟩, by trivial⟩
      case measure => simp [intOf]; omega
    · obtain rfl : k = 8 := by omega
      go_wp2
      go_ret2
      exact ⟨rfl, rfl⟩
theorem of_low (n : Int) (h : n < 1) : GK 16 #[.int .i64 n] (.tuple #[.int .i64 0, .bool false]) := by
  intro w hS
  clear hS
  go_enter Tryz.func16, Tryz.ntmps16
  go_wp2
  go_ret2
  exact ⟨rfl, rfl⟩
/-! pages -/
theorem pages_out (n : Int) (h : n ≤ 120 ∨ 4096 < n) : GK 17 #[.int .i64 n] (.tuple #[.int .i64 0, .bool false]) := by
  intro w hS
  rcases h with h | h
  · go_enter Tryz.func17, Tryz.ntmps17
    go_wp2_with fail
    refine (size_7 _ hS).mono ?_
    rintro e w' ⟨rfl, rfl⟩
    go_wp2
    go_ret2
    exact ⟨rfl, rfl⟩
  · have h1 : ¬ n ≤ 120 := by omega
    go_enter Tryz.func17, Tryz.ntmps17
    go_wp2_with fail
    refine (size_7 _ hS).mono ?_
    rintro e w' ⟨rfl, rfl⟩
    go_wp2
    go_ret2
    exact ⟨rfl, rfl⟩
theorem tup2 {a b : Int} {o : Bool} (h : a = b) : Ending.returned (.tuple #[.int .i64 a, .bool o]) = .returned (.tuple #[.int .i64 b, .bool o]) := by rw [h]
theorem pages_in (n q : Nat) (h1 : 121 ≤ n) (h2 : n ≤ 4096) (hq : q = (n + 255) / 256) : GK 17 #[.int .i64 (n : Int)] (.tuple #[.int .i64 (q : Int), .bool true]) := by
  intro w hS
  have HQ := Lib.hid hq
  have h3 : ¬ (n : Int) ≤ 120 := by omega
  have h4 : ¬ 4096 < (n : Int) := by omega
  clear hq
  go_enter Tryz.func17, Tryz.ntmps17
  go_wp2_with fail
  refine (size_7 _ hS).mono ?_
  rintro e w' ⟨rfl, rfl⟩
  go_wp2
  go_ret2
  refine ⟨tup2 ?_, rfl⟩
  have := HQ.out
  omega
/-! places -/
theorem place_low (c k : Int) (h : k < 0) : GK 81 #[.int .i64 c, .int .i64 k] (.tuple #[.int .i64 0, .int .i64 0, .bool false]) := by
  intro w hS
  clear hS
  go_enter Tryz.func81, Tryz.ntmps81
  go_wp2
  go_ret3
  exact ⟨rfl, rfl⟩
theorem place_high (c k n : Int) (h0 : 0 ≤ k) (h : n ≤ k) (HN : GK 15 #[.int .i64 c] (.int .i64 n)) : GK 81 #[.int .i64 c, .int .i64 k] (.tuple #[.int .i64 0, .int .i64 0, .bool false]) := by
  intro w hS
  have h1 : ¬ k < 0 := by omega
  have GN := Lib.hid HN
  clear HN
  go_enter Tryz.func81, Tryz.ntmps81
  go_wp2_with fail
  refine (GN.out _ hS).mono ?_
  rintro e w' ⟨rfl, rfl⟩
  go_wp2
  go_ret3
  exact ⟨rfl, rfl⟩
theorem place_0 (k : Int) (h0 : 0 ≤ k) (h : k < 16) : GK 81 #[.int .i64 0, .int .i64 k] (.tuple #[.int .i64 (k * 16), .int .i64 16, .bool true]) := by
  intro w hS
  have h1 : ¬ k < 0 := by omega
  have h2 : ¬ 16 ≤ k := by omega
  go_enter Tryz.func81, Tryz.ntmps81
  go_wp2_with fail
  refine (slots_0 _ hS).mono ?_
  rintro e w' ⟨rfl, rfl⟩
  go_wp2_with fail
  refine (wide_0 _ hS).mono ?_
  rintro e w' ⟨rfl, rfl⟩
  go_wp2_with fail
  refine (wide_0 _ hS).mono ?_
  rintro e w' ⟨rfl, rfl⟩
  go_wp2
  go_ret3
  exact ⟨rfl, rfl⟩
theorem place_1 (k : Int) (h0 : 0 ≤ k) (h : k < 10) : GK 81 #[.int .i64 1, .int .i64 k] (.tuple #[.int .i64 (k * 24), .int .i64 24, .bool true]) := by
  intro w hS
  have h1 : ¬ k < 0 := by omega
  have h2 : ¬ 10 ≤ k := by omega
  go_enter Tryz.func81, Tryz.ntmps81
  go_wp2_with fail
  refine (slots_1 _ hS).mono ?_
  rintro e w' ⟨rfl, rfl⟩
  go_wp2_with fail
  refine (wide_1 _ hS).mono ?_
  rintro e w' ⟨rfl, rfl⟩
  go_wp2_with fail
  refine (wide_1 _ hS).mono ?_
  rintro e w' ⟨rfl, rfl⟩
  go_wp2
  go_ret3
  exact ⟨rfl, rfl⟩
theorem place_2 (k : Int) (h0 : 0 ≤ k) (h : k < 8) : GK 81 #[.int .i64 2, .int .i64 k] (.tuple #[.int .i64 (k * 32), .int .i64 32, .bool true]) := by
  intro w hS
  have h1 : ¬ k < 0 := by omega
  have h2 : ¬ 8 ≤ k := by omega
  go_enter Tryz.func81, Tryz.ntmps81
  go_wp2_with fail
  refine (slots_2 _ hS).mono ?_
  rintro e w' ⟨rfl, rfl⟩
  go_wp2_with fail
  refine (wide_2 _ hS).mono ?_
  rintro e w' ⟨rfl, rfl⟩
  go_wp2_with fail
  refine (wide_2 _ hS).mono ?_
  rintro e w' ⟨rfl, rfl⟩
  go_wp2
  go_ret3
  exact ⟨rfl, rfl⟩
theorem place_3 (k : Int) (h0 : 0 ≤ k) (h : k < 6) : GK 81 #[.int .i64 3, .int .i64 k] (.tuple #[.int .i64 (k * 40), .int .i64 40, .bool true]) := by
  intro w hS
  have h1 : ¬ k < 0 := by omega
  have h2 : ¬ 6 ≤ k := by omega
  go_enter Tryz.func81, Tryz.ntmps81
  go_wp2_with fail
  refine (slots_3 _ hS).mono ?_
  rintro e w' ⟨rfl, rfl⟩
  go_wp2_with fail
  refine (wide_3 _ hS).mono ?_
  rintro e w' ⟨rfl, rfl⟩
  go_wp2_with fail
  refine (wide_3 _ hS).mono ?_
  rintro e w' ⟨rfl, rfl⟩
  go_wp2
  go_ret3
  exact ⟨rfl, rfl⟩
theorem place_4 (k : Int) (h0 : 0 ≤ k) (h : k < 4) : GK 81 #[.int .i64 4, .int .i64 k] (.tuple #[.int .i64 (k * 56), .int .i64 56, .bool true]) := by
  intro w hS
  have h1 : ¬ k < 0 := by omega
  have h2 : ¬ 4 ≤ k := by omega
  go_enter Tryz.func81, Tryz.ntmps81
  go_wp2_with fail
  refine (slots_4 _ hS).mono ?_
  rintro e w' ⟨rfl, rfl⟩
  go_wp2_with fail
  refine (wide_4 _ hS).mono ?_
  rintro e w' ⟨rfl, rfl⟩
  go_wp2_with fail
  refine (wide_4 _ hS).mono ?_
  rintro e w' ⟨rfl, rfl⟩
  go_wp2
  go_ret3
  exact ⟨rfl, rfl⟩
theorem place_5 (k : Int) (h0 : 0 ≤ k) (h : k < 3) : GK 81 #[.int .i64 5, .int .i64 k] (.tuple #[.int .i64 (k * 72), .int .i64 72, .bool true]) := by
  intro w hS
  have h1 : ¬ k < 0 := by omega
  have h2 : ¬ 3 ≤ k := by omega
  go_enter Tryz.func81, Tryz.ntmps81
  go_wp2_with fail
  refine (slots_5 _ hS).mono ?_
  rintro e w' ⟨rfl, rfl⟩
  go_wp2_with fail
  refine (wide_5 _ hS).mono ?_
  rintro e w' ⟨rfl, rfl⟩
  go_wp2_with fail
  refine (wide_5 _ hS).mono ?_
  rintro e w' ⟨rfl, rfl⟩
  go_wp2
  go_ret3
  exact ⟨rfl, rfl⟩
theorem place_6 (k : Int) (h0 : 0 ≤ k) (h : k < 2) : GK 81 #[.int .i64 6, .int .i64 k] (.tuple #[.int .i64 (k * 104), .int .i64 104, .bool true]) := by
  intro w hS
  have h1 : ¬ k < 0 := by omega
  have h2 : ¬ 2 ≤ k := by omega
  go_enter Tryz.func81, Tryz.ntmps81
  go_wp2_with fail
  refine (slots_6 _ hS).mono ?_
  rintro e w' ⟨rfl, rfl⟩
  go_wp2_with fail
  refine (wide_6 _ hS).mono ?_
  rintro e w' ⟨rfl, rfl⟩
  go_wp2_with fail
  refine (wide_6 _ hS).mono ?_
  rintro e w' ⟨rfl, rfl⟩
  go_wp2
  go_ret3
  exact ⟨rfl, rfl⟩
theorem place_7 (k : Int) (h0 : 0 ≤ k) (h : k < 2) : GK 81 #[.int .i64 7, .int .i64 k] (.tuple #[.int .i64 (k * 128), .int .i64 128, .bool true]) := by
  intro w hS
  have h1 : ¬ k < 0 := by omega
  have h2 : ¬ 2 ≤ k := by omega
  go_enter Tryz.func81, Tryz.ntmps81
  go_wp2_with fail
  refine (slots_7 _ hS).mono ?_
  rintro e w' ⟨rfl, rfl⟩
  go_wp2_with fail
  refine (wide_7 _ hS).mono ?_
  rintro e w' ⟨rfl, rfl⟩
  go_wp2_with fail
  refine (wide_7 _ hS).mono ?_
  rintro e w' ⟨rfl, rfl⟩
  go_wp2
  go_ret3
  exact ⟨rfl, rfl⟩
end Go.Proofs.YtdknalihgblfcaaGreatDoor
