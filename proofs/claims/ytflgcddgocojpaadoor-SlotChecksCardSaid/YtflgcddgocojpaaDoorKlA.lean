/-
  Sizes (class): the table; what each function answers, class by class.
-/
import Derived.Test.YtflgcddgocojpaaDoorProg
import Derived.Test.YtflgcddgocojpaaDoorVal
import Derived.WalkKit
import Derived.OpenShut
import Derived.Below
import Derived.Lib.Hide
namespace Go.Proofs.YtflgcddgocojpaaDoor
open Go.RowKit Go
set_option linter.unusedVariables false
set_option linter.unusedSimpArgs false
def szV : Array Value := #[.int .i64 8, .int .i64 16, .int .i64 24, .int .i64 32, .int .i64 48, .int .i64 64, .int .i64 96, .int .i64 120]
/-- the table's variable holds what the text lays -/
def SZ (W : World) : Prop := ∃ (cs : Array Value) (t : TypeId) (m : Nat × Nat), W.heap[0]? = some (.cells cs t m) ∧ cs = szV

theorem SZ.cells {W : World} (h : SZ W) : W.cell? ⟨0, 0, none⟩ = some (.int .i64 8) ∧ W.cell? ⟨0, 1, none⟩ = some (.int .i64 16) ∧ W.cell? ⟨0, 2, none⟩ = some (.int .i64 24) ∧ W.cell? ⟨0, 3, none⟩ = some (.int .i64 32) ∧ W.cell? ⟨0, 4, none⟩ = some (.int .i64 48) ∧ W.cell? ⟨0, 5, none⟩ = some (.int .i64 64) ∧ W.cell? ⟨0, 6, none⟩ = some (.int .i64 96) ∧ W.cell? ⟨0, 7, none⟩ = some (.int .i64 120) := by
  obtain ⟨cs, t, m, hb, rfl⟩ := h
  refine ⟨?_, ?_, ?_, ?_, ?_, ?_, ?_, ?_⟩ <;> simp [World.cell?, hb, szV]
theorem SZ.below {W w : World} (h : SZ W) (hb : Below W.heap.size W w) : SZ w := by
  obtain ⟨cs, t, m, h1, h2⟩ := h
  exact ⟨cs, t, m, (hb.block 0 (Array.getElem?_eq_some_iff.1 h1).1).trans h1, h2⟩
/-- the call answers v and leaves the world -/
abbrev GK (f : FuncId) (args : Array Value) (v : Value) : Prop := ∀ w, SZ w → Calls Tryd.prog f args w fun e w' => e = .returned v ∧ w = w'

theorem size_0 : GK 42 #[.int .i64 0] (.int .i64 8) := by
  intro w hS
  obtain ⟨c0, c1, c2, c3, c4, c5, c6, c7⟩ := hS.cells
  go_enter Tryd.func42, Tryd.ntmps42
  go_wp2
  go_ret
  exact ⟨rfl, rfl⟩
theorem rsize_0 : GK 20 #[.int .i64 0] (.int .i64 8) := by
  intro w hS
  clear hS
  go_enter Tryd.func20, Tryd.ntmps20
  go_wp2
  go_ret
  exact ⟨rfl, rfl⟩
theorem size_1 : GK 42 #[.int .i64 1] (.int .i64 16) := by
  intro w hS
  obtain ⟨c0, c1, c2, c3, c4, c5, c6, c7⟩ := hS.cells
  go_enter Tryd.func42, Tryd.ntmps42
  go_wp2
  go_ret
  exact ⟨rfl, rfl⟩
theorem rsize_1 : GK 20 #[.int .i64 1] (.int .i64 16) := by
  intro w hS
  clear hS
  go_enter Tryd.func20, Tryd.ntmps20
  go_wp2
  go_ret
  exact ⟨rfl, rfl⟩
theorem size_2 : GK 42 #[.int .i64 2] (.int .i64 24) := by
  intro w hS
  obtain ⟨c0, c1, c2, c3, c4, c5, c6, c7⟩ := hS.cells
  go_enter Tryd.func42, Tryd.ntmps42
  go_wp2
  go_ret
  exact ⟨rfl, rfl⟩
theorem rsize_2 : GK 20 #[.int .i64 2] (.int .i64 24) := by
  intro w hS
  clear hS
  go_enter Tryd.func20, Tryd.ntmps20
  go_wp2
  go_ret
  exact ⟨rfl, rfl⟩
theorem size_3 : GK 42 #[.int .i64 3] (.int .i64 32) := by
  intro w hS
  obtain ⟨c0, c1, c2, c3, c4, c5, c6, c7⟩ := hS.cells
  go_enter Tryd.func42, Tryd.ntmps42
  go_wp2
  go_ret
  exact ⟨rfl, rfl⟩
theorem rsize_3 : GK 20 #[.int .i64 3] (.int .i64 32) := by
  intro w hS
  clear hS
  go_enter Tryd.func20, Tryd.ntmps20
  go_wp2
  go_ret
  exact ⟨rfl, rfl⟩
theorem size_4 : GK 42 #[.int .i64 4] (.int .i64 48) := by
  intro w hS
  obtain ⟨c0, c1, c2, c3, c4, c5, c6, c7⟩ := hS.cells
  go_enter Tryd.func42, Tryd.ntmps42
  go_wp2
  go_ret
  exact ⟨rfl, rfl⟩
theorem rsize_4 : GK 20 #[.int .i64 4] (.int .i64 48) := by
  intro w hS
  clear hS
  go_enter Tryd.func20, Tryd.ntmps20
  go_wp2
  go_ret
  exact ⟨rfl, rfl⟩
theorem size_5 : GK 42 #[.int .i64 5] (.int .i64 64) := by
  intro w hS
  obtain ⟨c0, c1, c2, c3, c4, c5, c6, c7⟩ := hS.cells
  go_enter Tryd.func42, Tryd.ntmps42
  go_wp2
  go_ret
  exact ⟨rfl, rfl⟩
theorem rsize_5 : GK 20 #[.int .i64 5] (.int .i64 64) := by
  intro w hS
  clear hS
  go_enter Tryd.func20, Tryd.ntmps20
  go_wp2
  go_ret
  exact ⟨rfl, rfl⟩
theorem size_6 : GK 42 #[.int .i64 6] (.int .i64 96) := by
  intro w hS
  obtain ⟨c0, c1, c2, c3, c4, c5, c6, c7⟩ := hS.cells
  go_enter Tryd.func42, Tryd.ntmps42
  go_wp2
  go_ret
  exact ⟨rfl, rfl⟩
theorem rsize_6 : GK 20 #[.int .i64 6] (.int .i64 96) := by
  intro w hS
  clear hS
  go_enter Tryd.func20, Tryd.ntmps20
  go_wp2
  go_ret
  exact ⟨rfl, rfl⟩
theorem size_7 : GK 42 #[.int .i64 7] (.int .i64 120) := by
  intro w hS
  obtain ⟨c0, c1, c2, c3, c4, c5, c6, c7⟩ := hS.cells
  go_enter Tryd.func42, Tryd.ntmps42
  go_wp2
  go_ret
  exact ⟨rfl, rfl⟩
theorem rsize_7 : GK 20 #[.int .i64 7] (.int .i64 120) := by
  intro w hS
  clear hS
  go_enter Tryd.func20, Tryd.ntmps20
  go_wp2
  go_ret
  exact ⟨rfl, rfl⟩
theorem size_out (c : Int) (hc : c < 0 ∨ 8 ≤ c) : GK 42 #[.int .i64 c] (.int .i64 0) := by
  intro w hS
  clear hS
  rcases hc with h | h
  · go_enter Tryd.func42, Tryd.ntmps42
    go_wp2
    go_ret
    exact ⟨rfl, rfl⟩
  · have h0 : ¬ c < 0 := by omega
    go_enter Tryd.func42, Tryd.ntmps42
    go_wp2
    go_ret
    exact ⟨rfl, rfl⟩
theorem rsize_out (c : Int) (hc : c < 0 ∨ 8 ≤ c) : GK 20 #[.int .i64 c] (.int .i64 0) := by
  intro w hS
  clear hS
  have e0 : (c == 0) = false := by rw [beq_eq_false_iff_ne]; omega
  have e1 : (c == 1) = false := by rw [beq_eq_false_iff_ne]; omega
  have e2 : (c == 2) = false := by rw [beq_eq_false_iff_ne]; omega
  have e3 : (c == 3) = false := by rw [beq_eq_false_iff_ne]; omega
  have e4 : (c == 4) = false := by rw [beq_eq_false_iff_ne]; omega
  have e5 : (c == 5) = false := by rw [beq_eq_false_iff_ne]; omega
  have e6 : (c == 6) = false := by rw [beq_eq_false_iff_ne]; omega
  have e7 : (c == 7) = false := by rw [beq_eq_false_iff_ne]; omega
  clear hc
  go_enter Tryd.func20, Tryd.ntmps20
  go_wp2
  go_ret
  exact ⟨rfl, rfl⟩
theorem wide_0 : GK 43 #[.int .i64 0] (.int .i64 16) := by
  intro w hS
  go_enter Tryd.func43, Tryd.ntmps43
  go_wp2_with fail
  refine (size_0 _ hS).mono ?_
  rintro e w' ⟨rfl, rfl⟩
  go_wp2
  go_ret
  exact ⟨rfl, rfl⟩
theorem slots_0 : GK 26 #[.int .i64 0] (.int .i64 16) := by
  intro w hS
  go_enter Tryd.func26, Tryd.ntmps26
  go_wp2_with fail
  refine (size_0 _ hS).mono ?_
  rintro e w' ⟨rfl, rfl⟩
  go_wp2_with fail
  refine (wide_0 _ hS).mono ?_
  rintro e w' ⟨rfl, rfl⟩
  go_wp2
  go_ret
  exact ⟨rfl, rfl⟩
theorem rslots_0 : GK 21 #[.int .i64 0] (.int .i64 16) := by
  intro w hS
  go_enter Tryd.func21, Tryd.ntmps21
  go_wp2
  go_loopw [3] (fun v3 wr => (∃ k : Nat, v3 = .int .i64 (k : Int) ∧ k ≤ 16) ∧ w = wr) (fun v _ => (16 - intOf v).toNat)
  case atStart => exact ⟨⟨0, rfl, by omega⟩, rfl⟩
  case round =>
    obtain ⟨⟨k, rfl, hk⟩, rfl⟩ := hrel
    go_wp2_with fail
    refine (rsize_0 _ hS).mono ?_
    rintro e w' ⟨rfl, rfl⟩
    by_cases hlt : k < 16
    · have h1 : ((k : Int) + 1) * 16 ≤ 256 := by omega
      go_wp2
      go_roundw
      case rel => exact ⟨⟨k + 1, rfl, by omega⟩, by trivial⟩
      case measure => simp [intOf]; omega
    · obtain rfl : k = 16 := by omega
      go_wp2
      go_ret
      exact ⟨rfl, rfl⟩
theorem wide_1 : GK 43 #[.int .i64 1] (.int .i64 24) := by
  intro w hS
  go_enter Tryd.func43, Tryd.ntmps43
  go_wp2_with fail
  refine (size_1 _ hS).mono ?_
  rintro e w' ⟨rfl, rfl⟩
  go_wp2
  go_ret
  exact ⟨rfl, rfl⟩
theorem slots_1 : GK 26 #[.int .i64 1] (.int .i64 10) := by
  intro w hS
  go_enter Tryd.func26, Tryd.ntmps26
  go_wp2_with fail
  refine (size_1 _ hS).mono ?_
  rintro e w' ⟨rfl, rfl⟩
  go_wp2_with fail
  refine (wide_1 _ hS).mono ?_
  rintro e w' ⟨rfl, rfl⟩
  go_wp2
  go_ret
  exact ⟨rfl, rfl⟩
theorem rslots_1 : GK 21 #[.int .i64 1] (.int .i64 10) := by
  intro w hS
  go_enter Tryd.func21, Tryd.ntmps21
  go_wp2
  go_loopw [3] (fun v3 wr => (∃ k : Nat, v3 = .int .i64 (k : Int) ∧ k ≤ 10) ∧ w = wr) (fun v _ => (10 - intOf v).toNat)
  case atStart => exact ⟨⟨0, rfl, by omega⟩, rfl⟩
  case round =>
    obtain ⟨⟨k, rfl, hk⟩, rfl⟩ := hrel
    go_wp2_with fail
    refine (rsize_1 _ hS).mono ?_
    rintro e w' ⟨rfl, rfl⟩
    by_cases hlt : k < 10
    · have h1 : ((k : Int) + 1) * 24 ≤ 256 := by omega
      go_wp2
      go_roundw
      case rel => exact ⟨⟨k + 1, rfl, by omega⟩, by trivial⟩
      case measure => simp [intOf]; omega
    · obtain rfl : k = 10 := by omega
      go_wp2
      go_ret
      exact ⟨rfl, rfl⟩
theorem wide_2 : GK 43 #[.int .i64 2] (.int .i64 32) := by
  intro w hS
  go_enter Tryd.func43, Tryd.ntmps43
  go_wp2_with fail
  refine (size_2 _ hS).mono ?_
  rintro e w' ⟨rfl, rfl⟩
  go_wp2
  go_ret
  exact ⟨rfl, rfl⟩
theorem slots_2 : GK 26 #[.int .i64 2] (.int .i64 8) := by
  intro w hS
  go_enter Tryd.func26, Tryd.ntmps26
  go_wp2_with fail
  refine (size_2 _ hS).mono ?_
  rintro e w' ⟨rfl, rfl⟩
  go_wp2_with fail
  refine (wide_2 _ hS).mono ?_
  rintro e w' ⟨rfl, rfl⟩
  go_wp2
  go_ret
  exact ⟨rfl, rfl⟩
theorem rslots_2 : GK 21 #[.int .i64 2] (.int .i64 8) := by
  intro w hS
  go_enter Tryd.func21, Tryd.ntmps21
  go_wp2
  go_loopw [3] (fun v3 wr => (∃ k : Nat, v3 = .int .i64 (k : Int) ∧ k ≤ 8) ∧ w = wr) (fun v _ => (8 - intOf v).toNat)
  case atStart => exact ⟨⟨0, rfl, by omega⟩, rfl⟩
  case round =>
    obtain ⟨⟨k, rfl, hk⟩, rfl⟩ := hrel
    go_wp2_with fail
    refine (rsize_2 _ hS).mono ?_
    rintro e w' ⟨rfl, rfl⟩
    by_cases hlt : k < 8
    · have h1 : ((k : Int) + 1) * 32 ≤ 256 := by omega
      go_wp2
      go_roundw
      case rel => exact ⟨⟨k + 1, rfl, by omega⟩, by trivial⟩
      case measure => simp [intOf]; omega
    · obtain rfl : k = 8 := by omega
      go_wp2
      go_ret
      exact ⟨rfl, rfl⟩
theorem wide_3 : GK 43 #[.int .i64 3] (.int .i64 40) := by
  intro w hS
  go_enter Tryd.func43, Tryd.ntmps43
  go_wp2_with fail
  refine (size_3 _ hS).mono ?_
  rintro e w' ⟨rfl, rfl⟩
  go_wp2
  go_ret
  exact ⟨rfl, rfl⟩
theorem slots_3 : GK 26 #[.int .i64 3] (.int .i64 6) := by
  intro w hS
  go_enter Tryd.func26, Tryd.ntmps26
  go_wp2_with fail
  refine (size_3 _ hS).mono ?_
  rintro e w' ⟨rfl, rfl⟩
  go_wp2_with fail
  refine (wide_3 _ hS).mono ?_
  rintro e w' ⟨rfl, rfl⟩
  go_wp2
  go_ret
  exact ⟨rfl, rfl⟩
theorem rslots_3 : GK 21 #[.int .i64 3] (.int .i64 6) := by
  intro w hS
  go_enter Tryd.func21, Tryd.ntmps21
  go_wp2
  go_loopw [3] (fun v3 wr => (∃ k : Nat, v3 = .int .i64 (k : Int) ∧ k ≤ 6) ∧ w = wr) (fun v _ => (6 - intOf v).toNat)
  case atStart => exact ⟨⟨0, rfl, by omega⟩, rfl⟩
  case round =>
    obtain ⟨⟨k, rfl, hk⟩, rfl⟩ := hrel
    go_wp2_with fail
    refine (rsize_3 _ hS).mono ?_
    rintro e w' ⟨rfl, rfl⟩
    by_cases hlt : k < 6
    · have h1 : ((k : Int) + 1) * 40 ≤ 256 := by omega
      go_wp2
      go_roundw
      case rel => exact ⟨⟨k + 1, rfl, by omega⟩, by trivial⟩
      case measure => simp [intOf]; omega
    · obtain rfl : k = 6 := by omega
      go_wp2
      go_ret
      exact ⟨rfl, rfl⟩
theorem wide_4 : GK 43 #[.int .i64 4] (.int .i64 56) := by
  intro w hS
  go_enter Tryd.func43, Tryd.ntmps43
  go_wp2_with fail
  refine (size_4 _ hS).mono ?_
  rintro e w' ⟨rfl, rfl⟩
  go_wp2
  go_ret
  exact ⟨rfl, rfl⟩
theorem slots_4 : GK 26 #[.int .i64 4] (.int .i64 4) := by
  intro w hS
  go_enter Tryd.func26, Tryd.ntmps26
  go_wp2_with fail
  refine (size_4 _ hS).mono ?_
  rintro e w' ⟨rfl, rfl⟩
  go_wp2_with fail
  refine (wide_4 _ hS).mono ?_
  rintro e w' ⟨rfl, rfl⟩
  go_wp2
  go_ret
  exact ⟨rfl, rfl⟩
theorem rslots_4 : GK 21 #[.int .i64 4] (.int .i64 4) := by
  intro w hS
  go_enter Tryd.func21, Tryd.ntmps21
  go_wp2
  go_loopw [3] (fun v3 wr => (∃ k : Nat, v3 = .int .i64 (k : Int) ∧ k ≤ 4) ∧ w = wr) (fun v _ => (4 - intOf v).toNat)
  case atStart => exact ⟨⟨0, rfl, by omega⟩, rfl⟩
  case round =>
    obtain ⟨⟨k, rfl, hk⟩, rfl⟩ := hrel
    go_wp2_with fail
    refine (rsize_4 _ hS).mono ?_
    rintro e w' ⟨rfl, rfl⟩
    by_cases hlt : k < 4
    · have h1 : ((k : Int) + 1) * 56 ≤ 256 := by omega
      go_wp2
      go_roundw
      case rel => exact ⟨⟨k + 1, rfl, by omega⟩, by trivial⟩
      case measure => simp [intOf]; omega
    · obtain rfl : k = 4 := by omega
      go_wp2
      go_ret
      exact ⟨rfl, rfl⟩
theorem wide_5 : GK 43 #[.int .i64 5] (.int .i64 72) := by
  intro w hS
  go_enter Tryd.func43, Tryd.ntmps43
  go_wp2_with fail
  refine (size_5 _ hS).mono ?_
  rintro e w' ⟨rfl, rfl⟩
  go_wp2
  go_ret
  exact ⟨rfl, rfl⟩
theorem slots_5 : GK 26 #[.int .i64 5] (.int .i64 3) := by
  intro w hS
  go_enter Tryd.func26, Tryd.ntmps26
  go_wp2_with fail
  refine (size_5 _ hS).mono ?_
  rintro e w' ⟨rfl, rfl⟩
  go_wp2_with fail
  refine (wide_5 _ hS).mono ?_
  rintro e w' ⟨rfl, rfl⟩
  go_wp2
  go_ret
  exact ⟨rfl, rfl⟩
theorem rslots_5 : GK 21 #[.int .i64 5] (.int .i64 3) := by
  intro w hS
  go_enter Tryd.func21, Tryd.ntmps21
  go_wp2
  go_loopw [3] (fun v3 wr => (∃ k : Nat, v3 = .int .i64 (k : Int) ∧ k ≤ 3) ∧ w = wr) (fun v _ => (3 - intOf v).toNat)
  case atStart => exact ⟨⟨0, rfl, by omega⟩, rfl⟩
  case round =>
    obtain ⟨⟨k, rfl, hk⟩, rfl⟩ := hrel
    go_wp2_with fail
    refine (rsize_5 _ hS).mono ?_
    rintro e w' ⟨rfl, rfl⟩
    by_cases hlt : k < 3
    · have h1 : ((k : Int) + 1) * 72 ≤ 256 := by omega
      go_wp2
      go_roundw
      case rel => exact ⟨⟨k + 1, rfl, by omega⟩, by trivial⟩
      case measure => simp [intOf]; omega
    · obtain rfl : k = 3 := by omega
      go_wp2
      go_ret
      exact ⟨rfl, rfl⟩
theorem wide_6 : GK 43 #[.int .i64 6] (.int .i64 104) := by
  intro w hS
  go_enter Tryd.func43, Tryd.ntmps43
  go_wp2_with fail
  refine (size_6 _ hS).mono ?_
  rintro e w' ⟨rfl, rfl⟩
  go_wp2
  go_ret
  exact ⟨rfl, rfl⟩
theorem slots_6 : GK 26 #[.int .i64 6] (.int .i64 2) := by
  intro w hS
  go_enter Tryd.func26, Tryd.ntmps26
  go_wp2_with fail
  refine (size_6 _ hS).mono ?_
  rintro e w' ⟨rfl, rfl⟩
  go_wp2_with fail
  refine (wide_6 _ hS).mono ?_
  rintro e w' ⟨rfl, rfl⟩
  go_wp2
  go_ret
  exact ⟨rfl, rfl⟩
theorem rslots_6 : GK 21 #[.int .i64 6] (.int .i64 2) := by
  intro w hS
  go_enter Tryd.func21, Tryd.ntmps21
  go_wp2
  go_loopw [3] (fun v3 wr => (∃ k : Nat, v3 = .int .i64 (k : Int) ∧ k ≤ 2) ∧ w = wr) (fun v _ => (2 - intOf v).toNat)
  case atStart => exact ⟨⟨0, rfl, by omega⟩, rfl⟩
  case round =>
    obtain ⟨⟨k, rfl, hk⟩, rfl⟩ := hrel
    go_wp2_with fail
    refine (rsize_6 _ hS).mono ?_
    rintro e w' ⟨rfl, rfl⟩
    by_cases hlt : k < 2
    · have h1 : ((k : Int) + 1) * 104 ≤ 256 := by omega
      go_wp2
      go_roundw
      case rel => exact ⟨⟨k + 1, rfl, by omega⟩, by trivial⟩
      case measure => simp [intOf]; omega
    · obtain rfl : k = 2 := by omega
      go_wp2
      go_ret
      exact ⟨rfl, rfl⟩
theorem wide_7 : GK 43 #[.int .i64 7] (.int .i64 128) := by
  intro w hS
  go_enter Tryd.func43, Tryd.ntmps43
  go_wp2_with fail
  refine (size_7 _ hS).mono ?_
  rintro e w' ⟨rfl, rfl⟩
  go_wp2
  go_ret
  exact ⟨rfl, rfl⟩
theorem slots_7 : GK 26 #[.int .i64 7] (.int .i64 2) := by
  intro w hS
  go_enter Tryd.func26, Tryd.ntmps26
  go_wp2_with fail
  refine (size_7 _ hS).mono ?_
  rintro e w' ⟨rfl, rfl⟩
  go_wp2_with fail
  refine (wide_7 _ hS).mono ?_
  rintro e w' ⟨rfl, rfl⟩
  go_wp2
  go_ret
  exact ⟨rfl, rfl⟩
theorem rslots_7 : GK 21 #[.int .i64 7] (.int .i64 2) := by
  intro w hS
  go_enter Tryd.func21, Tryd.ntmps21
  go_wp2
  go_loopw [3] (fun v3 wr => (∃ k : Nat, v3 = .int .i64 (k : Int) ∧ k ≤ 2) ∧ w = wr) (fun v _ => (2 - intOf v).toNat)
  case atStart => exact ⟨⟨0, rfl, by omega⟩, rfl⟩
  case round =>
    obtain ⟨⟨k, rfl, hk⟩, rfl⟩ := hrel
    go_wp2_with fail
    refine (rsize_7 _ hS).mono ?_
    rintro e w' ⟨rfl, rfl⟩
    by_cases hlt : k < 2
    · have h1 : ((k : Int) + 1) * 128 ≤ 256 := by omega
      go_wp2
      go_roundw
      case rel => exact ⟨⟨k + 1, rfl, by omega⟩, by trivial⟩
      case measure => simp [intOf]; omega
    · obtain rfl : k = 2 := by omega
      go_wp2
      go_ret
      exact ⟨rfl, rfl⟩
theorem slots_out (c : Int) (hc : c < 0 ∨ 8 ≤ c) : GK 26 #[.int .i64 c] (.int .i64 0) := by
  intro w hS
  have HC := Lib.hid hc
  clear hc
  go_enter Tryd.func26, Tryd.ntmps26
  go_wp2_with fail
  refine (size_out c HC.out _ hS).mono ?_
  rintro e w' ⟨rfl, rfl⟩
  go_wp2
  go_ret
  exact ⟨rfl, rfl⟩
theorem rslots_out (c : Int) (hc : c < 0 ∨ 8 ≤ c) : GK 21 #[.int .i64 c] (.int .i64 0) := by
  intro w hS
  clear hS
  rcases hc with h | h
  · go_enter Tryd.func21, Tryd.ntmps21
    go_wp2
    go_ret
    exact ⟨rfl, rfl⟩
  · have h0 : ¬ c < 0 := by omega
    have h7 : 7 < c := by omega
    go_enter Tryd.func21, Tryd.ntmps21
    go_wp2
    go_ret
    exact ⟨rfl, rfl⟩
end Go.Proofs.YtflgcddgocojpaaDoor
