/-
  The four laws of class.
-/
import Derived.Test.YtibkidljcgpinaaDoorKlB
import Derived.LaidMore
import Derived.LaidOnce
import Derived.Lay
import Derived.Test.YtibkidljcgpinaaDoorRows
namespace Go.Proofs.YtibkidljcgpinaaDoor
open Go.RowKit Go Go.ChangeShapes Go.WideShapes Go.ChangeAt
set_option linter.unusedVariables false
set_option linter.unusedSimpArgs false
set_option maxHeartbeats 1000000 in
theorem sizes_0 : GK 3 #[.int .i64 0] (.bool true) := by
  intro w hS
  go_enter Tryd.func3, Tryd.ntmps3
  go_wp2_with fail
  refine (size_0 _ hS).mono ?_
  rintro e w' ⟨rfl, rfl⟩
  go_wp2_with fail
  refine (rsize_0 _ hS).mono ?_
  rintro e w' ⟨rfl, rfl⟩
  go_wp2_with fail
  refine (slots_0 _ hS).mono ?_
  rintro e w' ⟨rfl, rfl⟩
  go_wp2_with fail
  refine (rslots_0 _ hS).mono ?_
  rintro e w' ⟨rfl, rfl⟩
  go_wp2_with fail
  refine (awake17_any _ hS).mono ?_
  rintro e w' ⟨rfl, rfl⟩
  go_wp2
  go_ret
  exact ⟨rfl, rfl⟩
set_option maxHeartbeats 1000000 in
theorem sizes_1 : GK 3 #[.int .i64 1] (.bool true) := by
  intro w hS
  go_enter Tryd.func3, Tryd.ntmps3
  go_wp2_with fail
  refine (size_1 _ hS).mono ?_
  rintro e w' ⟨rfl, rfl⟩
  go_wp2_with fail
  refine (rsize_1 _ hS).mono ?_
  rintro e w' ⟨rfl, rfl⟩
  go_wp2_with fail
  refine (slots_1 _ hS).mono ?_
  rintro e w' ⟨rfl, rfl⟩
  go_wp2_with fail
  refine (rslots_1 _ hS).mono ?_
  rintro e w' ⟨rfl, rfl⟩
  go_wp2_with fail
  refine (awake17_any _ hS).mono ?_
  rintro e w' ⟨rfl, rfl⟩
  go_wp2
  go_ret
  exact ⟨rfl, rfl⟩
set_option maxHeartbeats 1000000 in
theorem sizes_2 : GK 3 #[.int .i64 2] (.bool true) := by
  intro w hS
  go_enter Tryd.func3, Tryd.ntmps3
  go_wp2_with fail
  refine (size_2 _ hS).mono ?_
  rintro e w' ⟨rfl, rfl⟩
  go_wp2_with fail
  refine (rsize_2 _ hS).mono ?_
  rintro e w' ⟨rfl, rfl⟩
  go_wp2_with fail
  refine (slots_2 _ hS).mono ?_
  rintro e w' ⟨rfl, rfl⟩
  go_wp2_with fail
  refine (rslots_2 _ hS).mono ?_
  rintro e w' ⟨rfl, rfl⟩
  go_wp2_with fail
  refine (awake17_any _ hS).mono ?_
  rintro e w' ⟨rfl, rfl⟩
  go_wp2
  go_ret
  exact ⟨rfl, rfl⟩
set_option maxHeartbeats 1000000 in
theorem sizes_3 : GK 3 #[.int .i64 3] (.bool true) := by
  intro w hS
  go_enter Tryd.func3, Tryd.ntmps3
  go_wp2_with fail
  refine (size_3 _ hS).mono ?_
  rintro e w' ⟨rfl, rfl⟩
  go_wp2_with fail
  refine (rsize_3 _ hS).mono ?_
  rintro e w' ⟨rfl, rfl⟩
  go_wp2_with fail
  refine (slots_3 _ hS).mono ?_
  rintro e w' ⟨rfl, rfl⟩
  go_wp2_with fail
  refine (rslots_3 _ hS).mono ?_
  rintro e w' ⟨rfl, rfl⟩
  go_wp2_with fail
  refine (awake17_any _ hS).mono ?_
  rintro e w' ⟨rfl, rfl⟩
  go_wp2
  go_ret
  exact ⟨rfl, rfl⟩
set_option maxHeartbeats 1000000 in
theorem sizes_4 : GK 3 #[.int .i64 4] (.bool true) := by
  intro w hS
  go_enter Tryd.func3, Tryd.ntmps3
  go_wp2_with fail
  refine (size_4 _ hS).mono ?_
  rintro e w' ⟨rfl, rfl⟩
  go_wp2_with fail
  refine (rsize_4 _ hS).mono ?_
  rintro e w' ⟨rfl, rfl⟩
  go_wp2_with fail
  refine (slots_4 _ hS).mono ?_
  rintro e w' ⟨rfl, rfl⟩
  go_wp2_with fail
  refine (rslots_4 _ hS).mono ?_
  rintro e w' ⟨rfl, rfl⟩
  go_wp2_with fail
  refine (awake17_any _ hS).mono ?_
  rintro e w' ⟨rfl, rfl⟩
  go_wp2
  go_ret
  exact ⟨rfl, rfl⟩
set_option maxHeartbeats 1000000 in
theorem sizes_5 : GK 3 #[.int .i64 5] (.bool true) := by
  intro w hS
  go_enter Tryd.func3, Tryd.ntmps3
  go_wp2_with fail
  refine (size_5 _ hS).mono ?_
  rintro e w' ⟨rfl, rfl⟩
  go_wp2_with fail
  refine (rsize_5 _ hS).mono ?_
  rintro e w' ⟨rfl, rfl⟩
  go_wp2_with fail
  refine (slots_5 _ hS).mono ?_
  rintro e w' ⟨rfl, rfl⟩
  go_wp2_with fail
  refine (rslots_5 _ hS).mono ?_
  rintro e w' ⟨rfl, rfl⟩
  go_wp2_with fail
  refine (awake17_any _ hS).mono ?_
  rintro e w' ⟨rfl, rfl⟩
  go_wp2
  go_ret
  exact ⟨rfl, rfl⟩
set_option maxHeartbeats 1000000 in
theorem sizes_6 : GK 3 #[.int .i64 6] (.bool true) := by
  intro w hS
  go_enter Tryd.func3, Tryd.ntmps3
  go_wp2_with fail
  refine (size_6 _ hS).mono ?_
  rintro e w' ⟨rfl, rfl⟩
  go_wp2_with fail
  refine (rsize_6 _ hS).mono ?_
  rintro e w' ⟨rfl, rfl⟩
  go_wp2_with fail
  refine (slots_6 _ hS).mono ?_
  rintro e w' ⟨rfl, rfl⟩
  go_wp2_with fail
  refine (rslots_6 _ hS).mono ?_
  rintro e w' ⟨rfl, rfl⟩
  go_wp2_with fail
  refine (awake17_any _ hS).mono ?_
  rintro e w' ⟨rfl, rfl⟩
  go_wp2
  go_ret
  exact ⟨rfl, rfl⟩
set_option maxHeartbeats 1000000 in
theorem sizes_7 : GK 3 #[.int .i64 7] (.bool true) := by
  intro w hS
  go_enter Tryd.func3, Tryd.ntmps3
  go_wp2_with fail
  refine (size_7 _ hS).mono ?_
  rintro e w' ⟨rfl, rfl⟩
  go_wp2_with fail
  refine (rsize_7 _ hS).mono ?_
  rintro e w' ⟨rfl, rfl⟩
  go_wp2_with fail
  refine (slots_7 _ hS).mono ?_
  rintro e w' ⟨rfl, rfl⟩
  go_wp2_with fail
  refine (rslots_7 _ hS).mono ?_
  rintro e w' ⟨rfl, rfl⟩
  go_wp2_with fail
  refine (awake17_any _ hS).mono ?_
  rintro e w' ⟨rfl, rfl⟩
  go_wp2
  go_ret
  exact ⟨rfl, rfl⟩
set_option maxHeartbeats 1000000 in
theorem sizes_out (c : Int) (hc : c < 0 ∨ 8 ≤ c) : GK 3 #[.int .i64 c] (.bool true) := by
  intro w hS
  have HC := Lib.hid hc
  clear hc
  go_enter Tryd.func3, Tryd.ntmps3
  go_wp2_with fail
  refine (size_out c HC.out _ hS).mono ?_
  rintro e w' ⟨rfl, rfl⟩
  go_wp2_with fail
  refine (rsize_out c HC.out _ hS).mono ?_
  rintro e w' ⟨rfl, rfl⟩
  go_wp2_with fail
  refine (slots_out c HC.out _ hS).mono ?_
  rintro e w' ⟨rfl, rfl⟩
  go_wp2_with fail
  refine (rslots_out c HC.out _ hS).mono ?_
  rintro e w' ⟨rfl, rfl⟩
  go_wp2_with fail
  refine (awake17_any _ hS).mono ?_
  rintro e w' ⟨rfl, rfl⟩
  go_wp2
  go_ret
  exact ⟨rfl, rfl⟩
theorem classSizes_any (c : Int) : GK 3 #[.int .i64 c] (.bool true) := by
  rcases (by omega : c = 0 ∨ c = 1 ∨ c = 2 ∨ c = 3 ∨ c = 4 ∨ c = 5 ∨ c = 6 ∨ c = 7 ∨ (c < 0 ∨ 8 ≤ c)) with rfl | rfl | rfl | rfl | rfl | rfl | rfl | rfl | h
  · exact sizes_0
  · exact sizes_1
  · exact sizes_2
  · exact sizes_3
  · exact sizes_4
  · exact sizes_5
  · exact sizes_6
  · exact sizes_7
  · exact sizes_out c h
set_option maxHeartbeats 1000000 in
theorem of_law_low (n : Int) (h : n < 1) : GK 4 #[.int .i64 n] (.bool true) := by
  intro w hS
  have h1 : ¬ 1 ≤ n := by omega
  go_enter Tryd.func4, Tryd.ntmps4
  go_wp2_with fail
  refine (of_low n h _ hS).mono ?_
  rintro e w' ⟨rfl, rfl⟩
  go_wp2_with fail
  refine (rof_out n (.inl h) _ hS).mono ?_
  rintro e w' ⟨rfl, rfl⟩
  go_wp2_with fail
  refine (pages_out n (.inl (by omega)) _ hS).mono ?_
  rintro e w' ⟨rfl, rfl⟩
  go_wp2_with fail
  refine (rpages_out n (.inl (by omega)) _ hS).mono ?_
  rintro e w' ⟨rfl, rfl⟩
  go_wp2_with fail
  refine (awake17_any _ hS).mono ?_
  rintro e w' ⟨rfl, rfl⟩
  go_wp2
  go_ret
  exact ⟨rfl, rfl⟩
set_option maxHeartbeats 1000000 in
theorem of_law_high (n : Int) (h : 4096 < n) : GK 4 #[.int .i64 n] (.bool true) := by
  intro w hS
  have h1 : 1 ≤ n := by omega
  have h2 : ¬ n ≤ 4096 := by omega
  go_enter Tryd.func4, Tryd.ntmps4
  go_wp2_with fail
  refine (of_high n (by omega) _ hS).mono ?_
  rintro e w' ⟨rfl, rfl⟩
  go_wp2_with fail
  refine (rof_out n (.inr (by omega)) _ hS).mono ?_
  rintro e w' ⟨rfl, rfl⟩
  go_wp2_with fail
  refine (pages_out n (.inr h) _ hS).mono ?_
  rintro e w' ⟨rfl, rfl⟩
  go_wp2_with fail
  refine (rpages_out n (.inr h) _ hS).mono ?_
  rintro e w' ⟨rfl, rfl⟩
  go_wp2_with fail
  refine (awake17_any _ hS).mono ?_
  rintro e w' ⟨rfl, rfl⟩
  go_wp2
  go_ret
  exact ⟨ret_bool (by simp; omega), rfl⟩
set_option maxHeartbeats 1000000 in
theorem of_law_in (n : Int) (i : Nat) (h : InCl n i) : GK 4 #[.int .i64 n] (.bool true) := by
  intro w hS
  have HI := Lib.hid h
  have h1 : 1 ≤ n := h.one
  have h0 : n ≤ 120 := by have := h.hi; have := (szN_le i h.lt).2; omega
  have h2 : n ≤ 4096 := by omega
  have e0 : ((i : Int) == (i : Int)) = true := beq_self_eq_true _
  clear h
  go_enter Tryd.func4, Tryd.ntmps4
  go_wp2_with fail
  refine (of_in n i HI.out _ hS).mono ?_
  rintro e w' ⟨rfl, rfl⟩
  go_wp2_with fail
  refine (rof_in n i HI.out _ hS).mono ?_
  rintro e w' ⟨rfl, rfl⟩
  go_wp2_with fail
  refine (pages_out n (.inl (by omega)) _ hS).mono ?_
  rintro e w' ⟨rfl, rfl⟩
  go_wp2_with fail
  refine (rpages_out n (.inl (by omega)) _ hS).mono ?_
  rintro e w' ⟨rfl, rfl⟩
  go_wp2_with fail
  refine (awake17_any _ hS).mono ?_
  rintro e w' ⟨rfl, rfl⟩
  go_wp2
  go_ret
  exact ⟨rfl, rfl⟩
set_option maxHeartbeats 1000000 in
theorem of_law_pages (n q : Nat) (h1 : 121 ≤ n) (h2 : n ≤ 4096) (hq : q = (n + 255) / 256) : GK 4 #[.int .i64 (n : Int)] (.bool true) := by
  intro w hS
  have HQ := Lib.hid hq
  have h3 : 1 ≤ (n : Int) := by omega
  have h4 : (n : Int) ≤ 4096 := by omega
  have h5 : 120 < (n : Int) := by omega
  have e0 : ((q : Int) == (q : Int)) = true := beq_self_eq_true _
  clear hq
  go_enter Tryd.func4, Tryd.ntmps4
  go_wp2_with fail
  refine (of_high n h5 _ hS).mono ?_
  rintro e w' ⟨rfl, rfl⟩
  go_wp2_with fail
  refine (rof_out n (.inr h5) _ hS).mono ?_
  rintro e w' ⟨rfl, rfl⟩
  go_wp2_with fail
  refine (pages_in n q h1 h2 HQ.out _ hS).mono ?_
  rintro e w' ⟨rfl, rfl⟩
  go_wp2_with fail
  refine (rpages_in n q h1 h2 HQ.out _ hS).mono ?_
  rintro e w' ⟨rfl, rfl⟩
  go_wp2_with fail
  refine (awake17_any _ hS).mono ?_
  rintro e w' ⟨rfl, rfl⟩
  go_wp2
  go_ret
  exact ⟨rfl, rfl⟩
theorem classOf_any (n : Int) : GK 4 #[.int .i64 n] (.bool true) := by
  rcases (by omega : n < 1 ∨ (1 ≤ n ∧ n ≤ 120) ∨ (121 ≤ n ∧ n ≤ 4096) ∨ 4096 < n) with h | ⟨h1, h2⟩ | ⟨h1, h2⟩ | h
  · exact of_law_low n h
  · obtain ⟨i, hi⟩ := InCl.ex n h1 h2
    exact of_law_in n i hi
  · obtain ⟨m, rfl⟩ : ∃ m : Nat, n = (m : Int) := ⟨n.toNat, by omega⟩
    exact of_law_pages m _ (by omega) (by omega) rfl
  · exact of_law_high n h
set_option maxHeartbeats 1000000 in
theorem place_law_cneg (c k : Int) (h : c < 0) (HP : GK 16 #[.int .i64 c, .int .i64 k] (.tuple #[.int .i64 0, .int .i64 0, .bool false])) : GK 5 #[.int .i64 c, .int .i64 k] (.bool true) := by
  intro w hS
  have GP := Lib.hid HP
  clear HP
  go_enter Tryd.func5, Tryd.ntmps5
  go_wp2_with fail
  refine (GP.out _ hS).mono ?_
  rintro e w' ⟨rfl, rfl⟩
  go_wp2_with fail
  refine (awake17_any _ hS).mono ?_
  rintro e w' ⟨rfl, rfl⟩
  go_wp2
  go_ret
  exact ⟨rfl, rfl⟩
set_option maxHeartbeats 1000000 in
theorem place_law_chigh (c k : Int) (h : 7 < c) (HP : GK 16 #[.int .i64 c, .int .i64 k] (.tuple #[.int .i64 0, .int .i64 0, .bool false])) : GK 5 #[.int .i64 c, .int .i64 k] (.bool true) := by
  intro w hS
  have GP := Lib.hid HP
  have h0 : ¬ c < 0 := by omega
  clear HP
  go_enter Tryd.func5, Tryd.ntmps5
  go_wp2_with fail
  refine (GP.out _ hS).mono ?_
  rintro e w' ⟨rfl, rfl⟩
  go_wp2_with fail
  refine (awake17_any _ hS).mono ?_
  rintro e w' ⟨rfl, rfl⟩
  go_wp2
  go_ret
  exact ⟨rfl, rfl⟩
set_option maxHeartbeats 1000000 in
theorem place_law_kneg (c k : Int) (h0 : ¬ c < 0) (h7 : ¬ 7 < c) (h : k < 0) : GK 5 #[.int .i64 c, .int .i64 k] (.bool true) := by
  intro w hS
  go_enter Tryd.func5, Tryd.ntmps5
  go_wp2_with fail
  refine (place_low c k h _ hS).mono ?_
  rintro e w' ⟨rfl, rfl⟩
  go_wp2_with fail
  refine (awake17_any _ hS).mono ?_
  rintro e w' ⟨rfl, rfl⟩
  go_wp2
  go_ret
  exact ⟨rfl, rfl⟩
set_option maxHeartbeats 1000000 in
theorem place_law_0_out (k : Int) (h : 16 ≤ k) : GK 5 #[.int .i64 0, .int .i64 k] (.bool true) := by
  intro w hS
  have h0 : ¬ k < 0 := by omega
  go_enter Tryd.func5, Tryd.ntmps5
  go_wp2_with fail
  refine (place_high 0 k 16 (by omega) h slots_0 _ hS).mono ?_
  rintro e w' ⟨rfl, rfl⟩
  go_wp2_with fail
  refine (rslots_0 _ hS).mono ?_
  rintro e w' ⟨rfl, rfl⟩
  go_wp2_with fail
  refine (awake17_any _ hS).mono ?_
  rintro e w' ⟨rfl, rfl⟩
  go_wp2
  go_ret
  exact ⟨rfl, rfl⟩
set_option maxHeartbeats 1000000 in
theorem place_law_0_nil : GK 5 #[.int .i64 0, .int .i64 0] (.bool true) := by
  intro w hS
  go_enter Tryd.func5, Tryd.ntmps5
  go_wp2_with fail
  refine (place_0 0 (by omega) (by omega) _ hS).mono ?_
  rintro e w' ⟨rfl, rfl⟩
  go_wp2_with fail
  refine (rslots_0 _ hS).mono ?_
  rintro e w' ⟨rfl, rfl⟩
  go_wp2_with fail
  refine (rsize_0 _ hS).mono ?_
  rintro e w' ⟨rfl, rfl⟩
  go_wp2_with fail
  refine (awake17_any _ hS).mono ?_
  rintro e w' ⟨rfl, rfl⟩
  go_wp2
  go_ret
  exact ⟨rfl, rfl⟩
set_option maxHeartbeats 1000000 in
theorem place_law_0 (k : Int) (h1 : 1 ≤ k) (h : k < 16) : GK 5 #[.int .i64 0, .int .i64 k] (.bool true) := by
  intro w hS
  have h0 : ¬ k < 0 := by omega
  have h2 : ¬ 16 ≤ k := by omega
  have h3 : 0 < k := by omega
  have e1 : (((k - 1) * 16 + 16) == (k * 16)) = true := by rw [beq_iff_eq]; omega
  have e2 : ((k * 16) == (k * 16)) = true := beq_self_eq_true _
  have e3 : k * 16 + 16 ≤ 256 := by omega
  go_enter Tryd.func5, Tryd.ntmps5
  go_wp2_with fail
  refine (place_0 k (by omega) h _ hS).mono ?_
  rintro e w' ⟨rfl, rfl⟩
  go_wp2_with fail
  refine (rslots_0 _ hS).mono ?_
  rintro e w' ⟨rfl, rfl⟩
  go_wp2_with fail
  refine (place_0 (k - 1) (by omega) (by omega) _ hS).mono ?_
  rintro e w' ⟨rfl, rfl⟩
  go_wp2_with fail
  refine (rsize_0 _ hS).mono ?_
  rintro e w' ⟨rfl, rfl⟩
  go_wp2_with fail
  refine (awake17_any _ hS).mono ?_
  rintro e w' ⟨rfl, rfl⟩
  go_wp2
  go_ret
  exact ⟨rfl, rfl⟩
set_option maxHeartbeats 1000000 in
theorem place_law_1_out (k : Int) (h : 10 ≤ k) : GK 5 #[.int .i64 1, .int .i64 k] (.bool true) := by
  intro w hS
  have h0 : ¬ k < 0 := by omega
  go_enter Tryd.func5, Tryd.ntmps5
  go_wp2_with fail
  refine (place_high 1 k 10 (by omega) h slots_1 _ hS).mono ?_
  rintro e w' ⟨rfl, rfl⟩
  go_wp2_with fail
  refine (rslots_1 _ hS).mono ?_
  rintro e w' ⟨rfl, rfl⟩
  go_wp2_with fail
  refine (awake17_any _ hS).mono ?_
  rintro e w' ⟨rfl, rfl⟩
  go_wp2
  go_ret
  exact ⟨rfl, rfl⟩
set_option maxHeartbeats 1000000 in
theorem place_law_1_nil : GK 5 #[.int .i64 1, .int .i64 0] (.bool true) := by
  intro w hS
  go_enter Tryd.func5, Tryd.ntmps5
  go_wp2_with fail
  refine (place_1 0 (by omega) (by omega) _ hS).mono ?_
  rintro e w' ⟨rfl, rfl⟩
  go_wp2_with fail
  refine (rslots_1 _ hS).mono ?_
  rintro e w' ⟨rfl, rfl⟩
  go_wp2_with fail
  refine (rsize_1 _ hS).mono ?_
  rintro e w' ⟨rfl, rfl⟩
  go_wp2_with fail
  refine (awake17_any _ hS).mono ?_
  rintro e w' ⟨rfl, rfl⟩
  go_wp2
  go_ret
  exact ⟨rfl, rfl⟩
set_option maxHeartbeats 1000000 in
theorem place_law_1 (k : Int) (h1 : 1 ≤ k) (h : k < 10) : GK 5 #[.int .i64 1, .int .i64 k] (.bool true) := by
  intro w hS
  have h0 : ¬ k < 0 := by omega
  have h2 : ¬ 10 ≤ k := by omega
  have h3 : 0 < k := by omega
  have e1 : (((k - 1) * 24 + 24) == (k * 24)) = true := by rw [beq_iff_eq]; omega
  have e2 : ((k * 24) == (k * 24)) = true := beq_self_eq_true _
  have e3 : k * 24 + 24 ≤ 256 := by omega
  go_enter Tryd.func5, Tryd.ntmps5
  go_wp2_with fail
  refine (place_1 k (by omega) h _ hS).mono ?_
  rintro e w' ⟨rfl, rfl⟩
  go_wp2_with fail
  refine (rslots_1 _ hS).mono ?_
  rintro e w' ⟨rfl, rfl⟩
  go_wp2_with fail
  refine (place_1 (k - 1) (by omega) (by omega) _ hS).mono ?_
  rintro e w' ⟨rfl, rfl⟩
  go_wp2_with fail
  refine (rsize_1 _ hS).mono ?_
  rintro e w' ⟨rfl, rfl⟩
  go_wp2_with fail
  refine (awake17_any _ hS).mono ?_
  rintro e w' ⟨rfl, rfl⟩
  go_wp2
  go_ret
  exact ⟨rfl, rfl⟩
set_option maxHeartbeats 1000000 in
theorem place_law_2_out (k : Int) (h : 8 ≤ k) : GK 5 #[.int .i64 2, .int .i64 k] (.bool true) := by
  intro w hS
  have h0 : ¬ k < 0 := by omega
  go_enter Tryd.func5, Tryd.ntmps5
  go_wp2_with fail
  refine (place_high 2 k 8 (by omega) h slots_2 _ hS).mono ?_
  rintro e w' ⟨rfl, rfl⟩
  go_wp2_with fail
  refine (rslots_2 _ hS).mono ?_
  rintro e w' ⟨rfl, rfl⟩
  go_wp2_with fail
  refine (awake17_any _ hS).mono ?_
  rintro e w' ⟨rfl, rfl⟩
  go_wp2
  go_ret
  exact ⟨rfl, rfl⟩
set_option maxHeartbeats 1000000 in
theorem place_law_2_nil : GK 5 #[.int .i64 2, .int .i64 0] (.bool true) := by
  intro w hS
  go_enter Tryd.func5, Tryd.ntmps5
  go_wp2_with fail
  refine (place_2 0 (by omega) (by omega) _ hS).mono ?_
  rintro e w' ⟨rfl, rfl⟩
  go_wp2_with fail
  refine (rslots_2 _ hS).mono ?_
  rintro e w' ⟨rfl, rfl⟩
  go_wp2_with fail
  refine (rsize_2 _ hS).mono ?_
  rintro e w' ⟨rfl, rfl⟩
  go_wp2_with fail
  refine (awake17_any _ hS).mono ?_
  rintro e w' ⟨rfl, rfl⟩
  go_wp2
  go_ret
  exact ⟨rfl, rfl⟩
set_option maxHeartbeats 1000000 in
theorem place_law_2 (k : Int) (h1 : 1 ≤ k) (h : k < 8) : GK 5 #[.int .i64 2, .int .i64 k] (.bool true) := by
  intro w hS
  have h0 : ¬ k < 0 := by omega
  have h2 : ¬ 8 ≤ k := by omega
  have h3 : 0 < k := by omega
  have e1 : (((k - 1) * 32 + 32) == (k * 32)) = true := by rw [beq_iff_eq]; omega
  have e2 : ((k * 32) == (k * 32)) = true := beq_self_eq_true _
  have e3 : k * 32 + 32 ≤ 256 := by omega
  go_enter Tryd.func5, Tryd.ntmps5
  go_wp2_with fail
  refine (place_2 k (by omega) h _ hS).mono ?_
  rintro e w' ⟨rfl, rfl⟩
  go_wp2_with fail
  refine (rslots_2 _ hS).mono ?_
  rintro e w' ⟨rfl, rfl⟩
  go_wp2_with fail
  refine (place_2 (k - 1) (by omega) (by omega) _ hS).mono ?_
  rintro e w' ⟨rfl, rfl⟩
  go_wp2_with fail
  refine (rsize_2 _ hS).mono ?_
  rintro e w' ⟨rfl, rfl⟩
  go_wp2_with fail
  refine (awake17_any _ hS).mono ?_
  rintro e w' ⟨rfl, rfl⟩
  go_wp2
  go_ret
  exact ⟨rfl, rfl⟩
set_option maxHeartbeats 1000000 in
theorem place_law_3_out (k : Int) (h : 6 ≤ k) : GK 5 #[.int .i64 3, .int .i64 k] (.bool true) := by
  intro w hS
  have h0 : ¬ k < 0 := by omega
  go_enter Tryd.func5, Tryd.ntmps5
  go_wp2_with fail
  refine (place_high 3 k 6 (by omega) h slots_3 _ hS).mono ?_
  rintro e w' ⟨rfl, rfl⟩
  go_wp2_with fail
  refine (rslots_3 _ hS).mono ?_
  rintro e w' ⟨rfl, rfl⟩
  go_wp2_with fail
  refine (awake17_any _ hS).mono ?_
  rintro e w' ⟨rfl, rfl⟩
  go_wp2
  go_ret
  exact ⟨rfl, rfl⟩
set_option maxHeartbeats 1000000 in
theorem place_law_3_nil : GK 5 #[.int .i64 3, .int .i64 0] (.bool true) := by
  intro w hS
  go_enter Tryd.func5, Tryd.ntmps5
  go_wp2_with fail
  refine (place_3 0 (by omega) (by omega) _ hS).mono ?_
  rintro e w' ⟨rfl, rfl⟩
  go_wp2_with fail
  refine (rslots_3 _ hS).mono ?_
  rintro e w' ⟨rfl, rfl⟩
  go_wp2_with fail
  refine (rsize_3 _ hS).mono ?_
  rintro e w' ⟨rfl, rfl⟩
  go_wp2_with fail
  refine (awake17_any _ hS).mono ?_
  rintro e w' ⟨rfl, rfl⟩
  go_wp2
  go_ret
  exact ⟨rfl, rfl⟩
set_option maxHeartbeats 1000000 in
theorem place_law_3 (k : Int) (h1 : 1 ≤ k) (h : k < 6) : GK 5 #[.int .i64 3, .int .i64 k] (.bool true) := by
  intro w hS
  have h0 : ¬ k < 0 := by omega
  have h2 : ¬ 6 ≤ k := by omega
  have h3 : 0 < k := by omega
  have e1 : (((k - 1) * 40 + 40) == (k * 40)) = true := by rw [beq_iff_eq]; omega
  have e2 : ((k * 40) == (k * 40)) = true := beq_self_eq_true _
  have e3 : k * 40 + 40 ≤ 256 := by omega
  go_enter Tryd.func5, Tryd.ntmps5
  go_wp2_with fail
  refine (place_3 k (by omega) h _ hS).mono ?_
  rintro e w' ⟨rfl, rfl⟩
  go_wp2_with fail
  refine (rslots_3 _ hS).mono ?_
  rintro e w' ⟨rfl, rfl⟩
  go_wp2_with fail
  refine (place_3 (k - 1) (by omega) (by omega) _ hS).mono ?_
  rintro e w' ⟨rfl, rfl⟩
  go_wp2_with fail
  refine (rsize_3 _ hS).mono ?_
  rintro e w' ⟨rfl, rfl⟩
  go_wp2_with fail
  refine (awake17_any _ hS).mono ?_
  rintro e w' ⟨rfl, rfl⟩
  go_wp2
  go_ret
  exact ⟨rfl, rfl⟩
set_option maxHeartbeats 1000000 in
theorem place_law_4_out (k : Int) (h : 4 ≤ k) : GK 5 #[.int .i64 4, .int .i64 k] (.bool true) := by
  intro w hS
  have h0 : ¬ k < 0 := by omega
  go_enter Tryd.func5, Tryd.ntmps5
  go_wp2_with fail
  refine (place_high 4 k 4 (by omega) h slots_4 _ hS).mono ?_
  rintro e w' ⟨rfl, rfl⟩
  go_wp2_with fail
  refine (rslots_4 _ hS).mono ?_
  rintro e w' ⟨rfl, rfl⟩
  go_wp2_with fail
  refine (awake17_any _ hS).mono ?_
  rintro e w' ⟨rfl, rfl⟩
  go_wp2
  go_ret
  exact ⟨rfl, rfl⟩
set_option maxHeartbeats 1000000 in
theorem place_law_4_nil : GK 5 #[.int .i64 4, .int .i64 0] (.bool true) := by
  intro w hS
  go_enter Tryd.func5, Tryd.ntmps5
  go_wp2_with fail
  refine (place_4 0 (by omega) (by omega) _ hS).mono ?_
  rintro e w' ⟨rfl, rfl⟩
  go_wp2_with fail
  refine (rslots_4 _ hS).mono ?_
  rintro e w' ⟨rfl, rfl⟩
  go_wp2_with fail
  refine (rsize_4 _ hS).mono ?_
  rintro e w' ⟨rfl, rfl⟩
  go_wp2_with fail
  refine (awake17_any _ hS).mono ?_
  rintro e w' ⟨rfl, rfl⟩
  go_wp2
  go_ret
  exact ⟨rfl, rfl⟩
set_option maxHeartbeats 1000000 in
theorem place_law_4 (k : Int) (h1 : 1 ≤ k) (h : k < 4) : GK 5 #[.int .i64 4, .int .i64 k] (.bool true) := by
  intro w hS
  have h0 : ¬ k < 0 := by omega
  have h2 : ¬ 4 ≤ k := by omega
  have h3 : 0 < k := by omega
  have e1 : (((k - 1) * 56 + 56) == (k * 56)) = true := by rw [beq_iff_eq]; omega
  have e2 : ((k * 56) == (k * 56)) = true := beq_self_eq_true _
  have e3 : k * 56 + 56 ≤ 256 := by omega
  go_enter Tryd.func5, Tryd.ntmps5
  go_wp2_with fail
  refine (place_4 k (by omega) h _ hS).mono ?_
  rintro e w' ⟨rfl, rfl⟩
  go_wp2_with fail
  refine (rslots_4 _ hS).mono ?_
  rintro e w' ⟨rfl, rfl⟩
  go_wp2_with fail
  refine (place_4 (k - 1) (by omega) (by omega) _ hS).mono ?_
  rintro e w' ⟨rfl, rfl⟩
  go_wp2_with fail
  refine (rsize_4 _ hS).mono ?_
  rintro e w' ⟨rfl, rfl⟩
  go_wp2_with fail
  refine (awake17_any _ hS).mono ?_
  rintro e w' ⟨rfl, rfl⟩
  go_wp2
  go_ret
  exact ⟨rfl, rfl⟩
set_option maxHeartbeats 1000000 in
theorem place_law_5_out (k : Int) (h : 3 ≤ k) : GK 5 #[.int .i64 5, .int .i64 k] (.bool true) := by
  intro w hS
  have h0 : ¬ k < 0 := by omega
  go_enter Tryd.func5, Tryd.ntmps5
  go_wp2_with fail
  refine (place_high 5 k 3 (by omega) h slots_5 _ hS).mono ?_
  rintro e w' ⟨rfl, rfl⟩
  go_wp2_with fail
  refine (rslots_5 _ hS).mono ?_
  rintro e w' ⟨rfl, rfl⟩
  go_wp2_with fail
  refine (awake17_any _ hS).mono ?_
  rintro e w' ⟨rfl, rfl⟩
  go_wp2
  go_ret
  exact ⟨rfl, rfl⟩
set_option maxHeartbeats 1000000 in
theorem place_law_5_nil : GK 5 #[.int .i64 5, .int .i64 0] (.bool true) := by
  intro w hS
  go_enter Tryd.func5, Tryd.ntmps5
  go_wp2_with fail
  refine (place_5 0 (by omega) (by omega) _ hS).mono ?_
  rintro e w' ⟨rfl, rfl⟩
  go_wp2_with fail
  refine (rslots_5 _ hS).mono ?_
  rintro e w' ⟨rfl, rfl⟩
  go_wp2_with fail
  refine (rsize_5 _ hS).mono ?_
  rintro e w' ⟨rfl, rfl⟩
  go_wp2_with fail
  refine (awake17_any _ hS).mono ?_
  rintro e w' ⟨rfl, rfl⟩
  go_wp2
  go_ret
  exact ⟨rfl, rfl⟩
set_option maxHeartbeats 1000000 in
theorem place_law_5 (k : Int) (h1 : 1 ≤ k) (h : k < 3) : GK 5 #[.int .i64 5, .int .i64 k] (.bool true) := by
  intro w hS
  have h0 : ¬ k < 0 := by omega
  have h2 : ¬ 3 ≤ k := by omega
  have h3 : 0 < k := by omega
  have e1 : (((k - 1) * 72 + 72) == (k * 72)) = true := by rw [beq_iff_eq]; omega
  have e2 : ((k * 72) == (k * 72)) = true := beq_self_eq_true _
  have e3 : k * 72 + 72 ≤ 256 := by omega
  go_enter Tryd.func5, Tryd.ntmps5
  go_wp2_with fail
  refine (place_5 k (by omega) h _ hS).mono ?_
  rintro e w' ⟨rfl, rfl⟩
  go_wp2_with fail
  refine (rslots_5 _ hS).mono ?_
  rintro e w' ⟨rfl, rfl⟩
  go_wp2_with fail
  refine (place_5 (k - 1) (by omega) (by omega) _ hS).mono ?_
  rintro e w' ⟨rfl, rfl⟩
  go_wp2_with fail
  refine (rsize_5 _ hS).mono ?_
  rintro e w' ⟨rfl, rfl⟩
  go_wp2_with fail
  refine (awake17_any _ hS).mono ?_
  rintro e w' ⟨rfl, rfl⟩
  go_wp2
  go_ret
  exact ⟨rfl, rfl⟩
set_option maxHeartbeats 1000000 in
theorem place_law_6_out (k : Int) (h : 2 ≤ k) : GK 5 #[.int .i64 6, .int .i64 k] (.bool true) := by
  intro w hS
  have h0 : ¬ k < 0 := by omega
  go_enter Tryd.func5, Tryd.ntmps5
  go_wp2_with fail
  refine (place_high 6 k 2 (by omega) h slots_6 _ hS).mono ?_
  rintro e w' ⟨rfl, rfl⟩
  go_wp2_with fail
  refine (rslots_6 _ hS).mono ?_
  rintro e w' ⟨rfl, rfl⟩
  go_wp2_with fail
  refine (awake17_any _ hS).mono ?_
  rintro e w' ⟨rfl, rfl⟩
  go_wp2
  go_ret
  exact ⟨rfl, rfl⟩
set_option maxHeartbeats 1000000 in
theorem place_law_6_nil : GK 5 #[.int .i64 6, .int .i64 0] (.bool true) := by
  intro w hS
  go_enter Tryd.func5, Tryd.ntmps5
  go_wp2_with fail
  refine (place_6 0 (by omega) (by omega) _ hS).mono ?_
  rintro e w' ⟨rfl, rfl⟩
  go_wp2_with fail
  refine (rslots_6 _ hS).mono ?_
  rintro e w' ⟨rfl, rfl⟩
  go_wp2_with fail
  refine (rsize_6 _ hS).mono ?_
  rintro e w' ⟨rfl, rfl⟩
  go_wp2_with fail
  refine (awake17_any _ hS).mono ?_
  rintro e w' ⟨rfl, rfl⟩
  go_wp2
  go_ret
  exact ⟨rfl, rfl⟩
set_option maxHeartbeats 1000000 in
theorem place_law_6 (k : Int) (h1 : 1 ≤ k) (h : k < 2) : GK 5 #[.int .i64 6, .int .i64 k] (.bool true) := by
  intro w hS
  have h0 : ¬ k < 0 := by omega
  have h2 : ¬ 2 ≤ k := by omega
  have h3 : 0 < k := by omega
  have e1 : (((k - 1) * 104 + 104) == (k * 104)) = true := by rw [beq_iff_eq]; omega
  have e2 : ((k * 104) == (k * 104)) = true := beq_self_eq_true _
  have e3 : k * 104 + 104 ≤ 256 := by omega
  go_enter Tryd.func5, Tryd.ntmps5
  go_wp2_with fail
  refine (place_6 k (by omega) h _ hS).mono ?_
  rintro e w' ⟨rfl, rfl⟩
  go_wp2_with fail
  refine (rslots_6 _ hS).mono ?_
  rintro e w' ⟨rfl, rfl⟩
  go_wp2_with fail
  refine (place_6 (k - 1) (by omega) (by omega) _ hS).mono ?_
  rintro e w' ⟨rfl, rfl⟩
  go_wp2_with fail
  refine (rsize_6 _ hS).mono ?_
  rintro e w' ⟨rfl, rfl⟩
  go_wp2_with fail
  refine (awake17_any _ hS).mono ?_
  rintro e w' ⟨rfl, rfl⟩
  go_wp2
  go_ret
  exact ⟨rfl, rfl⟩
set_option maxHeartbeats 1000000 in
theorem place_law_7_out (k : Int) (h : 2 ≤ k) : GK 5 #[.int .i64 7, .int .i64 k] (.bool true) := by
  intro w hS
  have h0 : ¬ k < 0 := by omega
  go_enter Tryd.func5, Tryd.ntmps5
  go_wp2_with fail
  refine (place_high 7 k 2 (by omega) h slots_7 _ hS).mono ?_
  rintro e w' ⟨rfl, rfl⟩
  go_wp2_with fail
  refine (rslots_7 _ hS).mono ?_
  rintro e w' ⟨rfl, rfl⟩
  go_wp2_with fail
  refine (awake17_any _ hS).mono ?_
  rintro e w' ⟨rfl, rfl⟩
  go_wp2
  go_ret
  exact ⟨rfl, rfl⟩
set_option maxHeartbeats 1000000 in
theorem place_law_7_nil : GK 5 #[.int .i64 7, .int .i64 0] (.bool true) := by
  intro w hS
  go_enter Tryd.func5, Tryd.ntmps5
  go_wp2_with fail
  refine (place_7 0 (by omega) (by omega) _ hS).mono ?_
  rintro e w' ⟨rfl, rfl⟩
  go_wp2_with fail
  refine (rslots_7 _ hS).mono ?_
  rintro e w' ⟨rfl, rfl⟩
  go_wp2_with fail
  refine (rsize_7 _ hS).mono ?_
  rintro e w' ⟨rfl, rfl⟩
  go_wp2_with fail
  refine (awake17_any _ hS).mono ?_
  rintro e w' ⟨rfl, rfl⟩
  go_wp2
  go_ret
  exact ⟨rfl, rfl⟩
set_option maxHeartbeats 1000000 in
theorem place_law_7 (k : Int) (h1 : 1 ≤ k) (h : k < 2) : GK 5 #[.int .i64 7, .int .i64 k] (.bool true) := by
  intro w hS
  have h0 : ¬ k < 0 := by omega
  have h2 : ¬ 2 ≤ k := by omega
  have h3 : 0 < k := by omega
  have e1 : (((k - 1) * 128 + 128) == (k * 128)) = true := by rw [beq_iff_eq]; omega
  have e2 : ((k * 128) == (k * 128)) = true := beq_self_eq_true _
  have e3 : k * 128 + 128 ≤ 256 := by omega
  go_enter Tryd.func5, Tryd.ntmps5
  go_wp2_with fail
  refine (place_7 k (by omega) h _ hS).mono ?_
  rintro e w' ⟨rfl, rfl⟩
  go_wp2_with fail
  refine (rslots_7 _ hS).mono ?_
  rintro e w' ⟨rfl, rfl⟩
  go_wp2_with fail
  refine (place_7 (k - 1) (by omega) (by omega) _ hS).mono ?_
  rintro e w' ⟨rfl, rfl⟩
  go_wp2_with fail
  refine (rsize_7 _ hS).mono ?_
  rintro e w' ⟨rfl, rfl⟩
  go_wp2_with fail
  refine (awake17_any _ hS).mono ?_
  rintro e w' ⟨rfl, rfl⟩
  go_wp2
  go_ret
  exact ⟨rfl, rfl⟩
theorem classPlace_any (c k : Int) : GK 5 #[.int .i64 c, .int .i64 k] (.bool true) := by
  by_cases hc : c < 0 ∨ 8 ≤ c
  · have HP : GK 16 #[.int .i64 c, .int .i64 k] (.tuple #[.int .i64 0, .int .i64 0, .bool false]) := by
      by_cases hk : k < 0
      · exact place_low c k hk
      · exact place_high c k 0 (by omega) (by omega) (slots_out c hc)
    rcases hc with h | h
    · exact place_law_cneg c k h HP
    · exact place_law_chigh c k (by omega) HP
  · by_cases hk : k < 0
    · exact place_law_kneg c k (by omega) (by omega) hk
    · rcases (by omega : c = 0 ∨ c = 1 ∨ c = 2 ∨ c = 3 ∨ c = 4 ∨ c = 5 ∨ c = 6 ∨ c = 7) with rfl | rfl | rfl | rfl | rfl | rfl | rfl | rfl
      · rcases (by omega : 16 ≤ k ∨ k = 0 ∨ (1 ≤ k ∧ k < 16)) with h | rfl | ⟨h1, h2⟩
        · exact place_law_0_out k h
        · exact place_law_0_nil
        · exact place_law_0 k h1 h2
      · rcases (by omega : 10 ≤ k ∨ k = 0 ∨ (1 ≤ k ∧ k < 10)) with h | rfl | ⟨h1, h2⟩
        · exact place_law_1_out k h
        · exact place_law_1_nil
        · exact place_law_1 k h1 h2
      · rcases (by omega : 8 ≤ k ∨ k = 0 ∨ (1 ≤ k ∧ k < 8)) with h | rfl | ⟨h1, h2⟩
        · exact place_law_2_out k h
        · exact place_law_2_nil
        · exact place_law_2 k h1 h2
      · rcases (by omega : 6 ≤ k ∨ k = 0 ∨ (1 ≤ k ∧ k < 6)) with h | rfl | ⟨h1, h2⟩
        · exact place_law_3_out k h
        · exact place_law_3_nil
        · exact place_law_3 k h1 h2
      · rcases (by omega : 4 ≤ k ∨ k = 0 ∨ (1 ≤ k ∧ k < 4)) with h | rfl | ⟨h1, h2⟩
        · exact place_law_4_out k h
        · exact place_law_4_nil
        · exact place_law_4 k h1 h2
      · rcases (by omega : 3 ≤ k ∨ k = 0 ∨ (1 ≤ k ∧ k < 3)) with h | rfl | ⟨h1, h2⟩
        · exact place_law_5_out k h
        · exact place_law_5_nil
        · exact place_law_5 k h1 h2
      · rcases (by omega : 2 ≤ k ∨ k = 0 ∨ (1 ≤ k ∧ k < 2)) with h | rfl | ⟨h1, h2⟩
        · exact place_law_6_out k h
        · exact place_law_6_nil
        · exact place_law_6 k h1 h2
      · rcases (by omega : 2 ≤ k ∨ k = 0 ∨ (1 ≤ k ∧ k < 2)) with h | rfl | ⟨h1, h2⟩
        · exact place_law_7_out k h
        · exact place_law_7_nil
        · exact place_law_7 k h1 h2
theorem and7 (c : Int) : ∃ r : Nat, r < 8 ∧ bits BinOp.and .i64 c 7 = (r : Int) := by
  have h : (BitVec.ofInt 64 c &&& BitVec.ofInt 64 7).toNat ≤ 7 := by
    rw [BitVec.toNat_and]
    exact Nat.and_le_right
  refine ⟨(BitVec.ofInt 64 c &&& BitVec.ofInt 64 7).toNat, by omega, ?_⟩
  show IntKind.i64.wrap (((BitVec.ofInt 64 c &&& BitVec.ofInt 64 7).toNat : Nat) : Int) = _
  exact IntWalk.i64_in _ (by omega)
set_option maxHeartbeats 1000000 in
theorem tight_0 (c : Int) (h : bits BinOp.and .i64 c 7 = 0) : GK 6 #[.int .i64 c] (.bool true) := by
  intro w hS
  go_enter Tryd.func6, Tryd.ntmps6
  go_wp2_with fail
  refine (slots_0 _ hS).mono ?_
  rintro e w' ⟨rfl, rfl⟩
  go_wp2_with fail
  refine (size_0 _ hS).mono ?_
  rintro e w' ⟨rfl, rfl⟩
  go_wp2_with fail
  refine (size_0 _ hS).mono ?_
  rintro e w' ⟨rfl, rfl⟩
  go_wp2_with fail
  refine (awake17_any _ hS).mono ?_
  rintro e w' ⟨rfl, rfl⟩
  go_wp2
  go_ret
  exact ⟨rfl, rfl⟩
set_option maxHeartbeats 1000000 in
theorem tight_1 (c : Int) (h : bits BinOp.and .i64 c 7 = 1) : GK 6 #[.int .i64 c] (.bool true) := by
  intro w hS
  go_enter Tryd.func6, Tryd.ntmps6
  go_wp2_with fail
  refine (slots_1 _ hS).mono ?_
  rintro e w' ⟨rfl, rfl⟩
  go_wp2_with fail
  refine (size_1 _ hS).mono ?_
  rintro e w' ⟨rfl, rfl⟩
  go_wp2_with fail
  refine (size_1 _ hS).mono ?_
  rintro e w' ⟨rfl, rfl⟩
  go_wp2_with fail
  refine (size_1 _ hS).mono ?_
  rintro e w' ⟨rfl, rfl⟩
  go_wp2_with fail
  refine (size_0 _ hS).mono ?_
  rintro e w' ⟨rfl, rfl⟩
  go_wp2_with fail
  refine (awake17_any _ hS).mono ?_
  rintro e w' ⟨rfl, rfl⟩
  go_wp2
  go_ret
  exact ⟨rfl, rfl⟩
set_option maxHeartbeats 1000000 in
theorem tight_2 (c : Int) (h : bits BinOp.and .i64 c 7 = 2) : GK 6 #[.int .i64 c] (.bool true) := by
  intro w hS
  go_enter Tryd.func6, Tryd.ntmps6
  go_wp2_with fail
  refine (slots_2 _ hS).mono ?_
  rintro e w' ⟨rfl, rfl⟩
  go_wp2_with fail
  refine (size_2 _ hS).mono ?_
  rintro e w' ⟨rfl, rfl⟩
  go_wp2_with fail
  refine (size_2 _ hS).mono ?_
  rintro e w' ⟨rfl, rfl⟩
  go_wp2_with fail
  refine (size_2 _ hS).mono ?_
  rintro e w' ⟨rfl, rfl⟩
  go_wp2_with fail
  refine (size_1 _ hS).mono ?_
  rintro e w' ⟨rfl, rfl⟩
  go_wp2_with fail
  refine (awake17_any _ hS).mono ?_
  rintro e w' ⟨rfl, rfl⟩
  go_wp2
  go_ret
  exact ⟨rfl, rfl⟩
set_option maxHeartbeats 1000000 in
theorem tight_3 (c : Int) (h : bits BinOp.and .i64 c 7 = 3) : GK 6 #[.int .i64 c] (.bool true) := by
  intro w hS
  go_enter Tryd.func6, Tryd.ntmps6
  go_wp2_with fail
  refine (slots_3 _ hS).mono ?_
  rintro e w' ⟨rfl, rfl⟩
  go_wp2_with fail
  refine (size_3 _ hS).mono ?_
  rintro e w' ⟨rfl, rfl⟩
  go_wp2_with fail
  refine (size_3 _ hS).mono ?_
  rintro e w' ⟨rfl, rfl⟩
  go_wp2_with fail
  refine (size_3 _ hS).mono ?_
  rintro e w' ⟨rfl, rfl⟩
  go_wp2_with fail
  refine (size_2 _ hS).mono ?_
  rintro e w' ⟨rfl, rfl⟩
  go_wp2_with fail
  refine (awake17_any _ hS).mono ?_
  rintro e w' ⟨rfl, rfl⟩
  go_wp2
  go_ret
  exact ⟨rfl, rfl⟩
set_option maxHeartbeats 1000000 in
theorem tight_4 (c : Int) (h : bits BinOp.and .i64 c 7 = 4) : GK 6 #[.int .i64 c] (.bool true) := by
  intro w hS
  go_enter Tryd.func6, Tryd.ntmps6
  go_wp2_with fail
  refine (slots_4 _ hS).mono ?_
  rintro e w' ⟨rfl, rfl⟩
  go_wp2_with fail
  refine (size_4 _ hS).mono ?_
  rintro e w' ⟨rfl, rfl⟩
  go_wp2_with fail
  refine (size_4 _ hS).mono ?_
  rintro e w' ⟨rfl, rfl⟩
  go_wp2_with fail
  refine (size_4 _ hS).mono ?_
  rintro e w' ⟨rfl, rfl⟩
  go_wp2_with fail
  refine (size_3 _ hS).mono ?_
  rintro e w' ⟨rfl, rfl⟩
  go_wp2_with fail
  refine (awake17_any _ hS).mono ?_
  rintro e w' ⟨rfl, rfl⟩
  go_wp2
  go_ret
  exact ⟨rfl, rfl⟩
set_option maxHeartbeats 1000000 in
theorem tight_5 (c : Int) (h : bits BinOp.and .i64 c 7 = 5) : GK 6 #[.int .i64 c] (.bool true) := by
  intro w hS
  go_enter Tryd.func6, Tryd.ntmps6
  go_wp2_with fail
  refine (slots_5 _ hS).mono ?_
  rintro e w' ⟨rfl, rfl⟩
  go_wp2_with fail
  refine (size_5 _ hS).mono ?_
  rintro e w' ⟨rfl, rfl⟩
  go_wp2_with fail
  refine (size_5 _ hS).mono ?_
  rintro e w' ⟨rfl, rfl⟩
  go_wp2_with fail
  refine (size_5 _ hS).mono ?_
  rintro e w' ⟨rfl, rfl⟩
  go_wp2_with fail
  refine (size_4 _ hS).mono ?_
  rintro e w' ⟨rfl, rfl⟩
  go_wp2_with fail
  refine (awake17_any _ hS).mono ?_
  rintro e w' ⟨rfl, rfl⟩
  go_wp2
  go_ret
  exact ⟨rfl, rfl⟩
set_option maxHeartbeats 1000000 in
theorem tight_6 (c : Int) (h : bits BinOp.and .i64 c 7 = 6) : GK 6 #[.int .i64 c] (.bool true) := by
  intro w hS
  go_enter Tryd.func6, Tryd.ntmps6
  go_wp2_with fail
  refine (slots_6 _ hS).mono ?_
  rintro e w' ⟨rfl, rfl⟩
  go_wp2_with fail
  refine (size_6 _ hS).mono ?_
  rintro e w' ⟨rfl, rfl⟩
  go_wp2_with fail
  refine (size_6 _ hS).mono ?_
  rintro e w' ⟨rfl, rfl⟩
  go_wp2_with fail
  refine (size_6 _ hS).mono ?_
  rintro e w' ⟨rfl, rfl⟩
  go_wp2_with fail
  refine (size_5 _ hS).mono ?_
  rintro e w' ⟨rfl, rfl⟩
  go_wp2_with fail
  refine (awake17_any _ hS).mono ?_
  rintro e w' ⟨rfl, rfl⟩
  go_wp2
  go_ret
  exact ⟨rfl, rfl⟩
set_option maxHeartbeats 1000000 in
theorem tight_7 (c : Int) (h : bits BinOp.and .i64 c 7 = 7) : GK 6 #[.int .i64 c] (.bool true) := by
  intro w hS
  go_enter Tryd.func6, Tryd.ntmps6
  go_wp2_with fail
  refine (slots_7 _ hS).mono ?_
  rintro e w' ⟨rfl, rfl⟩
  go_wp2_with fail
  refine (size_7 _ hS).mono ?_
  rintro e w' ⟨rfl, rfl⟩
  go_wp2_with fail
  refine (size_7 _ hS).mono ?_
  rintro e w' ⟨rfl, rfl⟩
  go_wp2_with fail
  refine (size_7 _ hS).mono ?_
  rintro e w' ⟨rfl, rfl⟩
  go_wp2_with fail
  refine (size_6 _ hS).mono ?_
  rintro e w' ⟨rfl, rfl⟩
  go_wp2_with fail
  refine (awake17_any _ hS).mono ?_
  rintro e w' ⟨rfl, rfl⟩
  go_wp2
  go_ret
  exact ⟨rfl, rfl⟩
theorem classTight_any (c : Int) : GK 6 #[.int .i64 c] (.bool true) := by
  obtain ⟨r, hr, h⟩ := and7 c
  rcases (by omega : r = 0 ∨ r = 1 ∨ r = 2 ∨ r = 3 ∨ r = 4 ∨ r = 5 ∨ r = 6 ∨ r = 7) with rfl | rfl | rfl | rfl | rfl | rfl | rfl | rfl
  · exact tight_0 c h
  · exact tight_1 c h
  · exact tight_2 c h
  · exact tight_3 c h
  · exact tight_4 c h
  · exact tight_5 c h
  · exact tight_6 c h
  · exact tight_7 c h
/-! the variable -/
def laidS : List (String × DataW Unit) := [("garderobe/class.sizes", Rows.laid_garderobe_class_sizes)]
theorem sizes_var {W : World} (h : laidMetH Tryd.prog laidS W) : W.var? Tryd.prog "garderobe/class.sizes" = some szV := by
  rw [MakeChecks.laidMetH_plain _ _ _ (by kernel_rfl)] at h
  obtain ⟨ps, ⟨g, t, cs, fuel, p, q, hg, ht, hv, hd, _, _⟩, _, _⟩ := h
  obtain rfl := Option.some.inj ((show Tryd.prog.globalNamed "garderobe/class.sizes" = some 0 by kernel_rfl).symm.trans hg)
  obtain rfl := Option.some.inj ((show (Tryd.prog.globals[0]?).map (·.type) = some 30 by kernel_rfl).symm.trans ht)
  have c5 : Tryd.prog.cellsOf 3 = 1 := by kernel_rfl
  have c29 : Tryd.prog.cellsOf 30 = 8 := by kernel_rfl
  obtain ⟨xs, m, _, ex, hlen, hl, hel⟩ := DataW.trod_array Tryd.underlying30 hd
  rw [c29] at hlen
  obtain ⟨l⟩ := cs
  match l, hlen with
  | [a0, a1, a2, a3, a4, a5, a6, a7], _ =>
    match xs, hl with
    | [x0, x1, x2, x3, x4, x5, x6, x7], _ =>
      have e3 := (DataW.agg.inj (Prod.mk.inj ex).1)
      simp only [List.map_cons, List.map_nil, List.cons.injEq, and_true] at e3
      have k0 := hel 0 (by omega)
      rw [c5] at k0
      obtain ⟨z0, b0, d0, _⟩ := DataW.trod_int Tryd.underlying3 k0
      have k1 := hel 1 (by omega)
      rw [c5] at k1
      obtain ⟨z1, b1, d1, _⟩ := DataW.trod_int Tryd.underlying3 k1
      have k2 := hel 2 (by omega)
      rw [c5] at k2
      obtain ⟨z2, b2, d2, _⟩ := DataW.trod_int Tryd.underlying3 k2
      have k3 := hel 3 (by omega)
      rw [c5] at k3
      obtain ⟨z3, b3, d3, _⟩ := DataW.trod_int Tryd.underlying3 k3
      have k4 := hel 4 (by omega)
      rw [c5] at k4
      obtain ⟨z4, b4, d4, _⟩ := DataW.trod_int Tryd.underlying3 k4
      have k5 := hel 5 (by omega)
      rw [c5] at k5
      obtain ⟨z5, b5, d5, _⟩ := DataW.trod_int Tryd.underlying3 k5
      have k6 := hel 6 (by omega)
      rw [c5] at k6
      obtain ⟨z6, b6, d6, _⟩ := DataW.trod_int Tryd.underlying3 k6
      have k7 := hel 7 (by omega)
      rw [c5] at k7
      obtain ⟨z7, b7, d7, _⟩ := DataW.trod_int Tryd.underlying3 k7
      rw [hv]
      unfold szV
      simp_all
theorem sizes_is {W : World} (h : laidMetH Tryd.prog laidS W) : SZ W := by
  have hv := sizes_var h
  have hg : Tryd.prog.globalNamed "garderobe/class.sizes" = some 0 := by kernel_rfl
  simp only [World.var?, hg, Option.bind_some] at hv
  split at hv
  · rename_i cs t m hb
    injection hv with hv
    exact ⟨cs, t, m, hb, hv⟩
  · cases hv
theorem GK.below {f : FuncId} {args : Array Value} {v : Value} (h : GK f args v) {w : World} (hS : SZ w) : Calls Tryd.prog f args w fun e w' => e = .returned v ∧ Below w.heap.size w w' :=
  (h w hS).mono fun _ _ ⟨he, hw⟩ => ⟨he, hw ▸ Below.refl _ _⟩
end Go.Proofs.YtibkidljcgpinaaDoor
