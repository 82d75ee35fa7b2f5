/-
  ShaTable's walk.
-/
import Derived.Test.YtcioonadjmkbcaaShaQ
import Derived.Test.YtcioonadjmkbcaaShaH
namespace Go.Proofs.Ytcioonadjmkbcaa
open Go.RowKit Go
set_option linter.unusedVariables false
theorem plain_u32 : Try.prog.plainKey 24 = true := by kernel_rfl
theorem cells_u32 : Try.prog.cellsOf 24 = 1 := by kernel_rfl
theorem info_u32 : (Try.prog.info? 24).isSome = true := by kernel_rfl
theorem first_at {k : Nat} (h : k < 8) : Sha.first.at_ k = Sha.H0.getD k 0 := by
  rcases (by omega : k = 0 ∨ k = 1 ∨ k = 2 ∨ k = 3 ∨ k = 4 ∨ k = 5 ∨ k = 6 ∨ k = 7) with rfl | rfl | rfl | rfl | rfl | rfl | rfl | rfl <;> rfl
attribute [local irreducible] prI Sha.K Sha.H0
set_option maxHeartbeats 2000000 in
set_option maxRecDepth 100000 in
theorem table_low (k : Nat) (hk : k < 8) (w : World) : Calls Try.prog 3 #[.int .i64 (k : Int)] w fun e w' => e = .returned (.bool true) ∧ Below w.heap.size w w' := by
  go_enter Try.func3, Try.ntmps3
  go_wp2_with fail
  refine (make_any _).mono ?_
  rintro e w1 ⟨rfl, hb1, ht1⟩
  have HB1 := Lib.hid hb1
  have HT1 := Lib.hid ht1
  clear hb1 ht1
  go_wp2_with fail
  refine (words_any _).mono ?_
  rintro e w2 ⟨rfl, hb2, hr2⟩
  have kc := Row.cell hr2 (i := k) (by omega)
  unfold kF at kc
  have HT2 := Lib.hid (Row.below HT1.out hb2 (Row.lt HT1.out))
  have HB2 : Hid (Below w.heap.size w w2) := Lib.hid (HB1.out.trans (hb2.mono HB1.out.size))
  clear hb2 hr2
  have HWX := Lib.hid (fun W => word_in w.heap.size k (by omega) W)
  generalize hx : Sha.K.getD k 0 = x at kc HWX
  clear hx
  go_wp2_with fail
  refine (firsts_any _).mono ?_
  rintro e w3 ⟨rfl, hb3⟩
  have HT3 := Lib.hid (Row.below HT2.out hb3 (Row.lt HT2.out))
  have HB3 : Hid (Below w.heap.size w w3) := Lib.hid (HB2.out.trans (hb3.mono HB2.out.size))
  have hat : Sha.first.at_ k = Sha.H0.getD k 0 := first_at hk
  have hi : ∀ W : World, (Instr.index 27 (.agg (stA Sha.first)) (.int .i64 (k : Int))).run Try.prog W = .ok (.int .u32 ((Sha.first.at_ k : Nat) : Int)) W := fun W =>
    run_index_arr 27 24 8 _ k _ W Try.underlying27 plain_u32 cells_u32 info_u32 hk (stA_at _ hk)
  rw [hat] at hi
  have HF := Lib.hid (first_in w.heap.size k hk)
  generalize hy : Sha.H0.getD k 0 = y at hi HF
  clear hb3 kc hat hy
  go_wp2_with fail
  refine (HWX.out _ HT3.out).mono ?_
  rintro e w5 ⟨rfl, rfl⟩
  go_wp2_with fail
  refine (HF.out _ HT3.out).mono ?_
  rintro e w5 ⟨rfl, rfl⟩
  go_wp2_with fail
  refine (Prime_any _ _).mono ?_
  rintro e w5 ⟨rfl, rfl⟩
  go_wp2_with fail
  refine (refPrime_any _ _).mono ?_
  rintro e w5 ⟨rfl, rfl⟩
  go_wp2_with fail
  refine (awake_any _).mono ?_
  rintro e w6 ⟨rfl, hb6⟩
  have HB6 : Hid (Below w.heap.size w w6) := Lib.hid (HB3.out.trans (hb6.mono HB3.out.size))
  clear hb6
  go_wp2
  go_ret
  exact ⟨rfl, HB6.out⟩
set_option maxHeartbeats 2000000 in
set_option maxRecDepth 100000 in
theorem table_mid (k : Nat) (hk : 8 ≤ k ∧ k < 64) (w : World) : Calls Try.prog 3 #[.int .i64 (k : Int)] w fun e w' => e = .returned (.bool true) ∧ Below w.heap.size w w' := by
  go_enter Try.func3, Try.ntmps3
  go_wp2_with fail
  refine (make_any _).mono ?_
  rintro e w1 ⟨rfl, hb1, ht1⟩
  have HB1 := Lib.hid hb1
  have HT1 := Lib.hid ht1
  clear hb1 ht1
  go_wp2_with fail
  refine (words_any _).mono ?_
  rintro e w2 ⟨rfl, hb2, hr2⟩
  have kc := Row.cell hr2 (i := k) (by omega)
  unfold kF at kc
  have HT2 := Lib.hid (Row.below HT1.out hb2 (Row.lt HT1.out))
  have HB2 : Hid (Below w.heap.size w w2) := Lib.hid (HB1.out.trans (hb2.mono HB1.out.size))
  clear hb2 hr2
  have HWX := Lib.hid (fun W => word_in w.heap.size k (by omega) W)
  generalize hx : Sha.K.getD k 0 = x at kc HWX
  clear hx
  go_wp2_with fail
  refine (HWX.out _ HT2.out).mono ?_
  rintro e w5 ⟨rfl, rfl⟩
  go_wp2_with fail
  refine (first_out w.heap.size _ (by omega) _).mono ?_
  rintro e w5 ⟨rfl, rfl⟩
  go_wp2_with fail
  refine (Prime_any _ _).mono ?_
  rintro e w5 ⟨rfl, rfl⟩
  go_wp2_with fail
  refine (refPrime_any _ _).mono ?_
  rintro e w5 ⟨rfl, rfl⟩
  go_wp2_with fail
  refine (awake_any _).mono ?_
  rintro e w6 ⟨rfl, hb6⟩
  have HB6 : Hid (Below w.heap.size w w6) := Lib.hid (HB2.out.trans (hb6.mono HB2.out.size))
  clear hb6
  go_wp2
  go_ret
  exact ⟨rfl, HB6.out⟩
set_option maxHeartbeats 2000000 in
set_option maxRecDepth 100000 in
theorem table_neg (k : Int) (hk : k < 0) (w : World) : Calls Try.prog 3 #[.int .i64 k] w fun e w' => e = .returned (.bool true) ∧ Below w.heap.size w w' := by
  have h0 : k < 0 := hk
  go_enter Try.func3, Try.ntmps3
  go_wp2_with fail
  refine (make_any _).mono ?_
  rintro e w1 ⟨rfl, hb1, ht1⟩
  have HB1 := Lib.hid hb1
  have HT1 := Lib.hid ht1
  clear hb1 ht1
  go_wp2_with fail
  refine (word_out w.heap.size k (.inl hk) _).mono ?_
  rintro e w5 ⟨rfl, rfl⟩
  go_wp2_with fail
  refine (first_out w.heap.size _ (by omega) _).mono ?_
  rintro e w5 ⟨rfl, rfl⟩
  go_wp2_with fail
  refine (Prime_any _ _).mono ?_
  rintro e w5 ⟨rfl, rfl⟩
  go_wp2_with fail
  refine (refPrime_any _ _).mono ?_
  rintro e w5 ⟨rfl, rfl⟩
  go_wp2_with fail
  refine (awake_any _).mono ?_
  rintro e w6 ⟨rfl, hb6⟩
  have HB6 : Hid (Below w.heap.size w w6) := Lib.hid (HB1.out.trans (hb6.mono HB1.out.size))
  clear hb6
  go_wp2
  go_ret
  exact ⟨rfl, HB6.out⟩
set_option maxHeartbeats 2000000 in
set_option maxRecDepth 100000 in
theorem table_high (k : Int) (hk : 64 ≤ k) (w : World) : Calls Try.prog 3 #[.int .i64 k] w fun e w' => e = .returned (.bool true) ∧ Below w.heap.size w w' := by
  go_enter Try.func3, Try.ntmps3
  go_wp2_with fail
  refine (make_any _).mono ?_
  rintro e w1 ⟨rfl, hb1, ht1⟩
  have HB1 := Lib.hid hb1
  have HT1 := Lib.hid ht1
  clear hb1 ht1
  go_wp2_with fail
  refine (word_out w.heap.size k (.inr hk) _).mono ?_
  rintro e w5 ⟨rfl, rfl⟩
  go_wp2_with fail
  refine (first_out w.heap.size _ (by omega) _).mono ?_
  rintro e w5 ⟨rfl, rfl⟩
  go_wp2_with fail
  refine (Prime_any _ _).mono ?_
  rintro e w5 ⟨rfl, rfl⟩
  go_wp2_with fail
  refine (refPrime_any _ _).mono ?_
  rintro e w5 ⟨rfl, rfl⟩
  go_wp2_with fail
  refine (awake_any _).mono ?_
  rintro e w6 ⟨rfl, hb6⟩
  have HB6 : Hid (Below w.heap.size w w6) := Lib.hid (HB1.out.trans (hb6.mono HB1.out.size))
  clear hb6
  go_wp2
  go_ret
  exact ⟨rfl, HB6.out⟩
theorem table_any (k : Int) (w : World) : Calls Try.prog 3 #[.int .i64 k] w fun e w' => e = .returned (.bool true) ∧ Below w.heap.size w w' := by
  by_cases h0 : k < 0
  · exact table_neg k h0 w
  · by_cases h1 : 64 ≤ k
    · exact table_high k h1 w
    · obtain ⟨n, rfl⟩ : ∃ n : Nat, k = (n : Int) := ⟨k.toNat, by omega⟩
      by_cases h2 : n < 8
      · exact table_low n h2 w
      · exact table_mid n (by omega) w
end Go.Proofs.Ytcioonadjmkbcaa
