/-
  Package garderoberef27: May.
-/
import Derived.Test.YtcaogiaoabdkdaaDoorZScC
import Derived.Deep.RegionHeld3
namespace Go.Proofs.YtcaogiaoabdkdaaDoor
open Go.RowKit Go
set_option linter.unusedVariables false
set_option linter.unusedSimpArgs false
set_option maxRecDepth 100000
theorem may_box (w : World) (o : Obj) : Below w.heap.size w (w.alloc o) := (Below.refl _ _).alloc (Nat.le_refl _) _
set_option maxHeartbeats 8000000 in
theorem rmay_in (k : Nat) (hk : k < 20) (y : Bool) (z1 z2 z3 z4 : Int) (A : Option Addr) (n c : Nat) (hn : n ≤ 1024) (b : List Nat) (hbn : b.length = n) (w : World) :
    Calls Tryd.prog 19 #[.agg #[.int .i64 (k : Int), .bool y, .int .i64 z1, .int .i64 z2, .int .i64 z3, .int .i64 z4, .slice A n c]] w fun e w' => e = .returned (.bool (mayN' ⟨(k : Int), y, z1, z2, z3, z4, b⟩)) ∧ Below w.heap.size w w' := by
  have HS1 : Hid (∀ w, Calls Tryd.prog 39 #[.int .i64 (k : Int), .int .u8 119] w fun e w' => e = .returned (.bool (hasF (k : Int) 119)) ∧ w' = w) := Lib.hid (fun w => (has_any k hk 119 w).mono fun _ _ h => ⟨h.1, h.2.symm⟩)
  have HS2 : Hid (∀ w, Calls Tryd.prog 39 #[.int .i64 (k : Int), .int .u8 107] w fun e w' => e = .returned (.bool (hasF (k : Int) 107)) ∧ w' = w) := Lib.hid (fun w => (has_any k hk 107 w).mono fun _ _ h => ⟨h.1, h.2.symm⟩)
  have HS3 : Hid (∀ w, Calls Tryd.prog 39 #[.int .i64 (k : Int), .int .u8 110] w fun e w' => e = .returned (.bool (hasF (k : Int) 110)) ∧ w' = w) := Lib.hid (fun w => (has_any k hk 110 w).mono fun _ _ h => ⟨h.1, h.2.symm⟩)
  have HS4 : Hid (∀ w, Calls Tryd.prog 39 #[.int .i64 (k : Int), .int .u8 97] w fun e w' => e = .returned (.bool (hasF (k : Int) 97)) ∧ w' = w) := Lib.hid (fun w => (has_any k hk 97 w).mono fun _ _ h => ⟨h.1, h.2.symm⟩)
  have HS5 : Hid (∀ w, Calls Tryd.prog 39 #[.int .i64 (k : Int), .int .u8 121] w fun e w' => e = .returned (.bool (hasF (k : Int) 121)) ∧ w' = w) := Lib.hid (fun w => (has_any k hk 121 w).mono fun _ _ h => ⟨h.1, h.2.symm⟩)
  have HS6 : Hid (∀ w, Calls Tryd.prog 39 #[.int .i64 (k : Int), .int .u8 98] w fun e w' => e = .returned (.bool (hasF (k : Int) 98)) ∧ w' = w) := Lib.hid (fun w => (has_any k hk 98 w).mono fun _ _ h => ⟨h.1, h.2.symm⟩)
  have HP1 : Hid (∀ w, Calls Tryd.prog 38 #[.int .i64 z1, .bool (hasF (k : Int) 119)] w fun e w' => e = .returned (.bool (numF z1 (hasF (k : Int) 119))) ∧ w' = w) := Lib.hid (fun w => (num_ok z1 (hasF (k : Int) 119) w).mono fun _ _ h => ⟨h.1, h.2.symm⟩)
  have HP2 : Hid (∀ w, Calls Tryd.prog 38 #[.int .i64 z2, .bool (hasF (k : Int) 107)] w fun e w' => e = .returned (.bool (numF z2 (hasF (k : Int) 107))) ∧ w' = w) := Lib.hid (fun w => (num_ok z2 (hasF (k : Int) 107) w).mono fun _ _ h => ⟨h.1, h.2.symm⟩)
  have HP3 : Hid (∀ w, Calls Tryd.prog 38 #[.int .i64 z3, .bool (hasF (k : Int) 110)] w fun e w' => e = .returned (.bool (numF z3 (hasF (k : Int) 110))) ∧ w' = w) := Lib.hid (fun w => (num_ok z3 (hasF (k : Int) 110) w).mono fun _ _ h => ⟨h.1, h.2.symm⟩)
  have HP4 : Hid (∀ w, Calls Tryd.prog 38 #[.int .i64 z4, .bool (hasF (k : Int) 97)] w fun e w' => e = .returned (.bool (numF z4 (hasF (k : Int) 97))) ∧ w' = w) := Lib.hid (fun w => (num_ok z4 (hasF (k : Int) 97) w).mono fun _ _ h => ⟨h.1, h.2.symm⟩)
  have HM : Hid (mayN' ⟨(k : Int), y, z1, z2, z3, z4, b⟩ = (numF z1 (hasF (k : Int) 119) && (numF z2 (hasF (k : Int) 107) && (numF z3 (hasF (k : Int) 110) && (numF z4 (hasF (k : Int) 97) && ((!y || hasF (k : Int) 121) && (decide (n = 0) || hasF (k : Int) 98))))))) := Lib.hid (by rw [← hbn]; rfl)
  have hk9 : (k : Int) ≤ 19 := by omega
  have HBN := Lib.hid (fun m => below_drewN (may_box w (.cells #[.int .i64 (k : Int), .bool y, .int .i64 z1, .int .i64 z2, .int .i64 z3, .int .i64 z4, .slice A n c] 26)) m)
  generalize hasF (k : Int) 119 = q1 at *
  generalize hasF (k : Int) 107 = q2 at *
  generalize hasF (k : Int) 110 = q3 at *
  generalize hasF (k : Int) 97 = q4 at *
  generalize hasF (k : Int) 121 = q5 at *
  generalize hasF (k : Int) 98 = q6 at *
  generalize numF z1 q1 = p1 at *
  generalize numF z2 q2 = p2 at *
  generalize numF z3 q3 = p3 at *
  generalize numF z4 q4 = p4 at *
  have hlt : ((w.alloc (.cells #[.int .i64 (k : Int), .bool y, .int .i64 z1, .int .i64 z2, .int .i64 z3, .int .i64 z4, .slice A n c] 26)).heap[w.heap.size]? = some (.cells #[.int .i64 (k : Int), .bool y, .int .i64 z1, .int .i64 z2, .int .i64 z3, .int .i64 z4, .slice A n c] 26 (0, 0))) := heap_alloc_new w _
  cases p1
  · go_enter Tryd.func19, Tryd.ntmps19
    go_wp2_with fail
    go_quiet (first | with_reducible exact Calls.quiet_of_same (HP1.out _) | with_reducible exact Calls.quiet_of_same (HP2.out _) | with_reducible exact Calls.quiet_of_same (HP3.out _) | with_reducible exact Calls.quiet_of_same (HP4.out _) | with_reducible exact Calls.quiet_of_same (HS1.out _) | with_reducible exact Calls.quiet_of_same (HS2.out _) | with_reducible exact Calls.quiet_of_same (HS3.out _) | with_reducible exact Calls.quiet_of_same (HS4.out _) | with_reducible exact Calls.quiet_of_same (HS5.out _) | with_reducible exact Calls.quiet_of_same (HS6.out _))
    go_wp2
    go_ret
    exact ⟨by rw [HM.out]; rfl, HBN.out _⟩
  · cases p2
    · go_enter Tryd.func19, Tryd.ntmps19
      go_wp2_with fail
      go_quiet (first | with_reducible exact Calls.quiet_of_same (HP1.out _) | with_reducible exact Calls.quiet_of_same (HP2.out _) | with_reducible exact Calls.quiet_of_same (HP3.out _) | with_reducible exact Calls.quiet_of_same (HP4.out _) | with_reducible exact Calls.quiet_of_same (HS1.out _) | with_reducible exact Calls.quiet_of_same (HS2.out _) | with_reducible exact Calls.quiet_of_same (HS3.out _) | with_reducible exact Calls.quiet_of_same (HS4.out _) | with_reducible exact Calls.quiet_of_same (HS5.out _) | with_reducible exact Calls.quiet_of_same (HS6.out _))
      go_wp2
      go_ret
      exact ⟨by rw [HM.out]; rfl, HBN.out _⟩
    · cases p3
      · go_enter Tryd.func19, Tryd.ntmps19
        go_wp2_with fail
        go_quiet (first | with_reducible exact Calls.quiet_of_same (HP1.out _) | with_reducible exact Calls.quiet_of_same (HP2.out _) | with_reducible exact Calls.quiet_of_same (HP3.out _) | with_reducible exact Calls.quiet_of_same (HP4.out _) | with_reducible exact Calls.quiet_of_same (HS1.out _) | with_reducible exact Calls.quiet_of_same (HS2.out _) | with_reducible exact Calls.quiet_of_same (HS3.out _) | with_reducible exact Calls.quiet_of_same (HS4.out _) | with_reducible exact Calls.quiet_of_same (HS5.out _) | with_reducible exact Calls.quiet_of_same (HS6.out _))
        go_wp2
        go_ret
        exact ⟨by rw [HM.out]; rfl, HBN.out _⟩
      · cases p4
        · go_enter Tryd.func19, Tryd.ntmps19
          go_wp2_with fail
          go_quiet (first | with_reducible exact Calls.quiet_of_same (HP1.out _) | with_reducible exact Calls.quiet_of_same (HP2.out _) | with_reducible exact Calls.quiet_of_same (HP3.out _) | with_reducible exact Calls.quiet_of_same (HP4.out _) | with_reducible exact Calls.quiet_of_same (HS1.out _) | with_reducible exact Calls.quiet_of_same (HS2.out _) | with_reducible exact Calls.quiet_of_same (HS3.out _) | with_reducible exact Calls.quiet_of_same (HS4.out _) | with_reducible exact Calls.quiet_of_same (HS5.out _) | with_reducible exact Calls.quiet_of_same (HS6.out _))
          go_wp2
          go_ret
          exact ⟨by rw [HM.out]; rfl, HBN.out _⟩
        · cases y
          · by_cases hn0 : n = 0
            · subst hn0
              go_enter Tryd.func19, Tryd.ntmps19
              go_wp2_with fail
              go_quiet (first | with_reducible exact Calls.quiet_of_same (HP1.out _) | with_reducible exact Calls.quiet_of_same (HP2.out _) | with_reducible exact Calls.quiet_of_same (HP3.out _) | with_reducible exact Calls.quiet_of_same (HP4.out _) | with_reducible exact Calls.quiet_of_same (HS1.out _) | with_reducible exact Calls.quiet_of_same (HS2.out _) | with_reducible exact Calls.quiet_of_same (HS3.out _) | with_reducible exact Calls.quiet_of_same (HS4.out _) | with_reducible exact Calls.quiet_of_same (HS5.out _) | with_reducible exact Calls.quiet_of_same (HS6.out _))
              go_wp2
              go_ret
              exact ⟨by rw [HM.out]; rfl, HBN.out _⟩
            · have hq : ((n : Int) == 0) = false := by rw [beq_eq_false_iff_ne]; omega
              have HZ : Hid (decide (n = 0) = false) := Lib.hid (decide_eq_false hn0)
              rw [HZ.out] at HM
              clear hn0 HZ
              cases q6
              · go_enter Tryd.func19, Tryd.ntmps19
                go_wp2_with fail
                go_quiet (first | with_reducible exact Calls.quiet_of_same (HP1.out _) | with_reducible exact Calls.quiet_of_same (HP2.out _) | with_reducible exact Calls.quiet_of_same (HP3.out _) | with_reducible exact Calls.quiet_of_same (HP4.out _) | with_reducible exact Calls.quiet_of_same (HS1.out _) | with_reducible exact Calls.quiet_of_same (HS2.out _) | with_reducible exact Calls.quiet_of_same (HS3.out _) | with_reducible exact Calls.quiet_of_same (HS4.out _) | with_reducible exact Calls.quiet_of_same (HS5.out _) | with_reducible exact Calls.quiet_of_same (HS6.out _))
                go_wp2
                go_ret
                exact ⟨by rw [HM.out]; rfl, HBN.out _⟩
              · go_enter Tryd.func19, Tryd.ntmps19
                go_wp2_with fail
                go_quiet (first | with_reducible exact Calls.quiet_of_same (HP1.out _) | with_reducible exact Calls.quiet_of_same (HP2.out _) | with_reducible exact Calls.quiet_of_same (HP3.out _) | with_reducible exact Calls.quiet_of_same (HP4.out _) | with_reducible exact Calls.quiet_of_same (HS1.out _) | with_reducible exact Calls.quiet_of_same (HS2.out _) | with_reducible exact Calls.quiet_of_same (HS3.out _) | with_reducible exact Calls.quiet_of_same (HS4.out _) | with_reducible exact Calls.quiet_of_same (HS5.out _) | with_reducible exact Calls.quiet_of_same (HS6.out _))
                go_wp2
                go_ret
                exact ⟨by rw [HM.out]; rfl, HBN.out _⟩
          · cases q5
            · go_enter Tryd.func19, Tryd.ntmps19
              go_wp2_with fail
              go_quiet (first | with_reducible exact Calls.quiet_of_same (HP1.out _) | with_reducible exact Calls.quiet_of_same (HP2.out _) | with_reducible exact Calls.quiet_of_same (HP3.out _) | with_reducible exact Calls.quiet_of_same (HP4.out _) | with_reducible exact Calls.quiet_of_same (HS1.out _) | with_reducible exact Calls.quiet_of_same (HS2.out _) | with_reducible exact Calls.quiet_of_same (HS3.out _) | with_reducible exact Calls.quiet_of_same (HS4.out _) | with_reducible exact Calls.quiet_of_same (HS5.out _) | with_reducible exact Calls.quiet_of_same (HS6.out _))
              go_wp2
              go_ret
              exact ⟨by rw [HM.out]; rfl, HBN.out _⟩
            · by_cases hn0 : n = 0
              · subst hn0
                go_enter Tryd.func19, Tryd.ntmps19
                go_wp2_with fail
                go_quiet (first | with_reducible exact Calls.quiet_of_same (HP1.out _) | with_reducible exact Calls.quiet_of_same (HP2.out _) | with_reducible exact Calls.quiet_of_same (HP3.out _) | with_reducible exact Calls.quiet_of_same (HP4.out _) | with_reducible exact Calls.quiet_of_same (HS1.out _) | with_reducible exact Calls.quiet_of_same (HS2.out _) | with_reducible exact Calls.quiet_of_same (HS3.out _) | with_reducible exact Calls.quiet_of_same (HS4.out _) | with_reducible exact Calls.quiet_of_same (HS5.out _) | with_reducible exact Calls.quiet_of_same (HS6.out _))
                go_wp2
                go_ret
                exact ⟨by rw [HM.out]; rfl, HBN.out _⟩
              · have hq : ((n : Int) == 0) = false := by rw [beq_eq_false_iff_ne]; omega
                have HZ : Hid (decide (n = 0) = false) := Lib.hid (decide_eq_false hn0)
                rw [HZ.out] at HM
                clear hn0 HZ
                cases q6
                · go_enter Tryd.func19, Tryd.ntmps19
                  go_wp2_with fail
                  go_quiet (first | with_reducible exact Calls.quiet_of_same (HP1.out _) | with_reducible exact Calls.quiet_of_same (HP2.out _) | with_reducible exact Calls.quiet_of_same (HP3.out _) | with_reducible exact Calls.quiet_of_same (HP4.out _) | with_reducible exact Calls.quiet_of_same (HS1.out _) | with_reducible exact Calls.quiet_of_same (HS2.out _) | with_reducible exact Calls.quiet_of_same (HS3.out _) | with_reducible exact Calls.quiet_of_same (HS4.out _) | with_reducible exact Calls.quiet_of_same (HS5.out _) | with_reducible exact Calls.quiet_of_same (HS6.out _))
                  go_wp2
                  go_ret
                  exact ⟨by rw [HM.out]; rfl, HBN.out _⟩
                · go_enter Tryd.func19, Tryd.ntmps19
                  go_wp2_with fail
                  go_quiet (first | with_reducible exact Calls.quiet_of_same (HP1.out _) | with_reducible exact Calls.quiet_of_same (HP2.out _) | with_reducible exact Calls.quiet_of_same (HP3.out _) | with_reducible exact Calls.quiet_of_same (HP4.out _) | with_reducible exact Calls.quiet_of_same (HS1.out _) | with_reducible exact Calls.quiet_of_same (HS2.out _) | with_reducible exact Calls.quiet_of_same (HS3.out _) | with_reducible exact Calls.quiet_of_same (HS4.out _) | with_reducible exact Calls.quiet_of_same (HS5.out _) | with_reducible exact Calls.quiet_of_same (HS6.out _))
                  go_wp2
                  go_ret
                  exact ⟨by rw [HM.out]; rfl, HBN.out _⟩
set_option maxHeartbeats 4000000 in
theorem rmay_any (K : Int) (y : Bool) (z1 z2 z3 z4 : Int) (A : Option Addr) (n c : Nat) (b : List Nat) (hbn : b.length = n) (hn9 : n ≤ 9223372036854775807) (w : World) :
    Calls Tryd.prog 19 #[.agg #[.int .i64 K, .bool y, .int .i64 z1, .int .i64 z2, .int .i64 z3, .int .i64 z4, .slice A n c]] w fun e w' => e = .returned (.bool (mayA ⟨K, y, z1, z2, z3, z4, b⟩)) ∧ Below w.heap.size w w' := by
  by_cases h : 0 ≤ K ∧ K ≤ 19 ∧ n ≤ 1024
  · obtain ⟨h0, h1, h2⟩ := h
    obtain ⟨k, rfl⟩ : ∃ k : Nat, K = (k : Int) := ⟨K.toNat, by omega⟩
    refine (rmay_in k (by omega) y z1 z2 z3 z4 A n c h2 b hbn w).mono ?_
    rintro e w' ⟨rfl, hb⟩
    refine ⟨?_, hb⟩
    unfold mayA
    rw [decide_eq_true (show _ from ⟨h0, h1, by dsimp only; omega⟩), Bool.true_and]
  · have HM : Hid (mayA ⟨K, y, z1, z2, z3, z4, b⟩ = false) := Lib.hid (by unfold mayA; rw [decide_eq_false (by rw [hbn]; exact h), Bool.false_and])
    have HB := Lib.hid (may_box w (.cells #[.int .i64 K, .bool y, .int .i64 z1, .int .i64 z2, .int .i64 z3, .int .i64 z4, .slice A n c] 26))
    have hlt := heap_alloc_new w (.cells #[.int .i64 K, .bool y, .int .i64 z1, .int .i64 z2, .int .i64 z3, .int .i64 z4, .slice A n c] 26)
    rcases (by omega : K < 0 ∨ (¬ K < 0 ∧ 19 < K) ∨ (¬ K < 0 ∧ ¬ 19 < K ∧ 1024 < n)) with h | ⟨h, h2⟩ | ⟨h, h2, h3⟩
    · go_enter Tryd.func19, Tryd.ntmps19
      go_wp2
      go_ret
      exact ⟨by rw [HM.out]; rfl, HB.out⟩
    · go_enter Tryd.func19, Tryd.ntmps19
      go_wp2
      go_ret
      exact ⟨by rw [HM.out]; rfl, HB.out⟩
    · have h4 : (1024 : Int) < (n : Int) := by omega
      go_enter Tryd.func19, Tryd.ntmps19
      go_wp2
      go_ret
      exact ⟨by rw [HM.out]; rfl, HB.out⟩
end Go.Proofs.YtcaogiaoabdkdaaDoor
