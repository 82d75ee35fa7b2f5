/-
  Geometries: the example; GeomCounts' walk.
-/
import Derived.Test.YtimonlkelgpekabGeoC
namespace Go.Proofs.Ytimonlkelgpekab
open Go.RowKit Go
set_option linter.unusedVariables false
set_option linter.unusedSimpArgs false
theorem may20 : Geo.May 20 4 := by unfold Geo.May; omega
set_option maxHeartbeats 1000000 in
set_option maxRecDepth 100000 in
theorem awake7_any (w : World) : Calls Try.prog 19 #[] w fun e w' => e = .returned (.bool true) ∧ Below w.heap.size w w' := by
  have H1 : Hid (∀ W, Calls Try.prog 12 #[.agg #[.int .i64 20, .int .i64 4]] W fun e w' => e = .returned (.int .i64 0) ∧ Below W.heap.size W w') := Lib.hid (fun W => check_yes 20 4 may20 W)
  have H2 : Hid (∀ W, Calls Try.prog 13 #[.agg #[.int .i64 20, .int .i64 4]] W fun e w' => e = .returned (.int .i64 2) ∧ Below W.heap.size W w') := Lib.hid (fun W => geo_Maps_yes 20 4 (by omega) (by omega) may20 W)
  have H3 : Hid (∀ W, Calls Try.prog 14 #[.agg #[.int .i64 20, .int .i64 4]] W fun e w' => e = .returned (.int .i64 23) ∧ Below W.heap.size W w') := Lib.hid (fun W => geo_Sealed_yes 20 4 (by omega) (by omega) may20 W)
  have H4 : Hid (∀ W, Calls Try.prog 16 #[.agg #[.int .i64 20, .int .i64 4]] W fun e w' => e = .returned (.int .i64 1) ∧ Below W.heap.size W w') := Lib.hid (fun W => geo_Epochs_yes 20 4 (by omega) (by omega) may20 W)
  have H5 : Hid (∀ W, Calls Try.prog 17 #[.agg #[.int .i64 20, .int .i64 4]] W fun e w' => e = .returned (.int .i64 25) ∧ Below W.heap.size W w') := Lib.hid (fun W => geo_Leaves_yes 20 4 (by omega) (by omega) may20 W)
  have H6 : Hid (∀ W, Calls Try.prog 18 #[.agg #[.int .i64 20, .int .i64 4]] W fun e w' => e = .returned (.int .i64 30) ∧ Below W.heap.size W w') := Lib.hid (fun W => geo_Total_yes 20 4 (by omega) (by omega) may20 W)
  have ht := Two.new w 23 20 4
  have hb : Below w.heap.size w (w.alloc (.cells #[.int .i64 20, .int .i64 4] 23)) := (Below.refl _ _).alloc (Nat.le_refl _) _
  have HT := Lib.hid ht
  have HB := Lib.hid hb
  clear ht hb
  go_enter Try.func19, Try.ntmps19
  go_wp2_with fail
  generalize w.alloc (.cells #[.int .i64 20, .int .i64 4] 23) = W0 at *
  have HA : Hid (After W0 W0) := Lib.hid (After.refl W0)
  refine (H1.out _).mono ?_
  rintro e w1 ⟨rfl, hb1⟩
  have HA1 := Lib.hid (HA.out.next hb1)
  clear hb1
  have c00 := (HT.out.after HA1.out).fst
  have c10 := (HT.out.after HA1.out).snd
  go_wp2_with fail
  refine (H2.out _).mono ?_
  rintro e w2 ⟨rfl, hb2⟩
  have HA2 := Lib.hid (HA1.out.next hb2)
  clear hb2
  have c01 := (HT.out.after HA2.out).fst
  have c11 := (HT.out.after HA2.out).snd
  go_wp2_with fail
  refine (H3.out _).mono ?_
  rintro e w3 ⟨rfl, hb3⟩
  have HA3 := Lib.hid (HA2.out.next hb3)
  clear hb3
  have c02 := (HT.out.after HA3.out).fst
  have c12 := (HT.out.after HA3.out).snd
  go_wp2_with fail
  refine (H4.out _).mono ?_
  rintro e w4 ⟨rfl, hb4⟩
  have HA4 := Lib.hid (HA3.out.next hb4)
  clear hb4
  have c03 := (HT.out.after HA4.out).fst
  have c13 := (HT.out.after HA4.out).snd
  go_wp2_with fail
  refine (H5.out _).mono ?_
  rintro e w5 ⟨rfl, hb5⟩
  have HA5 := Lib.hid (HA4.out.next hb5)
  clear hb5
  have c04 := (HT.out.after HA5.out).fst
  have c14 := (HT.out.after HA5.out).snd
  go_wp2_with fail
  refine (H6.out _).mono ?_
  rintro e w6 ⟨rfl, hb6⟩
  have HA6 := Lib.hid (HA5.out.next hb6)
  clear hb6
  go_wp2
  go_ret
  exact ⟨rfl, HB.out.trans (Below.mono HA6.out HB.out.size)⟩
set_option maxHeartbeats 2000000 in
set_option maxRecDepth 100000 in
theorem geomCounts_yes (p t : Nat) (hp : p ≤ 64) (ht24 : t ≤ 24) (h : Geo.May p t) (w : World) : Calls Try.prog 3 #[.agg #[.int .i64 (p : Int), .int .i64 (t : Int)]] w fun e w' => e = .returned (.bool true) ∧ Below w.heap.size w w' := by
  have hb : Below w.heap.size w (w.alloc (.cells #[.int .i64 (p : Int), .int .i64 (t : Int)] 23)) := (Below.refl _ _).alloc (Nat.le_refl _) _
  have ht := Two.new w 23 (p : Int) (t : Int)
  have HB := Lib.hid hb
  have HT := Lib.hid ht
  have HI := Lib.hid (info_geo2 (p : Int) (t : Int))
  have HMY := Lib.hid (fun W => rmay_yes (p : Int) (t : Int) h W)
  have HAL := Lib.hid (fun W => rall_yes p t hp ht24 h W)
  have H1 := Lib.hid (fun W => check_yes (p : Int) (t : Int) h W)
  have H2 := Lib.hid (fun W => geo_Maps_yes p t hp ht24 h W)
  have H3 := Lib.hid (fun W => geo_Sealed_yes p t hp ht24 h W)
  have H5 := Lib.hid (fun W => geo_Epochs_yes p t hp ht24 h W)
  have H7 := Lib.hid (fun W => geo_Leaves_yes p t hp ht24 h W)
  have H9 := Lib.hid (fun W => geo_Total_yes p t hp ht24 h W)
  have HMP := Lib.hid (fun W => rmaps p (t : Int) hp W)
  obtain ⟨hc3, hc2, hc4⟩ := Geo.cnt_all p t
  have h4 := fun W => rcount_yes p t 3 hp ht24 h W
  have h6 := fun W => rcount_yes p t 2 hp ht24 h W
  have h8 := fun W => rcount_yes p t 4 hp ht24 h W
  rw [hc3] at h4
  rw [hc2] at h6
  rw [hc4] at h8
  have H4 := Lib.hid h4
  have H6 := Lib.hid h6
  have H8 := Lib.hid h8
  have htl : Geo.tot p t = Geo.lv p + (t + 1) := by unfold Geo.tot; omega
  have hlv : Geo.lv p ≤ 1000 := by unfold Geo.lv Geo.ep Geo.se Geo.mp; omega
  generalize Geo.all p t = al at *
  generalize Geo.tot p t = tt at *
  generalize Geo.lv p = lv at *
  generalize Geo.se p = s at *
  generalize Geo.ep p = ee at *
  generalize Geo.mp p = m at *
  have q0 : (0 : Int) ≤ (tt : Int) := by omega
  have q1 : (tt : Int) ≤ 2000 := by omega
  have q2 : ((tt : Int) - ((t + 1 : Nat) : Int)) = (lv : Int) := by omega
  generalize t + 1 = t1 at *
  have q3 : (0 : Int) ≤ (t1 : Int) := by omega
  have q4 : IntKind.i64.wrap ((tt : Int) - (t1 : Int)) = (lv : Int) := by rw [q2]; exact IntWalk.i64_in _ (by omega)
  have Q2 := Lib.hid q2
  have q5 : ((lv : Int) == (lv : Int)) = true := beq_self_eq_true _
  clear h4 h6 h8 hc3 hc2 hc4 htl hlv hb ht h
  go_enter Try.func3, Try.ntmps3
  go_wp2_with fail
  generalize w.alloc (.cells #[.int .i64 (p : Int), .int .i64 (t : Int)] 23) = W0 at *
  refine (HMY.out _).mono ?_
  rintro e w1 ⟨rfl, hb1⟩
  have HA1 := Lib.hid ((After.refl W0).next hb1)
  have c0 := (HT.out.after HA1.out).fst
  have c1 := (HT.out.after HA1.out).snd
  clear hb1
  go_wp2_with fail
  refine (HMP.out _).mono ?_
  rintro e w2 ⟨rfl, hb2⟩
  have HA2 := Lib.hid (HA1.out.next hb2)
  have c0 := (HT.out.after HA2.out).fst
  have c1 := (HT.out.after HA2.out).snd
  clear hb2
  go_wp2_with fail
  refine (HAL.out _).mono ?_
  rintro e w3 ⟨ag, ac, rfl, hb3, _⟩
  have HA3 := Lib.hid (HA2.out.next hb3)
  have HT3 := Lib.hid (HT.out.after HA3.out)
  clear hb3
  go_wp2_with fail
  refine wp_region_class (After w3) (by kernel_rfl) (by kernel_rfl) (After.drew w3) ?_
  repeat (first
    | go_big_quiet_skip
    | (go_big_quiet_want; first
      | (with_reducible refine quiet_load 23 (.tmp 1) rfl _ _ rfl [.int .i64 (p : Int), .int .i64 (t : Int)] _ (fun w h => (HT3.out.after h).range) Try.underlying23 rfl HI.out ?_; (simp only [Act.put, List.setIfInBounds_toArray, List.set_cons_zero, List.set_cons_succ]); go_big_quiet_on)
      | (go_big_quiet_op; first
        | go_big_quiet_on
        | ((with_reducible refine ⟨_, fun _ _ => rfl, ?_⟩); go_big_quiet_on)
        | ((with_reducible refine ⟨_, fun _ _ => ⟨rfl, rfl⟩, ?_⟩); go_big_quiet_on)
        | ((with_reducible refine ⟨_, fun W hW => calls_after hW (H1.out W), ?_⟩); go_big_quiet_on)
        | ((with_reducible refine ⟨_, fun W hW => calls_after hW (H2.out W), ?_⟩); go_big_quiet_on)
        | ((with_reducible refine ⟨_, fun W hW => calls_after hW (H3.out W), ?_⟩); go_big_quiet_on)
        | ((with_reducible refine ⟨_, fun W hW => calls_after hW (H4.out W), ?_⟩); go_big_quiet_on)
        | ((with_reducible refine ⟨_, fun W hW => calls_after hW (H5.out W), ?_⟩); go_big_quiet_on)
        | ((with_reducible refine ⟨_, fun W hW => calls_after hW (H6.out W), ?_⟩); go_big_quiet_on)
        | ((with_reducible refine ⟨_, fun W hW => calls_after hW (H7.out W), ?_⟩); go_big_quiet_on)
        | ((with_reducible refine ⟨_, fun W hW => calls_after hW (H8.out W), ?_⟩); go_big_quiet_on)
        | ((with_reducible refine ⟨_, fun W hW => calls_after hW (H9.out W), ?_⟩); go_big_quiet_on)
        | ((with_reducible refine ⟨_, fun W hW => calls_after hW (awake7_any W), ?_⟩); go_big_quiet_on))))
  refine wpQuiet_nil ?_
  intro W4 hW4
  go_wp2
  go_ret
  exact ⟨rfl, HB.out.trans (Below.mono (HA3.out.trans (hW4.mono HA3.out.size)) HB.out.size)⟩
set_option maxHeartbeats 2000000 in
set_option maxRecDepth 100000 in
theorem geomCounts_no (p t : Int) (h : ¬ Geo.May p t) (w : World) : Calls Try.prog 3 #[.agg #[.int .i64 p, .int .i64 t]] w fun e w' => e = .returned (.bool true) ∧ Below w.heap.size w w' := by
  have hb : Below w.heap.size w (w.alloc (.cells #[.int .i64 p, .int .i64 t] 23)) := (Below.refl _ _).alloc (Nat.le_refl _) _
  have ht := Two.new w 23 p t
  have HB := Lib.hid hb
  have HT := Lib.hid ht
  have HI := Lib.hid (info_geo2 p t)
  have HMY := Lib.hid (fun W => rmay_no p t h W)
  have HAL := Lib.hid (fun W => rall_no p t h W)
  have H1 := Lib.hid (fun W => check_no p t h W)
  have H2 := Lib.hid (fun W => geo_Maps_no p t h W)
  have H3 := Lib.hid (fun W => geo_Sealed_no p t h W)
  have H5 := Lib.hid (fun W => geo_Epochs_no p t h W)
  have H7 := Lib.hid (fun W => geo_Leaves_no p t h W)
  have H9 := Lib.hid (fun W => geo_Total_no p t h W)
  have H4 : Hid (∀ W, Calls Try.prog 15 #[.agg #[.int .i64 p, .int .i64 t], .int .i64 3] W fun e w' => e = .returned (.int .i64 0) ∧ Below W.heap.size W w') := Lib.hid (fun W => rcount_no p t 3 h W)
  have H6 : Hid (∀ W, Calls Try.prog 15 #[.agg #[.int .i64 p, .int .i64 t], .int .i64 2] W fun e w' => e = .returned (.int .i64 0) ∧ Below W.heap.size W w') := Lib.hid (fun W => rcount_no p t 2 h W)
  have H8 : Hid (∀ W, Calls Try.prog 15 #[.agg #[.int .i64 p, .int .i64 t], .int .i64 4] W fun e w' => e = .returned (.int .i64 0) ∧ Below W.heap.size W w') := Lib.hid (fun W => rcount_no p t 4 h W)
  clear hb ht h
  go_enter Try.func3, Try.ntmps3
  go_wp2_with fail
  generalize w.alloc (.cells #[.int .i64 p, .int .i64 t] 23) = W0 at *
  refine (HMY.out _).mono ?_
  rintro e w1 ⟨rfl, hb1⟩
  have HA1 := Lib.hid ((After.refl W0).next hb1)
  have c0 := (HT.out.after HA1.out).fst
  have c1 := (HT.out.after HA1.out).snd
  clear hb1
  go_wp2_with fail
  refine (HAL.out _).mono ?_
  rintro e w3 ⟨rfl, hb3⟩
  have HA3 := Lib.hid (HA1.out.next hb3)
  have HT3 := Lib.hid (HT.out.after HA3.out)
  clear hb3
  go_wp2_with fail
  refine wp_region_class (After w3) (by kernel_rfl) (by kernel_rfl) (After.drew w3) ?_
  repeat (first
    | go_big_quiet_skip
    | (go_big_quiet_want; first
      | (with_reducible refine quiet_load 23 (.tmp 1) rfl _ _ rfl [.int .i64 p, .int .i64 t] _ (fun w h => (HT3.out.after h).range) Try.underlying23 rfl HI.out ?_; (simp only [Act.put, List.setIfInBounds_toArray, List.set_cons_zero, List.set_cons_succ]); go_big_quiet_on)
      | (go_big_quiet_op; first
        | go_big_quiet_on
        | ((with_reducible refine ⟨_, fun _ _ => rfl, ?_⟩); go_big_quiet_on)
        | ((with_reducible refine ⟨_, fun _ _ => ⟨rfl, rfl⟩, ?_⟩); go_big_quiet_on)
        | ((with_reducible refine ⟨_, fun W hW => calls_after hW (H1.out W), ?_⟩); go_big_quiet_on)
        | ((with_reducible refine ⟨_, fun W hW => calls_after hW (H2.out W), ?_⟩); go_big_quiet_on)
        | ((with_reducible refine ⟨_, fun W hW => calls_after hW (H3.out W), ?_⟩); go_big_quiet_on)
        | ((with_reducible refine ⟨_, fun W hW => calls_after hW (H4.out W), ?_⟩); go_big_quiet_on)
        | ((with_reducible refine ⟨_, fun W hW => calls_after hW (H5.out W), ?_⟩); go_big_quiet_on)
        | ((with_reducible refine ⟨_, fun W hW => calls_after hW (H6.out W), ?_⟩); go_big_quiet_on)
        | ((with_reducible refine ⟨_, fun W hW => calls_after hW (H7.out W), ?_⟩); go_big_quiet_on)
        | ((with_reducible refine ⟨_, fun W hW => calls_after hW (H8.out W), ?_⟩); go_big_quiet_on)
        | ((with_reducible refine ⟨_, fun W hW => calls_after hW (H9.out W), ?_⟩); go_big_quiet_on)
        | ((with_reducible refine ⟨_, fun W hW => calls_after hW (awake7_any W), ?_⟩); go_big_quiet_on))))
  refine wpQuiet_nil ?_
  intro W4 hW4
  go_wp2
  go_ret
  exact ⟨rfl, HB.out.trans (Below.mono (HA3.out.trans (hW4.mono HA3.out.size)) HB.out.size)⟩
theorem geomCounts_any (p t : Int) (w : World) : Calls Try.prog 3 #[.agg #[.int .i64 p, .int .i64 t]] w fun e w' => e = .returned (.bool true) ∧ Below w.heap.size w w' := by
  by_cases h : Geo.May p t
  · have h' := h
    obtain ⟨h1, h2, h3, h4⟩ := h
    obtain ⟨p, rfl⟩ : ∃ n : Nat, p = (n : Int) := ⟨p.toNat, by omega⟩
    obtain ⟨t, rfl⟩ : ∃ n : Nat, t = (n : Int) := ⟨t.toNat, by omega⟩
    exact geomCounts_yes p t (by omega) (by omega) h' w
  · exact geomCounts_no p t h w
end Go.Proofs.Ytimonlkelgpekab
