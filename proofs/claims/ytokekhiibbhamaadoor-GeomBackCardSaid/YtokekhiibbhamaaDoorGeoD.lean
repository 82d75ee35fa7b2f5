/-
  Geometries: the example; GeomCounts' walk.
-/
import Derived.Test.YtokekhiibbhamaaDoorGeoC
namespace Go.Proofs.YtokekhiibbhamaaDoor
open Go.RowKit Go
set_option linter.unusedVariables false
set_option linter.unusedSimpArgs false
theorem may20 : Geo.May 20 4 := by unfold Geo.May; omega
set_option maxHeartbeats 1000000 in
set_option maxRecDepth 100000 in
theorem awake7_any (w : World) : Calls Tryd.prog 13 #[] w fun e w' => e = .returned (.bool true) ∧ Below w.heap.size w w' := by
  have H1 : Hid (∀ W, Calls Tryd.prog 20 #[.agg #[.int .i64 20, .int .i64 4]] W fun e w' => e = .returned (.int .i64 0) ∧ Below W.heap.size W w') := Lib.hid (fun W => check_yes 20 4 may20 W)
  have H2 : Hid (∀ W, Calls Tryd.prog 19 #[.agg #[.int .i64 20, .int .i64 4]] W fun e w' => e = .returned (.int .i64 2) ∧ Below W.heap.size W w') := Lib.hid (fun W => geo_Maps_yes 20 4 (by omega) (by omega) may20 W)
  have H3 : Hid (∀ W, Calls Tryd.prog 21 #[.agg #[.int .i64 20, .int .i64 4]] W fun e w' => e = .returned (.int .i64 23) ∧ Below W.heap.size W w') := Lib.hid (fun W => geo_Sealed_yes 20 4 (by omega) (by omega) may20 W)
  have H4 : Hid (∀ W, Calls Tryd.prog 22 #[.agg #[.int .i64 20, .int .i64 4]] W fun e w' => e = .returned (.int .i64 1) ∧ Below W.heap.size W w') := Lib.hid (fun W => geo_Epochs_yes 20 4 (by omega) (by omega) may20 W)
  have H5 : Hid (∀ W, Calls Tryd.prog 23 #[.agg #[.int .i64 20, .int .i64 4]] W fun e w' => e = .returned (.int .i64 25) ∧ Below W.heap.size W w') := Lib.hid (fun W => geo_Leaves_yes 20 4 (by omega) (by omega) may20 W)
  have H6 : Hid (∀ W, Calls Tryd.prog 24 #[.agg #[.int .i64 20, .int .i64 4]] W fun e w' => e = .returned (.int .i64 30) ∧ Below W.heap.size W w') := Lib.hid (fun W => geo_Total_yes 20 4 (by omega) (by omega) may20 W)
  have ht := Two.new w 23 20 4
  have hb : Below w.heap.size w (w.alloc (.cells #[.int .i64 20, .int .i64 4] 23)) := (Below.refl _ _).alloc (Nat.le_refl _) _
  have HT := Lib.hid ht
  have HB := Lib.hid hb
  clear ht hb
  go_enter Tryd.func13, Tryd.ntmps13
  go_wp2_with fail
  generalize w.alloc (.cells #[.int .i64 20, .int .i64 4] 23) = W0 at *
  have HA : Hid (After W0 W0) := Lib.hid (After.refl W0)
  refine (H1.out _).mono ?_
  rintro e w1 ⟨rfl, hb1⟩
  have HA1 := Lib.hid (HA.out.next hb1)
  clear hb1
  have c00 := (HT.out.after HA1.out).fst
  have c10 := (HT.out.after HA1.out).snd
  go_wp2_with fail
  refine (H2.out _).mono ?_
  rintro e w2 ⟨rfl, hb2⟩
  have HA2 := Lib.hid (HA1.out.next hb2)
  clear hb2
  have c01 := (HT.out.after HA2.out).fst
  have c11 := (HT.out.after HA2.out).snd
  go_wp2_with fail
  refine (H3.out _).mono ?_
  rintro e w3 ⟨rfl, hb3⟩
  have HA3 := Lib.hid (HA2.out.next hb3)
  clear hb3
  have c02 := (HT.out.after HA3.out).fst
  have c12 := (HT.out.after HA3.out).snd
  go_wp2_with fail
  refine (H4.out _).mono ?_
  rintro e w4 ⟨rfl, hb4⟩
  have HA4 := Lib.hid (HA3.out.next hb4)
  clear hb4
  have c03 := (HT.out.after HA4.out).fst
  have c13 := (HT.out.after HA4.out).snd
  go_wp2_with fail
  refine (H5.out _).mono ?_
  rintro e w5 ⟨rfl, hb5⟩
  have HA5 := Lib.hid (HA4.out.next hb5)
  clear hb5
  have c04 := (HT.out.after HA5.out).fst
  have c14 := (HT.out.after HA5.out).snd
  go_wp2_with fail
  refine (H6.out _).mono ?_
  rintro e w6 ⟨rfl, hb6⟩
  have HA6 := Lib.hid (HA5.out.next hb6)
  clear hb6
  go_wp2
  go_ret
  exact ⟨rfl, HB.out.trans (Below.mono HA6.out HB.out.size)⟩
end Go.Proofs.YtokekhiibbhamaaDoor
