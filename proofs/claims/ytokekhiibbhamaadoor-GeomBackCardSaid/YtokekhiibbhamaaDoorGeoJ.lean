/-
  GeomPlaces' walk.
-/
import Derived.Test.YtokekhiibbhamaaDoorGeoH
namespace Go.Proofs.YtokekhiibbhamaaDoor
open Go.RowKit Go.Shelf Go
set_option linter.unusedVariables false
set_option linter.unusedSimpArgs false
abbrev Gives1 (f : FuncId) (args : Array Value) (v : Value) : Prop := ∀ W, Calls Tryd.prog f args W fun e w' => e = .returned v ∧ Below W.heap.size W w'
abbrev Gives1K (f : FuncId) (args : Array Value) (v : Value) : Prop := ∀ W, KindsIs W → Calls Tryd.prog f args W fun e w' => e = .returned v ∧ Below W.heap.size W w'
set_option maxHeartbeats 4000000 in
set_option maxRecDepth 100000 in
theorem places_core (p t k m r2 r3 r4 pg bb : Int) (may : Bool) (hm : 0 ≤ m ∧ m ≤ 5) (hp : may = true → p ≤ 64)
    (HMY : Gives1 5 #[.agg #[.int .i64 p, .int .i64 t]] (.bool may))
    (HMP : may = true → Gives1 6 #[.agg #[.int .i64 p, .int .i64 t]] (.int .i64 m))
    (HE2 : Gives1K 7 #[.agg #[.int .i64 p, .int .i64 t], .int .i64 k] (.int .i64 r2))
    (HE3 : Gives1K 9 #[.agg #[.int .i64 p, .int .i64 t], .int .i64 k] (.int .i64 r3))
    (HE4 : Gives1K 10 #[.agg #[.int .i64 p, .int .i64 t], .int .i64 k] (.int .i64 r4))
    (HR2 : Gives1 8 #[.agg #[.int .i64 p, .int .i64 t], .int .i64 2, .int .i64 k] (.int .i64 r2))
    (HR3 : Gives1 8 #[.agg #[.int .i64 p, .int .i64 t], .int .i64 3, .int .i64 k] (.int .i64 r3))
    (HR4 : Gives1 8 #[.agg #[.int .i64 p, .int .i64 t], .int .i64 4, .int .i64 k] (.int .i64 r4))
    (HPA : Gives1 11 #[.agg #[.int .i64 p, .int .i64 t], .int .i64 k] (.int .i64 pg))
    (HBY : Gives1 12 #[.int .i64 k] (.int .i64 bb))
    (hpg : pg = if may = true ∧ 0 ≤ k ∧ k < p then 1 + m + k else -1) (hbb : bb = if 0 ≤ k ∧ k < 65536 then 256 * k else 0)
    (w : World) (hK : KindsIs w) :
    Calls Tryd.prog 3 #[.agg #[.int .i64 p, .int .i64 t], .int .i64 k] w fun e w' => e = .returned (.bool true) ∧ Below w.heap.size w w' := by
  have hb : Below w.heap.size w (w.alloc (.cells #[.int .i64 p, .int .i64 t] 23)) := (Below.refl _ _).alloc (Nat.le_refl _) _
  have ht := Two.new w 23 p t
  have HB := Lib.hid hb
  have HT := Lib.hid ht
  have HI := Lib.hid (info_geo2 p t)
  have HKI := Lib.hid (hK.ck (CK.below hb))
  have GMY := Lib.hid HMY
  have GMP := Lib.hid HMP
  have GE2 := Lib.hid HE2
  have GE3 := Lib.hid HE3
  have GE4 := Lib.hid HE4
  have GR2 := Lib.hid HR2
  have GR3 := Lib.hid HR3
  have GR4 := Lib.hid HR4
  have GPA := Lib.hid HPA
  have GBY := Lib.hid HBY
  have GAW := Lib.hid (fun W => awake7_any W)
  have HPG := Lib.hid hpg
  have HBB := Lib.hid hbb
  have HP := Lib.hid hp
  obtain ⟨hm1, hm2⟩ := hm
  clear hb ht hK HMY HMP HE2 HE3 HE4 HR2 HR3 HR4 HPA HBY hpg hbb hp
  have e2 : (r2 == r2) = true := beq_self_eq_true _
  have e3 : (r3 == r3) = true := beq_self_eq_true _
  have e4 : (r4 == r4) = true := beq_self_eq_true _
  go_enter Tryd.func3, Tryd.ntmps3
  go_wp2_with fail
  generalize w.alloc (.cells #[.int .i64 p, .int .i64 t] 23) = W0 at *
  refine (GMY.out _).mono ?_
  rintro e w1 ⟨rfl, hb1⟩
  have HA1 := Lib.hid ((After.refl W0).next hb1)
  have c0 := (HT.out.after HA1.out).fst
  have c1 := (HT.out.after HA1.out).snd
  clear hb1
  cases may
  · have hpg2 : pg = -1 := by rw [HPG.out]; simp
    subst hpg2
    have HA3 : Hid (After W0 w1) := Lib.hid HA1.out
    clear HPG HP GMP
    rcases (by omega : k < 0 ∨ (0 ≤ k ∧ k < 65536) ∨ (0 ≤ k ∧ 65536 ≤ k)) with h1 | ⟨h1, h2⟩ | ⟨h1, h2⟩
    · have h3 : ¬ 0 ≤ k := by omega
      have hbb2 : bb = 0 := by rw [HBB.out, if_neg (fun h => h3 h.1)]
      subst hbb2
      clear HBB
      have HT3 := Lib.hid (HT.out.after HA3.out)
      have HK3 := Lib.hid (HKI.out.ck (CK.below HA3.out))
      go_wp2_with fail
      have GX2 := Lib.hid (fun W (hW : After w1 W) => GE2.out W (HK3.out.ck (CK.below hW)))
      have GX3 := Lib.hid (fun W (hW : After w1 W) => GE3.out W (HK3.out.ck (CK.below hW)))
      have GX4 := Lib.hid (fun W (hW : After w1 W) => GE4.out W (HK3.out.ck (CK.below hW)))
      refine wp_region_class (After w1) (by kernel_rfl) (by kernel_rfl) (After.drew w1) ?_
      repeat (first
        | go_big_quiet_skip
        | (go_big_quiet_want; first
          | (with_reducible refine quiet_load 23 (.tmp 2) rfl _ _ rfl [.int .i64 p, .int .i64 t] _ (fun w h => (HT3.out.after h).range) Tryd.underlying23 rfl HI.out ?_; (simp only [Act.put, List.setIfInBounds_toArray, List.set_cons_zero, List.set_cons_succ]); go_big_quiet_on)
          | (go_big_quiet_op; first
            | go_big_quiet_on
            | ((with_reducible refine ⟨_, fun _ _ => rfl, ?_⟩); go_big_quiet_on)
            | ((with_reducible refine ⟨_, fun _ _ => ⟨rfl, rfl⟩, ?_⟩); go_big_quiet_on)
            | ((with_reducible refine ⟨_, fun W hW => calls_after hW (GX2.out W hW), ?_⟩); go_big_quiet_on)
            | ((with_reducible refine ⟨_, fun W hW => calls_after hW (GR2.out W), ?_⟩); go_big_quiet_on)
            | ((with_reducible refine ⟨_, fun W hW => calls_after hW (GX3.out W hW), ?_⟩); go_big_quiet_on)
            | ((with_reducible refine ⟨_, fun W hW => calls_after hW (GR3.out W), ?_⟩); go_big_quiet_on)
            | ((with_reducible refine ⟨_, fun W hW => calls_after hW (GX4.out W hW), ?_⟩); go_big_quiet_on)
            | ((with_reducible refine ⟨_, fun W hW => calls_after hW (GR4.out W), ?_⟩); go_big_quiet_on)
            | ((with_reducible refine ⟨_, fun W hW => calls_after hW (GPA.out W), ?_⟩); go_big_quiet_on)
            | ((with_reducible refine ⟨_, fun W hW => calls_after hW (GBY.out W), ?_⟩); go_big_quiet_on)
            | ((with_reducible refine ⟨_, fun W hW => calls_after hW (GAW.out W), ?_⟩); go_big_quiet_on))))
      refine wpQuiet_nil ?_
      intro W4 hW4
      go_wp2
      go_ret
      exact ⟨rfl, HB.out.trans (Below.mono (HA3.out.trans (hW4.mono HA3.out.size)) HB.out.size)⟩
    · have h3 : ¬ k < 0 := by omega
      have hbb2 : bb = 256 * k := by rw [HBB.out, if_pos ⟨h1, h2⟩]
      have hw3 : IntKind.i64.wrap (256 * k) = 256 * k := IntWalk.i64_in _ (by omega)
      have e5 : (256 * k == 256 * k) = true := beq_self_eq_true _
      subst hbb2
      clear HBB
      have HT3 := Lib.hid (HT.out.after HA3.out)
      have HK3 := Lib.hid (HKI.out.ck (CK.below HA3.out))
      go_wp2_with fail
      have GX2 := Lib.hid (fun W (hW : After w1 W) => GE2.out W (HK3.out.ck (CK.below hW)))
      have GX3 := Lib.hid (fun W (hW : After w1 W) => GE3.out W (HK3.out.ck (CK.below hW)))
      have GX4 := Lib.hid (fun W (hW : After w1 W) => GE4.out W (HK3.out.ck (CK.below hW)))
      refine wp_region_class (After w1) (by kernel_rfl) (by kernel_rfl) (After.drew w1) ?_
      repeat (first
        | go_big_quiet_skip
        | (go_big_quiet_want; first
          | (with_reducible refine quiet_load 23 (.tmp 2) rfl _ _ rfl [.int .i64 p, .int .i64 t] _ (fun w h => (HT3.out.after h).range) Tryd.underlying23 rfl HI.out ?_; (simp only [Act.put, List.setIfInBounds_toArray, List.set_cons_zero, List.set_cons_succ]); go_big_quiet_on)
          | (go_big_quiet_op; first
            | go_big_quiet_on
            | ((with_reducible refine ⟨_, fun _ _ => rfl, ?_⟩); go_big_quiet_on)
            | ((with_reducible refine ⟨_, fun _ _ => ⟨rfl, rfl⟩, ?_⟩); go_big_quiet_on)
            | ((with_reducible refine ⟨_, fun W hW => calls_after hW (GX2.out W hW), ?_⟩); go_big_quiet_on)
            | ((with_reducible refine ⟨_, fun W hW => calls_after hW (GR2.out W), ?_⟩); go_big_quiet_on)
            | ((with_reducible refine ⟨_, fun W hW => calls_after hW (GX3.out W hW), ?_⟩); go_big_quiet_on)
            | ((with_reducible refine ⟨_, fun W hW => calls_after hW (GR3.out W), ?_⟩); go_big_quiet_on)
            | ((with_reducible refine ⟨_, fun W hW => calls_after hW (GX4.out W hW), ?_⟩); go_big_quiet_on)
            | ((with_reducible refine ⟨_, fun W hW => calls_after hW (GR4.out W), ?_⟩); go_big_quiet_on)
            | ((with_reducible refine ⟨_, fun W hW => calls_after hW (GPA.out W), ?_⟩); go_big_quiet_on)
            | ((with_reducible refine ⟨_, fun W hW => calls_after hW (GBY.out W), ?_⟩); go_big_quiet_on)
            | ((with_reducible refine ⟨_, fun W hW => calls_after hW (GAW.out W), ?_⟩); go_big_quiet_on))))
      refine wpQuiet_nil ?_
      intro W4 hW4
      go_wp2
      go_ret
      exact ⟨rfl, HB.out.trans (Below.mono (HA3.out.trans (hW4.mono HA3.out.size)) HB.out.size)⟩
    · have h3 : ¬ k < 65536 := by omega
      have hbb2 : bb = 0 := by rw [HBB.out, if_neg (fun h => h3 h.2)]
      subst hbb2
      clear HBB
      have HT3 := Lib.hid (HT.out.after HA3.out)
      have HK3 := Lib.hid (HKI.out.ck (CK.below HA3.out))
      go_wp2_with fail
      have GX2 := Lib.hid (fun W (hW : After w1 W) => GE2.out W (HK3.out.ck (CK.below hW)))
      have GX3 := Lib.hid (fun W (hW : After w1 W) => GE3.out W (HK3.out.ck (CK.below hW)))
      have GX4 := Lib.hid (fun W (hW : After w1 W) => GE4.out W (HK3.out.ck (CK.below hW)))
      refine wp_region_class (After w1) (by kernel_rfl) (by kernel_rfl) (After.drew w1) ?_
      repeat (first
        | go_big_quiet_skip
        | (go_big_quiet_want; first
          | (with_reducible refine quiet_load 23 (.tmp 2) rfl _ _ rfl [.int .i64 p, .int .i64 t] _ (fun w h => (HT3.out.after h).range) Tryd.underlying23 rfl HI.out ?_; (simp only [Act.put, List.setIfInBounds_toArray, List.set_cons_zero, List.set_cons_succ]); go_big_quiet_on)
          | (go_big_quiet_op; first
            | go_big_quiet_on
            | ((with_reducible refine ⟨_, fun _ _ => rfl, ?_⟩); go_big_quiet_on)
            | ((with_reducible refine ⟨_, fun _ _ => ⟨rfl, rfl⟩, ?_⟩); go_big_quiet_on)
            | ((with_reducible refine ⟨_, fun W hW => calls_after hW (GX2.out W hW), ?_⟩); go_big_quiet_on)
            | ((with_reducible refine ⟨_, fun W hW => calls_after hW (GR2.out W), ?_⟩); go_big_quiet_on)
            | ((with_reducible refine ⟨_, fun W hW => calls_after hW (GX3.out W hW), ?_⟩); go_big_quiet_on)
            | ((with_reducible refine ⟨_, fun W hW => calls_after hW (GR3.out W), ?_⟩); go_big_quiet_on)
            | ((with_reducible refine ⟨_, fun W hW => calls_after hW (GX4.out W hW), ?_⟩); go_big_quiet_on)
            | ((with_reducible refine ⟨_, fun W hW => calls_after hW (GR4.out W), ?_⟩); go_big_quiet_on)
            | ((with_reducible refine ⟨_, fun W hW => calls_after hW (GPA.out W), ?_⟩); go_big_quiet_on)
            | ((with_reducible refine ⟨_, fun W hW => calls_after hW (GBY.out W), ?_⟩); go_big_quiet_on)
            | ((with_reducible refine ⟨_, fun W hW => calls_after hW (GAW.out W), ?_⟩); go_big_quiet_on))))
      refine wpQuiet_nil ?_
      intro W4 hW4
      go_wp2
      go_ret
      exact ⟨rfl, HB.out.trans (Below.mono (HA3.out.trans (hW4.mono HA3.out.size)) HB.out.size)⟩
  · have hp64 : p ≤ 64 := HP.out rfl
    have GMQ := Lib.hid (GMP.out rfl)
    clear GMP HP
    rcases (by omega : k < 0 ∨ (0 ≤ k ∧ k < p) ∨ (0 ≤ k ∧ p ≤ k ∧ k < 65536) ∨ (0 ≤ k ∧ p ≤ k ∧ 65536 ≤ k)) with h1 | ⟨h1, h2⟩ | ⟨h1, h2, h3⟩ | ⟨h1, h2, h3⟩
    · have h4 : ¬ 0 ≤ k := by omega
      have hbb2 : bb = 0 := by rw [HBB.out, if_neg (fun h => h4 h.1)]
      have hpg2 : pg = -1 := by rw [HPG.out, if_neg (fun h => h4 h.2.1)]
      subst hbb2
      subst hpg2
      have HA3 : Hid (After W0 w1) := Lib.hid HA1.out
      clear HBB HPG
      have HT3 := Lib.hid (HT.out.after HA3.out)
      have HK3 := Lib.hid (HKI.out.ck (CK.below HA3.out))
      go_wp2_with fail
      have GX2 := Lib.hid (fun W (hW : After w1 W) => GE2.out W (HK3.out.ck (CK.below hW)))
      have GX3 := Lib.hid (fun W (hW : After w1 W) => GE3.out W (HK3.out.ck (CK.below hW)))
      have GX4 := Lib.hid (fun W (hW : After w1 W) => GE4.out W (HK3.out.ck (CK.below hW)))
      refine wp_region_class (After w1) (by kernel_rfl) (by kernel_rfl) (After.drew w1) ?_
      repeat (first
        | go_big_quiet_skip
        | (go_big_quiet_want; first
          | (with_reducible refine quiet_load 23 (.tmp 2) rfl _ _ rfl [.int .i64 p, .int .i64 t] _ (fun w h => (HT3.out.after h).range) Tryd.underlying23 rfl HI.out ?_; (simp only [Act.put, List.setIfInBounds_toArray, List.set_cons_zero, List.set_cons_succ]); go_big_quiet_on)
          | (go_big_quiet_op; first
            | go_big_quiet_on
            | ((with_reducible refine ⟨_, fun _ _ => rfl, ?_⟩); go_big_quiet_on)
            | ((with_reducible refine ⟨_, fun _ _ => ⟨rfl, rfl⟩, ?_⟩); go_big_quiet_on)
            | ((with_reducible refine ⟨_, fun W hW => calls_after hW (GX2.out W hW), ?_⟩); go_big_quiet_on)
            | ((with_reducible refine ⟨_, fun W hW => calls_after hW (GR2.out W), ?_⟩); go_big_quiet_on)
            | ((with_reducible refine ⟨_, fun W hW => calls_after hW (GX3.out W hW), ?_⟩); go_big_quiet_on)
            | ((with_reducible refine ⟨_, fun W hW => calls_after hW (GR3.out W), ?_⟩); go_big_quiet_on)
            | ((with_reducible refine ⟨_, fun W hW => calls_after hW (GX4.out W hW), ?_⟩); go_big_quiet_on)
            | ((with_reducible refine ⟨_, fun W hW => calls_after hW (GR4.out W), ?_⟩); go_big_quiet_on)
            | ((with_reducible refine ⟨_, fun W hW => calls_after hW (GPA.out W), ?_⟩); go_big_quiet_on)
            | ((with_reducible refine ⟨_, fun W hW => calls_after hW (GBY.out W), ?_⟩); go_big_quiet_on)
            | ((with_reducible refine ⟨_, fun W hW => calls_after hW (GAW.out W), ?_⟩); go_big_quiet_on))))
      refine wpQuiet_nil ?_
      intro W4 hW4
      go_wp2
      go_ret
      exact ⟨rfl, HB.out.trans (Below.mono (HA3.out.trans (hW4.mono HA3.out.size)) HB.out.size)⟩
    · have h4 : k < 65536 := by omega
      have hbb2 : bb = 256 * k := by rw [HBB.out, if_pos ⟨h1, h4⟩]
      have hpg2 : pg = 1 + m + k := by rw [HPG.out, if_pos ⟨rfl, h1, h2⟩]
      have hw1 : IntKind.i64.wrap (1 + m) = 1 + m := IntWalk.i64_in _ (by omega)
      have hw2 : IntKind.i64.wrap (1 + m + k) = 1 + m + k := IntWalk.i64_in _ (by omega)
      have hw3 : IntKind.i64.wrap (256 * k) = 256 * k := IntWalk.i64_in _ (by omega)
      have e5 : (256 * k == 256 * k) = true := beq_self_eq_true _
      have e6 : (1 + m + k == 1 + m + k) = true := beq_self_eq_true _
      subst hbb2
      subst hpg2
      clear HBB HPG
      go_wp2_with fail
      refine (GMQ.out _).mono ?_
      rintro e w2 ⟨rfl, hb2⟩
      have HA3 := Lib.hid (HA1.out.next hb2)
      clear hb2
      have HT3 := Lib.hid (HT.out.after HA3.out)
      have HK3 := Lib.hid (HKI.out.ck (CK.below HA3.out))
      go_wp2_with fail
      have GX2 := Lib.hid (fun W (hW : After w2 W) => GE2.out W (HK3.out.ck (CK.below hW)))
      have GX3 := Lib.hid (fun W (hW : After w2 W) => GE3.out W (HK3.out.ck (CK.below hW)))
      have GX4 := Lib.hid (fun W (hW : After w2 W) => GE4.out W (HK3.out.ck (CK.below hW)))
      refine wp_region_class (After w2) (by kernel_rfl) (by kernel_rfl) (After.drew w2) ?_
      repeat (first
        | go_big_quiet_skip
        | (go_big_quiet_want; first
          | (with_reducible refine quiet_load 23 (.tmp 2) rfl _ _ rfl [.int .i64 p, .int .i64 t] _ (fun w h => (HT3.out.after h).range) Tryd.underlying23 rfl HI.out ?_; (simp only [Act.put, List.setIfInBounds_toArray, List.set_cons_zero, List.set_cons_succ]); go_big_quiet_on)
          | (go_big_quiet_op; first
            | go_big_quiet_on
            | ((with_reducible refine ⟨_, fun _ _ => rfl, ?_⟩); go_big_quiet_on)
            | ((with_reducible refine ⟨_, fun _ _ => ⟨rfl, rfl⟩, ?_⟩); go_big_quiet_on)
            | ((with_reducible refine ⟨_, fun W hW => calls_after hW (GX2.out W hW), ?_⟩); go_big_quiet_on)
            | ((with_reducible refine ⟨_, fun W hW => calls_after hW (GR2.out W), ?_⟩); go_big_quiet_on)
            | ((with_reducible refine ⟨_, fun W hW => calls_after hW (GX3.out W hW), ?_⟩); go_big_quiet_on)
            | ((with_reducible refine ⟨_, fun W hW => calls_after hW (GR3.out W), ?_⟩); go_big_quiet_on)
            | ((with_reducible refine ⟨_, fun W hW => calls_after hW (GX4.out W hW), ?_⟩); go_big_quiet_on)
            | ((with_reducible refine ⟨_, fun W hW => calls_after hW (GR4.out W), ?_⟩); go_big_quiet_on)
            | ((with_reducible refine ⟨_, fun W hW => calls_after hW (GPA.out W), ?_⟩); go_big_quiet_on)
            | ((with_reducible refine ⟨_, fun W hW => calls_after hW (GBY.out W), ?_⟩); go_big_quiet_on)
            | ((with_reducible refine ⟨_, fun W hW => calls_after hW (GAW.out W), ?_⟩); go_big_quiet_on))))
      refine wpQuiet_nil ?_
      intro W4 hW4
      go_wp2
      go_ret
      exact ⟨rfl, HB.out.trans (Below.mono (HA3.out.trans (hW4.mono HA3.out.size)) HB.out.size)⟩
    · have h4 : ¬ k < p := by omega
      have hbb2 : bb = 256 * k := by rw [HBB.out, if_pos ⟨h1, h3⟩]
      have hpg2 : pg = -1 := by rw [HPG.out, if_neg (fun h => h4 h.2.2)]
      have hw3 : IntKind.i64.wrap (256 * k) = 256 * k := IntWalk.i64_in _ (by omega)
      have e5 : (256 * k == 256 * k) = true := beq_self_eq_true _
      subst hbb2
      subst hpg2
      have HA3 : Hid (After W0 w1) := Lib.hid HA1.out
      clear HBB HPG
      have HT3 := Lib.hid (HT.out.after HA3.out)
      have HK3 := Lib.hid (HKI.out.ck (CK.below HA3.out))
      go_wp2_with fail
      have GX2 := Lib.hid (fun W (hW : After w1 W) => GE2.out W (HK3.out.ck (CK.below hW)))
      have GX3 := Lib.hid (fun W (hW : After w1 W) => GE3.out W (HK3.out.ck (CK.below hW)))
      have GX4 := Lib.hid (fun W (hW : After w1 W) => GE4.out W (HK3.out.ck (CK.below hW)))
      refine wp_region_class (After w1) (by kernel_rfl) (by kernel_rfl) (After.drew w1) ?_
      repeat (first
        | go_big_quiet_skip
        | (go_big_quiet_want; first
          | (with_reducible refine quiet_load 23 (.tmp 2) rfl _ _ rfl [.int .i64 p, .int .i64 t] _ (fun w h => (HT3.out.after h).range) Tryd.underlying23 rfl HI.out ?_; (simp only [Act.put, List.setIfInBounds_toArray, List.set_cons_zero, List.set_cons_succ]); go_big_quiet_on)
          | (go_big_quiet_op; first
            | go_big_quiet_on
            | ((with_reducible refine ⟨_, fun _ _ => rfl, ?_⟩); go_big_quiet_on)
            | ((with_reducible refine ⟨_, fun _ _ => ⟨rfl, rfl⟩, ?_⟩); go_big_quiet_on)
            | ((with_reducible refine ⟨_, fun W hW => calls_after hW (GX2.out W hW), ?_⟩); go_big_quiet_on)
            | ((with_reducible refine ⟨_, fun W hW => calls_after hW (GR2.out W), ?_⟩); go_big_quiet_on)
            | ((with_reducible refine ⟨_, fun W hW => calls_after hW (GX3.out W hW), ?_⟩); go_big_quiet_on)
            | ((with_reducible refine ⟨_, fun W hW => calls_after hW (GR3.out W), ?_⟩); go_big_quiet_on)
            | ((with_reducible refine ⟨_, fun W hW => calls_after hW (GX4.out W hW), ?_⟩); go_big_quiet_on)
            | ((with_reducible refine ⟨_, fun W hW => calls_after hW (GR4.out W), ?_⟩); go_big_quiet_on)
            | ((with_reducible refine ⟨_, fun W hW => calls_after hW (GPA.out W), ?_⟩); go_big_quiet_on)
            | ((with_reducible refine ⟨_, fun W hW => calls_after hW (GBY.out W), ?_⟩); go_big_quiet_on)
            | ((with_reducible refine ⟨_, fun W hW => calls_after hW (GAW.out W), ?_⟩); go_big_quiet_on))))
      refine wpQuiet_nil ?_
      intro W4 hW4
      go_wp2
      go_ret
      exact ⟨rfl, HB.out.trans (Below.mono (HA3.out.trans (hW4.mono HA3.out.size)) HB.out.size)⟩
    · have h4 : ¬ k < p := by omega
      have h5 : ¬ k < 65536 := by omega
      have hbb2 : bb = 0 := by rw [HBB.out, if_neg (fun h => h5 h.2)]
      have hpg2 : pg = -1 := by rw [HPG.out, if_neg (fun h => h4 h.2.2)]
      subst hbb2
      subst hpg2
      have HA3 : Hid (After W0 w1) := Lib.hid HA1.out
      clear HBB HPG
      have HT3 := Lib.hid (HT.out.after HA3.out)
      have HK3 := Lib.hid (HKI.out.ck (CK.below HA3.out))
      go_wp2_with fail
      have GX2 := Lib.hid (fun W (hW : After w1 W) => GE2.out W (HK3.out.ck (CK.below hW)))
      have GX3 := Lib.hid (fun W (hW : After w1 W) => GE3.out W (HK3.out.ck (CK.below hW)))
      have GX4 := Lib.hid (fun W (hW : After w1 W) => GE4.out W (HK3.out.ck (CK.below hW)))
      refine wp_region_class (After w1) (by kernel_rfl) (by kernel_rfl) (After.drew w1) ?_
      repeat (first
        | go_big_quiet_skip
        | (go_big_quiet_want; first
          | (with_reducible refine quiet_load 23 (.tmp 2) rfl _ _ rfl [.int .i64 p, .int .i64 t] _ (fun w h => (HT3.out.after h).range) Tryd.underlying23 rfl HI.out ?_; (simp only [Act.put, List.setIfInBounds_toArray, List.set_cons_zero, List.set_cons_succ]); go_big_quiet_on)
          | (go_big_quiet_op; first
            | go_big_quiet_on
            | ((with_reducible refine ⟨_, fun _ _ => rfl, ?_⟩); go_big_quiet_on)
            | ((with_reducible refine ⟨_, fun _ _ => ⟨rfl, rfl⟩, ?_⟩); go_big_quiet_on)
            | ((with_reducible refine ⟨_, fun W hW => calls_after hW (GX2.out W hW), ?_⟩); go_big_quiet_on)
            | ((with_reducible refine ⟨_, fun W hW => calls_after hW (GR2.out W), ?_⟩); go_big_quiet_on)
            | ((with_reducible refine ⟨_, fun W hW => calls_after hW (GX3.out W hW), ?_⟩); go_big_quiet_on)
            | ((with_reducible refine ⟨_, fun W hW => calls_after hW (GR3.out W), ?_⟩); go_big_quiet_on)
            | ((with_reducible refine ⟨_, fun W hW => calls_after hW (GX4.out W hW), ?_⟩); go_big_quiet_on)
            | ((with_reducible refine ⟨_, fun W hW => calls_after hW (GR4.out W), ?_⟩); go_big_quiet_on)
            | ((with_reducible refine ⟨_, fun W hW => calls_after hW (GPA.out W), ?_⟩); go_big_quiet_on)
            | ((with_reducible refine ⟨_, fun W hW => calls_after hW (GBY.out W), ?_⟩); go_big_quiet_on)
            | ((with_reducible refine ⟨_, fun W hW => calls_after hW (GAW.out W), ?_⟩); go_big_quiet_on))))
      refine wpQuiet_nil ?_
      intro W4 hW4
      go_wp2
      go_ret
      exact ⟨rfl, HB.out.trans (Below.mono (HA3.out.trans (hW4.mono HA3.out.size)) HB.out.size)⟩
end Go.Proofs.YtokekhiibbhamaaDoor
