/-
  Geometries: the program's counts, and the example.
-/
import Derived.Test.YtokekhiibbhamaaDoorGeoA
namespace Go.Proofs.YtokekhiibbhamaaDoor
open Go.RowKit Go
set_option linter.unusedVariables false
set_option linter.unusedSimpArgs false
theorem quiet_load1 {P : Program} {C : World → Prop} {o : Oper} {a : Act} {K : Act → Prop} (ty : TypeId) (x : Operand) (ho : o.op = .load ty x) (ad : Addr) (hx : a.eval x = .pointer (some ad)) (k : IntKind) (hu : P.underlying ty = some (.int k)) (v : Value)
    (hS : ∀ w, C w → w.cell? ad = some v) (hk : K (a.put o.dst v)) : o.quiet P a C K :=
  ⟨_, fun w hw => by
    have h := hS w hw
    have hl : (loadVar ty ad).run P w = .ok v w := by
      simp [loadVar, isAgg, go_sem, h, run_underlying hu]
    unfold Oper.quietAt execOp
    simp only [ho, hx, Instr.loadAt, Instr.sureAddr, Sem.run_bind, Sem.run_pure, Result.andThen_ok, hl]
    exact ⟨rfl, rfl⟩, hk⟩
theorem info_plan2 (x y : Int) : (Tryd.prog.info? 41).map (·.size) = some [Value.int .i64 x, Value.int .i64 y].length := by rw [show [Value.int .i64 x, Value.int .i64 y].length = 2 from rfl]; kernel_rfl
theorem info_geo2 (x y : Int) : (Tryd.prog.info? 23).map (·.size) = some [Value.int .i64 x, Value.int .i64 y].length := by rw [show [Value.int .i64 x, Value.int .i64 y].length = 2 from rfl]; kernel_rfl
theorem plan_sealed (p : Nat) (t : Int) (hp : p ≤ 64) (w : World) : Calls Tryd.prog 29 #[.agg #[.int .i64 (p : Int), .int .i64 t]] w fun e w' => e = .returned (.int .i64 ((Geo.se p : Nat) : Int)) ∧ Below w.heap.size w w' := by
  have hb : Below w.heap.size w (w.alloc (.cells #[.int .i64 (p : Int), .int .i64 t] 41)) := (Below.refl _ _).alloc (Nat.le_refl _) _
  have ht := Two.new w 41 (p : Int) t
  have HB := Lib.hid hb
  have HI := Lib.hid (info_plan2 (p : Int) t)
  have hm : Geo.mp p ≤ 5 := by unfold Geo.mp; omega
  have hse : Geo.se p = 1 + Geo.mp p + p := rfl
  have HM := Lib.hid (fun W => plan_maps p t hp W)
  generalize Geo.mp p = m at *
  generalize Geo.se p = s at *
  have q1 : (0 : Int) ≤ (m : Int) ∧ (m : Int) ≤ 5 := by omega
  have q2 : (0 : Int) ≤ (p : Int) ∧ (p : Int) ≤ 64 := by omega
  obtain ⟨q1a, q1b⟩ := q1
  obtain ⟨q2a, q2b⟩ := q2
  have HSE := Lib.hid hse
  clear hb hse hm
  go_enter Tryd.func29, Tryd.ntmps29
  go_wp2_with fail
  generalize w.alloc (.cells #[.int .i64 (p : Int), .int .i64 t] 41) = W0 at *
  have HT := Lib.hid ht
  clear ht
  refine wp_region_class (After W0) (by kernel_rfl) (by kernel_rfl) (After.drew W0) ?_
  repeat (first
    | go_big_quiet_skip
    | (go_big_quiet_want; first
      | (with_reducible refine quiet_load 41 (.tmp 1) rfl _ _ rfl [.int .i64 (p : Int), .int .i64 t] _ (fun w h => (HT.out.after h).range) Tryd.underlying41 rfl HI.out ?_; (simp only [Act.put, List.setIfInBounds_toArray, List.set_cons_zero, List.set_cons_succ]); go_big_quiet_on)
      | (with_reducible refine quiet_load1 3 (.tmp 6) rfl _ rfl .i64 Tryd.underlying3 _ (fun w h => (HT.out.after h).fst) ?_; (simp only [Act.put, List.setIfInBounds_toArray, List.set_cons_zero, List.set_cons_succ]); go_big_quiet_on)
      | (go_big_quiet_op; first
        | go_big_quiet_on
        | ((with_reducible refine ⟨_, fun _ _ => rfl, ?_⟩); go_big_quiet_on)
        | ((with_reducible refine ⟨_, fun W hW => calls_after hW (HM.out W), ?_⟩); go_big_quiet_on))))
  refine wpQuiet_nil ?_
  intro W4 hW4
  go_wp2
  go_ret
  exact ⟨ret_int (by rw [HSE.out]; omega), HB.out.trans (hW4.mono HB.out.size)⟩
theorem plan_epochs (p : Nat) (t : Int) (hp : p ≤ 64) (w : World) : Calls Tryd.prog 30 #[.agg #[.int .i64 (p : Int), .int .i64 t]] w fun e w' => e = .returned (.int .i64 ((Geo.ep p : Nat) : Int)) ∧ Below w.heap.size w w' := by
  have hb : Below w.heap.size w (w.alloc (.cells #[.int .i64 (p : Int), .int .i64 t] 41)) := (Below.refl _ _).alloc (Nat.le_refl _) _
  have HB := Lib.hid hb
  have hs : Geo.se p ≤ 1000 := by unfold Geo.se Geo.mp; omega
  have HS := Lib.hid hs
  have HM := Lib.hid (fun W => plan_sealed p t hp W)
  have HE : Hid (Geo.ep p = (Geo.se p + 31) / 32) := Lib.hid rfl
  generalize Geo.se p = s at *
  generalize Geo.ep p = ee at *
  clear hb hs
  go_enter Tryd.func30, Tryd.ntmps30
  go_wp2_with fail
  refine (HM.out _).mono ?_
  rintro e w1 ⟨rfl, hb1⟩
  have HB1 := Lib.hid (HB.out.trans (hb1.mono HB.out.size))
  clear hb1
  go_wp2_with fail
  refine (filled32 s HS.out _).mono ?_
  rintro e w2 ⟨rfl, rfl⟩
  go_wp2
  go_ret
  exact ⟨ret_int (by rw [HE.out]; omega), HB1.out⟩
theorem plan_leaves (p : Nat) (t : Int) (hp : p ≤ 64) (w : World) : Calls Tryd.prog 31 #[.agg #[.int .i64 (p : Int), .int .i64 t]] w fun e w' => e = .returned (.int .i64 ((Geo.lv p : Nat) : Int)) ∧ Below w.heap.size w w' := by
  have hb : Below w.heap.size w (w.alloc (.cells #[.int .i64 (p : Int), .int .i64 t] 41)) := (Below.refl _ _).alloc (Nat.le_refl _) _
  have ht := Two.new w 41 (p : Int) t
  have HB := Lib.hid hb
  have HI := Lib.hid (info_plan2 (p : Int) t)
  have hse : Geo.se p ≤ 200 := by unfold Geo.se Geo.mp; omega
  have hep : Geo.ep p ≤ 200 := by unfold Geo.ep; omega
  have HL : Hid (Geo.lv p = 1 + Geo.ep p + Geo.se p) := Lib.hid rfl
  have H1 := Lib.hid (fun W => plan_supers (p : Int) t W)
  have H2 := Lib.hid (fun W => plan_epochs p t hp W)
  have H3 := Lib.hid (fun W => plan_sealed p t hp W)
  generalize Geo.se p = s at *
  generalize Geo.ep p = ee at *
  generalize Geo.lv p = l at *
  have q1 : (0 : Int) ≤ (s : Int) := by omega
  have q2 : (s : Int) ≤ 200 := by omega
  have q3 : (0 : Int) ≤ (ee : Int) := by omega
  have q4 : (ee : Int) ≤ 200 := by omega
  clear hse hep
  clear hb
  go_enter Tryd.func31, Tryd.ntmps31
  go_wp2_with fail
  generalize w.alloc (.cells #[.int .i64 (p : Int), .int .i64 t] 41) = W0 at *
  have HT := Lib.hid ht
  clear ht
  refine wp_region_class (After W0) (by kernel_rfl) (by kernel_rfl) (After.drew W0) ?_
  repeat (first
    | go_big_quiet_skip
    | (go_big_quiet_want; first
      | (with_reducible refine quiet_load 41 (.tmp 1) rfl _ _ rfl [.int .i64 (p : Int), .int .i64 t] _ (fun w h => (HT.out.after h).range) Tryd.underlying41 rfl HI.out ?_; (simp only [Act.put, List.setIfInBounds_toArray, List.set_cons_zero, List.set_cons_succ]); go_big_quiet_on)
      | (go_big_quiet_op; first
        | go_big_quiet_on
        | ((with_reducible refine ⟨_, fun _ _ => rfl, ?_⟩); go_big_quiet_on)
        | ((with_reducible refine ⟨_, fun _ _ => ⟨rfl, rfl⟩, ?_⟩); go_big_quiet_on)
        | ((with_reducible refine ⟨_, fun W hW => calls_after hW (H1.out W), ?_⟩); go_big_quiet_on)
        | ((with_reducible refine ⟨_, fun W hW => calls_after hW (H2.out W), ?_⟩); go_big_quiet_on)
        | ((with_reducible refine ⟨_, fun W hW => calls_after hW (H3.out W), ?_⟩); go_big_quiet_on))))
  refine wpQuiet_nil ?_
  intro W4 hW4
  go_wp2
  go_ret
  exact ⟨ret_int (by rw [HL.out]; omega), HB.out.trans (hW4.mono HB.out.size)⟩
theorem plan_total (p : Nat) (t : Nat) (hp : p ≤ 64) (ht24 : t ≤ 24) (w : World) : Calls Tryd.prog 32 #[.agg #[.int .i64 (p : Int), .int .i64 (t : Int)]] w fun e w' => e = .returned (.int .i64 ((Geo.tot p t : Nat) : Int)) ∧ Below w.heap.size w w' := by
  have hb : Below w.heap.size w (w.alloc (.cells #[.int .i64 (p : Int), .int .i64 (t : Int)] 41)) := (Below.refl _ _).alloc (Nat.le_refl _) _
  have ht := Two.new w 41 (p : Int) (t : Int)
  have HB := Lib.hid hb
  have HI := Lib.hid (info_plan2 (p : Int) (t : Int))
  have hlv : Geo.lv p ≤ 1000 := by unfold Geo.lv Geo.ep Geo.se Geo.mp; omega
  have HL : Hid (Geo.tot p t = Geo.lv p + (1 + t)) := Lib.hid rfl
  have H1 := Lib.hid (fun W => plan_leaves p (t : Int) hp W)
  have H2 := Lib.hid (fun W => plan_logs (p : Int) t ht24 W)
  generalize Geo.lv p = l at *
  generalize Geo.tot p t = tt at *
  have q1 : (0 : Int) ≤ (l : Int) := by omega
  have q2 : (l : Int) ≤ 1000 := by omega
  have q3 : (0 : Int) ≤ ((1 + t : Nat) : Int) := by omega
  have q4 : ((1 + t : Nat) : Int) ≤ 1000 := by omega
  generalize hlg : 1 + t = lg at *
  have HLG := Lib.hid hlg
  clear hlv hlg
  clear hb
  go_enter Tryd.func32, Tryd.ntmps32
  go_wp2_with fail
  generalize w.alloc (.cells #[.int .i64 (p : Int), .int .i64 (t : Int)] 41) = W0 at *
  have HT := Lib.hid ht
  clear ht
  refine wp_region_class (After W0) (by kernel_rfl) (by kernel_rfl) (After.drew W0) ?_
  repeat (first
    | go_big_quiet_skip
    | (go_big_quiet_want; first
      | (with_reducible refine quiet_load 41 (.tmp 1) rfl _ _ rfl [.int .i64 (p : Int), .int .i64 (t : Int)] _ (fun w h => (HT.out.after h).range) Tryd.underlying41 rfl HI.out ?_; (simp only [Act.put, List.setIfInBounds_toArray, List.set_cons_zero, List.set_cons_succ]); go_big_quiet_on)
      | (go_big_quiet_op; first
        | go_big_quiet_on
        | ((with_reducible refine ⟨_, fun _ _ => rfl, ?_⟩); go_big_quiet_on)
        | ((with_reducible refine ⟨_, fun _ _ => ⟨rfl, rfl⟩, ?_⟩); go_big_quiet_on)
        | ((with_reducible refine ⟨_, fun W hW => calls_after hW (H1.out W), ?_⟩); go_big_quiet_on)
        | ((with_reducible refine ⟨_, fun W hW => calls_after hW (H2.out W), ?_⟩); go_big_quiet_on))))
  refine wpQuiet_nil ?_
  intro W4 hW4
  go_wp2
  go_ret
  exact ⟨ret_int (by rw [HL.out]; omega), HB.out.trans (hW4.mono HB.out.size)⟩
/-! how many a geometry has -/
abbrev EntersG (f : FuncId) : Prop := ∀ (args : Array Value) (w : World), (callFunc f args).run Tryd.prog w = .ok (.enter f args) w
theorem count_yes (f : FuncId) (v : Int) (p t : Int) (hf : EntersG f) (hc : ∀ W, Calls Tryd.prog f #[.agg #[.int .i64 p, .int .i64 t]] W fun e w' => e = .returned (.int .i64 v) ∧ Below W.heap.size W w') (h : Geo.May p t) (w : World) :
    Calls Tryd.prog 17 #[.agg #[.int .i64 p, .int .i64 t], .func (Fn.func f) #[] #[]] w fun e w' => e = .returned (.int .i64 v) ∧ Below w.heap.size w w' := by
  have hb : Below w.heap.size w (w.alloc (.cells #[.int .i64 p, .int .i64 t] 23)) := (Below.refl _ _).alloc (Nat.le_refl _) _
  have ht := Two.new w 23 p t
  have HB := Lib.hid hb
  have HT := Lib.hid ht
  have HC := Lib.hid hc
  have HM := Lib.hid h
  have HI : Hid ((Tryd.prog.info? 23).map (·.size) = some (#[Value.int .i64 p, Value.int .i64 t] : Array Value).size) := Lib.hid (info_geo2 p t)
  clear hb ht hc h
  go_enter Tryd.func17, Tryd.ntmps17
  go_wp2_with fail
  generalize w.alloc (.cells #[.int .i64 p, .int .i64 t] 23) = W0 at *
  refine (check_yes p t HM.out _).mono ?_
  rintro e w1 ⟨rfl, hb1⟩
  have HT1 := Lib.hid (HT.out.after hb1)
  have HB1 := Lib.hid (HB.out.trans (hb1.mono HB.out.size))
  clear hb1
  have c0 := HT1.out.fst
  have c1 := HT1.out.snd
  go_wp2_with fail
  refine (HC.out _).mono ?_
  rintro e w2 ⟨rfl, hb2⟩
  have HB2 := Lib.hid (HB1.out.trans (hb2.mono HB1.out.size))
  clear hb2
  go_wp2
  go_ret
  exact ⟨rfl, HB2.out⟩
theorem count_no (F : Value) (p t : Int) (h : ¬ Geo.May p t) (w : World) :
    Calls Tryd.prog 17 #[.agg #[.int .i64 p, .int .i64 t], F] w fun e w' => e = .returned (.int .i64 0) ∧ Below w.heap.size w w' := by
  have hb : Below w.heap.size w (w.alloc (.cells #[.int .i64 p, .int .i64 t] 23)) := (Below.refl _ _).alloc (Nat.le_refl _) _
  have HB := Lib.hid hb
  have HM := Lib.hid h
  clear hb h
  go_enter Tryd.func17, Tryd.ntmps17
  go_wp2_with fail
  refine (check_no p t HM.out _).mono ?_
  rintro e w1 ⟨rfl, hb1⟩
  have HB1 := Lib.hid (HB.out.trans (hb1.mono HB.out.size))
  clear hb1
  go_wp2
  go_ret
  exact ⟨rfl, HB1.out⟩
theorem geo_Maps_yes (p t : Nat) (hp : p ≤ 64) (ht24 : t ≤ 24) (h : Geo.May p t) (w : World) : Calls Tryd.prog 19 #[.agg #[.int .i64 (p : Int), .int .i64 (t : Int)]] w fun e w' => e = .returned (.int .i64 ((Geo.mp p : Nat) : Int)) ∧ Below w.heap.size w w' := by
  have hb : Below w.heap.size w (w.alloc (.cells #[.int .i64 (p : Int), .int .i64 (t : Int)] 23)) := (Below.refl _ _).alloc (Nat.le_refl _) _
  have HB := Lib.hid hb
  have HC := Lib.hid (fun W => count_yes 28 ((Geo.mp p : Nat) : Int) (p : Int) (t : Int) (fun _ _ => rfl) (fun W => plan_maps p (t : Int) hp W) h W)
  clear hb h
  generalize Geo.mp p = vv at *
  go_enter Tryd.func19, Tryd.ntmps19
  go_wp2_with fail
  refine (HC.out _).mono ?_
  rintro e w1 ⟨rfl, hb1⟩
  have HB1 := Lib.hid (HB.out.trans (hb1.mono HB.out.size))
  clear hb1
  go_wp2
  go_ret
  exact ⟨rfl, HB1.out⟩
theorem geo_Maps_no (p t : Int) (h : ¬ Geo.May p t) (w : World) : Calls Tryd.prog 19 #[.agg #[.int .i64 p, .int .i64 t]] w fun e w' => e = .returned (.int .i64 0) ∧ Below w.heap.size w w' := by
  have hb : Below w.heap.size w (w.alloc (.cells #[.int .i64 p, .int .i64 t] 23)) := (Below.refl _ _).alloc (Nat.le_refl _) _
  have HB := Lib.hid hb
  have HC := Lib.hid (fun W => count_no (.func (Fn.func 28) #[] #[]) p t h W)
  clear hb
  go_enter Tryd.func19, Tryd.ntmps19
  go_wp2_with fail
  refine (HC.out _).mono ?_
  rintro e w1 ⟨rfl, hb1⟩
  have HB1 := Lib.hid (HB.out.trans (hb1.mono HB.out.size))
  clear hb1
  go_wp2
  go_ret
  exact ⟨rfl, HB1.out⟩
theorem geo_Sealed_yes (p t : Nat) (hp : p ≤ 64) (ht24 : t ≤ 24) (h : Geo.May p t) (w : World) : Calls Tryd.prog 21 #[.agg #[.int .i64 (p : Int), .int .i64 (t : Int)]] w fun e w' => e = .returned (.int .i64 ((Geo.se p : Nat) : Int)) ∧ Below w.heap.size w w' := by
  have hb : Below w.heap.size w (w.alloc (.cells #[.int .i64 (p : Int), .int .i64 (t : Int)] 23)) := (Below.refl _ _).alloc (Nat.le_refl _) _
  have HB := Lib.hid hb
  have HC := Lib.hid (fun W => count_yes 29 ((Geo.se p : Nat) : Int) (p : Int) (t : Int) (fun _ _ => rfl) (fun W => plan_sealed p (t : Int) hp W) h W)
  clear hb h
  generalize Geo.se p = vv at *
  go_enter Tryd.func21, Tryd.ntmps21
  go_wp2_with fail
  refine (HC.out _).mono ?_
  rintro e w1 ⟨rfl, hb1⟩
  have HB1 := Lib.hid (HB.out.trans (hb1.mono HB.out.size))
  clear hb1
  go_wp2
  go_ret
  exact ⟨rfl, HB1.out⟩
theorem geo_Sealed_no (p t : Int) (h : ¬ Geo.May p t) (w : World) : Calls Tryd.prog 21 #[.agg #[.int .i64 p, .int .i64 t]] w fun e w' => e = .returned (.int .i64 0) ∧ Below w.heap.size w w' := by
  have hb : Below w.heap.size w (w.alloc (.cells #[.int .i64 p, .int .i64 t] 23)) := (Below.refl _ _).alloc (Nat.le_refl _) _
  have HB := Lib.hid hb
  have HC := Lib.hid (fun W => count_no (.func (Fn.func 29) #[] #[]) p t h W)
  clear hb
  go_enter Tryd.func21, Tryd.ntmps21
  go_wp2_with fail
  refine (HC.out _).mono ?_
  rintro e w1 ⟨rfl, hb1⟩
  have HB1 := Lib.hid (HB.out.trans (hb1.mono HB.out.size))
  clear hb1
  go_wp2
  go_ret
  exact ⟨rfl, HB1.out⟩
theorem geo_Epochs_yes (p t : Nat) (hp : p ≤ 64) (ht24 : t ≤ 24) (h : Geo.May p t) (w : World) : Calls Tryd.prog 22 #[.agg #[.int .i64 (p : Int), .int .i64 (t : Int)]] w fun e w' => e = .returned (.int .i64 ((Geo.ep p : Nat) : Int)) ∧ Below w.heap.size w w' := by
  have hb : Below w.heap.size w (w.alloc (.cells #[.int .i64 (p : Int), .int .i64 (t : Int)] 23)) := (Below.refl _ _).alloc (Nat.le_refl _) _
  have HB := Lib.hid hb
  have HC := Lib.hid (fun W => count_yes 30 ((Geo.ep p : Nat) : Int) (p : Int) (t : Int) (fun _ _ => rfl) (fun W => plan_epochs p (t : Int) hp W) h W)
  clear hb h
  generalize Geo.ep p = vv at *
  go_enter Tryd.func22, Tryd.ntmps22
  go_wp2_with fail
  refine (HC.out _).mono ?_
  rintro e w1 ⟨rfl, hb1⟩
  have HB1 := Lib.hid (HB.out.trans (hb1.mono HB.out.size))
  clear hb1
  go_wp2
  go_ret
  exact ⟨rfl, HB1.out⟩
theorem geo_Epochs_no (p t : Int) (h : ¬ Geo.May p t) (w : World) : Calls Tryd.prog 22 #[.agg #[.int .i64 p, .int .i64 t]] w fun e w' => e = .returned (.int .i64 0) ∧ Below w.heap.size w w' := by
  have hb : Below w.heap.size w (w.alloc (.cells #[.int .i64 p, .int .i64 t] 23)) := (Below.refl _ _).alloc (Nat.le_refl _) _
  have HB := Lib.hid hb
  have HC := Lib.hid (fun W => count_no (.func (Fn.func 30) #[] #[]) p t h W)
  clear hb
  go_enter Tryd.func22, Tryd.ntmps22
  go_wp2_with fail
  refine (HC.out _).mono ?_
  rintro e w1 ⟨rfl, hb1⟩
  have HB1 := Lib.hid (HB.out.trans (hb1.mono HB.out.size))
  clear hb1
  go_wp2
  go_ret
  exact ⟨rfl, HB1.out⟩
theorem geo_Leaves_yes (p t : Nat) (hp : p ≤ 64) (ht24 : t ≤ 24) (h : Geo.May p t) (w : World) : Calls Tryd.prog 23 #[.agg #[.int .i64 (p : Int), .int .i64 (t : Int)]] w fun e w' => e = .returned (.int .i64 ((Geo.lv p : Nat) : Int)) ∧ Below w.heap.size w w' := by
  have hb : Below w.heap.size w (w.alloc (.cells #[.int .i64 (p : Int), .int .i64 (t : Int)] 23)) := (Below.refl _ _).alloc (Nat.le_refl _) _
  have HB := Lib.hid hb
  have HC := Lib.hid (fun W => count_yes 31 ((Geo.lv p : Nat) : Int) (p : Int) (t : Int) (fun _ _ => rfl) (fun W => plan_leaves p (t : Int) hp W) h W)
  clear hb h
  generalize Geo.lv p = vv at *
  go_enter Tryd.func23, Tryd.ntmps23
  go_wp2_with fail
  refine (HC.out _).mono ?_
  rintro e w1 ⟨rfl, hb1⟩
  have HB1 := Lib.hid (HB.out.trans (hb1.mono HB.out.size))
  clear hb1
  go_wp2
  go_ret
  exact ⟨rfl, HB1.out⟩
theorem geo_Leaves_no (p t : Int) (h : ¬ Geo.May p t) (w : World) : Calls Tryd.prog 23 #[.agg #[.int .i64 p, .int .i64 t]] w fun e w' => e = .returned (.int .i64 0) ∧ Below w.heap.size w w' := by
  have hb : Below w.heap.size w (w.alloc (.cells #[.int .i64 p, .int .i64 t] 23)) := (Below.refl _ _).alloc (Nat.le_refl _) _
  have HB := Lib.hid hb
  have HC := Lib.hid (fun W => count_no (.func (Fn.func 31) #[] #[]) p t h W)
  clear hb
  go_enter Tryd.func23, Tryd.ntmps23
  go_wp2_with fail
  refine (HC.out _).mono ?_
  rintro e w1 ⟨rfl, hb1⟩
  have HB1 := Lib.hid (HB.out.trans (hb1.mono HB.out.size))
  clear hb1
  go_wp2
  go_ret
  exact ⟨rfl, HB1.out⟩
theorem geo_Total_yes (p t : Nat) (hp : p ≤ 64) (ht24 : t ≤ 24) (h : Geo.May p t) (w : World) : Calls Tryd.prog 24 #[.agg #[.int .i64 (p : Int), .int .i64 (t : Int)]] w fun e w' => e = .returned (.int .i64 ((Geo.tot p t : Nat) : Int)) ∧ Below w.heap.size w w' := by
  have hb : Below w.heap.size w (w.alloc (.cells #[.int .i64 (p : Int), .int .i64 (t : Int)] 23)) := (Below.refl _ _).alloc (Nat.le_refl _) _
  have HB := Lib.hid hb
  have HC := Lib.hid (fun W => count_yes 32 ((Geo.tot p t : Nat) : Int) (p : Int) (t : Int) (fun _ _ => rfl) (fun W => plan_total p t hp ht24 W) h W)
  clear hb h
  generalize Geo.tot p t = vv at *
  go_enter Tryd.func24, Tryd.ntmps24
  go_wp2_with fail
  refine (HC.out _).mono ?_
  rintro e w1 ⟨rfl, hb1⟩
  have HB1 := Lib.hid (HB.out.trans (hb1.mono HB.out.size))
  clear hb1
  go_wp2
  go_ret
  exact ⟨rfl, HB1.out⟩
theorem geo_Total_no (p t : Int) (h : ¬ Geo.May p t) (w : World) : Calls Tryd.prog 24 #[.agg #[.int .i64 p, .int .i64 t]] w fun e w' => e = .returned (.int .i64 0) ∧ Below w.heap.size w w' := by
  have hb : Below w.heap.size w (w.alloc (.cells #[.int .i64 p, .int .i64 t] 23)) := (Below.refl _ _).alloc (Nat.le_refl _) _
  have HB := Lib.hid hb
  have HC := Lib.hid (fun W => count_no (.func (Fn.func 32) #[] #[]) p t h W)
  clear hb
  go_enter Tryd.func24, Tryd.ntmps24
  go_wp2_with fail
  refine (HC.out _).mono ?_
  rintro e w1 ⟨rfl, hb1⟩
  have HB1 := Lib.hid (HB.out.trans (hb1.mono HB.out.size))
  clear hb1
  go_wp2
  go_ret
  exact ⟨rfl, HB1.out⟩
end Go.Proofs.YtokekhiibbhamaaDoor
