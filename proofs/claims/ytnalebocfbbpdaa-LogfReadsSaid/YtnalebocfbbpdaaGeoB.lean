/-
  Geometries: the program's counts, and the example.
-/
import Derived.Test.YtnalebocfbbpdaaGeoA
namespace Go.Proofs.Ytnalebocfbbpdaa
open Go.RowKit Go
set_option linter.unusedVariables false
set_option linter.unusedSimpArgs false
theorem quiet_load1 {P : Program} {C : World → Prop} {o : Oper} {a : Act} {K : Act → Prop} (ty : TypeId) (x : Operand) (ho : o.op = .load ty x) (ad : Addr) (hx : a.eval x = .pointer (some ad)) (k : IntKind) (hu : P.underlying ty = some (.int k)) (v : Value)
    (hS : ∀ w, C w → w.cell? ad = some v) (hk : K (a.put o.dst v)) : o.quiet P a C K :=
  ⟨_, fun w hw => by
    have h := hS w hw
    have hl : (loadVar ty ad).run P w = .ok v w := by
      simp [loadVar, isAgg, go_sem, h, run_underlying hu]
    unfold Oper.quietAt execOp
    simp only [ho, hx, Instr.loadAt, Instr.sureAddr, Sem.run_bind, Sem.run_pure, Result.andThen_ok, hl]
    exact ⟨rfl, rfl⟩, hk⟩
theorem info_plan2 (x y : Int) : (Try.prog.info? 85).map (·.size) = some [Value.int .i64 x, Value.int .i64 y].length := by rw [show [Value.int .i64 x, Value.int .i64 y].length = 2 from rfl]; kernel_rfl
theorem info_geo2 (x y : Int) : (Try.prog.info? 23).map (·.size) = some [Value.int .i64 x, Value.int .i64 y].length := by rw [show [Value.int .i64 x, Value.int .i64 y].length = 2 from rfl]; kernel_rfl
theorem plan_sealed (p : Nat) (t : Int) (hp : p ≤ 64) (w : World) : Calls Try.prog 49 #[.agg #[.int .i64 (p : Int), .int .i64 t]] w fun e w' => e = .returned (.int .i64 ((Geo.se p : Nat) : Int)) ∧ Below w.heap.size w w' := by
  have hb : Below w.heap.size w (w.alloc (.cells #[.int .i64 (p : Int), .int .i64 t] 85)) := (Below.refl _ _).alloc (Nat.le_refl _) _
  have ht := Two.new w 85 (p : Int) t
  have HB := Lib.hid hb
  have HI := Lib.hid (info_plan2 (p : Int) t)
  have hm : Geo.mp p ≤ 5 := by unfold Geo.mp; omega
  have hse : Geo.se p = 1 + Geo.mp p + p := rfl
  have HM := Lib.hid (fun W => plan_maps p t hp W)
  generalize Geo.mp p = m at *
  generalize Geo.se p = s at *
  have q1 : (0 : Int) ≤ (m : Int) ∧ (m : Int) ≤ 5 := by omega
  have q2 : (0 : Int) ≤ (p : Int) ∧ (p : Int) ≤ 64 := by omega
  obtain ⟨q1a, q1b⟩ := q1
  obtain ⟨q2a, q2b⟩ := q2
  have HSE := Lib.hid hse
  clear hb hse hm
  go_enter Try.func49, Try.ntmps49
  go_wp2_with fail
  generalize w.alloc (.cells #[.int .i64 (p : Int), .int .i64 t] 85) = W0 at *
  have HT := Lib.hid ht
  clear ht
  refine wp_region_class (After W0) (by kernel_rfl) (by kernel_rfl) (After.drew W0) ?_
  repeat (first
    | go_big_quiet_skip
    | (go_big_quiet_want; first
      | (with_reducible refine quiet_load 85 (.tmp 1) rfl _ _ rfl [.int .i64 (p : Int), .int .i64 t] _ (fun w h => (HT.out.after h).range) Try.underlying85 rfl HI.out ?_; (simp only [Act.put, List.setIfInBounds_toArray, List.set_cons_zero, List.set_cons_succ]); go_big_quiet_on)
      | (with_reducible refine quiet_load1 3 (.tmp 6) rfl _ rfl .i64 Try.underlying3 _ (fun w h => (HT.out.after h).fst) ?_; (simp only [Act.put, List.setIfInBounds_toArray, List.set_cons_zero, List.set_cons_succ]); go_big_quiet_on)
      | (go_big_quiet_op; first
        | go_big_quiet_on
        | ((with_reducible refine ⟨_, fun _ _ => rfl, ?_⟩); go_big_quiet_on)
        | ((with_reducible refine ⟨_, fun W hW => calls_after hW (HM.out W), ?_⟩); go_big_quiet_on))))
  refine wpQuiet_nil ?_
  intro W4 hW4
  go_wp2
  go_ret
  exact ⟨ret_int (by rw [HSE.out]; omega), HB.out.trans (hW4.mono HB.out.size)⟩
/-! how many a geometry has -/
abbrev EntersG (f : FuncId) : Prop := ∀ (args : Array Value) (w : World), (callFunc f args).run Try.prog w = .ok (.enter f args) w
theorem count_yes (f : FuncId) (v : Int) (p t : Int) (hf : EntersG f) (hc : ∀ W, Calls Try.prog f #[.agg #[.int .i64 p, .int .i64 t]] W fun e w' => e = .returned (.int .i64 v) ∧ Below W.heap.size W w') (h : Geo.May p t) (w : World) :
    Calls Try.prog 48 #[.agg #[.int .i64 p, .int .i64 t], .func (Fn.func f) #[] #[]] w fun e w' => e = .returned (.int .i64 v) ∧ Below w.heap.size w w' := by
  have hb : Below w.heap.size w (w.alloc (.cells #[.int .i64 p, .int .i64 t] 23)) := (Below.refl _ _).alloc (Nat.le_refl _) _
  have ht := Two.new w 23 p t
  have HB := Lib.hid hb
  have HT := Lib.hid ht
  have HC := Lib.hid hc
  have HM := Lib.hid h
  have HI : Hid ((Try.prog.info? 23).map (·.size) = some (#[Value.int .i64 p, Value.int .i64 t] : Array Value).size) := Lib.hid (info_geo2 p t)
  clear hb ht hc h
  go_enter Try.func48, Try.ntmps48
  go_wp2_with fail
  generalize w.alloc (.cells #[.int .i64 p, .int .i64 t] 23) = W0 at *
  refine (check_yes p t HM.out _).mono ?_
  rintro e w1 ⟨rfl, hb1⟩
  have HT1 := Lib.hid (HT.out.after hb1)
  have HB1 := Lib.hid (HB.out.trans (hb1.mono HB.out.size))
  clear hb1
  have c0 := HT1.out.fst
  have c1 := HT1.out.snd
  go_wp2_with fail
  refine (HC.out _).mono ?_
  rintro e w2 ⟨rfl, hb2⟩
  have HB2 := Lib.hid (HB1.out.trans (hb2.mono HB1.out.size))
  clear hb2
  go_wp2
  go_ret
  exact ⟨rfl, HB2.out⟩
theorem count_no (F : Value) (p t : Int) (h : ¬ Geo.May p t) (w : World) :
    Calls Try.prog 48 #[.agg #[.int .i64 p, .int .i64 t], F] w fun e w' => e = .returned (.int .i64 0) ∧ Below w.heap.size w w' := by
  have hb : Below w.heap.size w (w.alloc (.cells #[.int .i64 p, .int .i64 t] 23)) := (Below.refl _ _).alloc (Nat.le_refl _) _
  have HB := Lib.hid hb
  have HM := Lib.hid h
  clear hb h
  go_enter Try.func48, Try.ntmps48
  go_wp2_with fail
  refine (check_no p t HM.out _).mono ?_
  rintro e w1 ⟨rfl, hb1⟩
  have HB1 := Lib.hid (HB.out.trans (hb1.mono HB.out.size))
  clear hb1
  go_wp2
  go_ret
  exact ⟨rfl, HB1.out⟩
theorem geo_Sealed_yes (p t : Nat) (hp : p ≤ 64) (ht24 : t ≤ 24) (h : Geo.May p t) (w : World) : Calls Try.prog 37 #[.agg #[.int .i64 (p : Int), .int .i64 (t : Int)]] w fun e w' => e = .returned (.int .i64 ((Geo.se p : Nat) : Int)) ∧ Below w.heap.size w w' := by
  have hb : Below w.heap.size w (w.alloc (.cells #[.int .i64 (p : Int), .int .i64 (t : Int)] 23)) := (Below.refl _ _).alloc (Nat.le_refl _) _
  have HB := Lib.hid hb
  have HC := Lib.hid (fun W => count_yes 49 ((Geo.se p : Nat) : Int) (p : Int) (t : Int) (fun _ _ => rfl) (fun W => plan_sealed p (t : Int) hp W) h W)
  clear hb h
  generalize Geo.se p = vv at *
  go_enter Try.func37, Try.ntmps37
  go_wp2_with fail
  refine (HC.out _).mono ?_
  rintro e w1 ⟨rfl, hb1⟩
  have HB1 := Lib.hid (HB.out.trans (hb1.mono HB.out.size))
  clear hb1
  go_wp2
  go_ret
  exact ⟨rfl, HB1.out⟩
theorem geo_Sealed_no (p t : Int) (h : ¬ Geo.May p t) (w : World) : Calls Try.prog 37 #[.agg #[.int .i64 p, .int .i64 t]] w fun e w' => e = .returned (.int .i64 0) ∧ Below w.heap.size w w' := by
  have hb : Below w.heap.size w (w.alloc (.cells #[.int .i64 p, .int .i64 t] 23)) := (Below.refl _ _).alloc (Nat.le_refl _) _
  have HB := Lib.hid hb
  have HC := Lib.hid (fun W => count_no (.func (Fn.func 49) #[] #[]) p t h W)
  clear hb
  go_enter Try.func37, Try.ntmps37
  go_wp2_with fail
  refine (HC.out _).mono ?_
  rintro e w1 ⟨rfl, hb1⟩
  have HB1 := Lib.hid (HB.out.trans (hb1.mono HB.out.size))
  clear hb1
  go_wp2
  go_ret
  exact ⟨rfl, HB1.out⟩
end Go.Proofs.Ytnalebocfbbpdaa
