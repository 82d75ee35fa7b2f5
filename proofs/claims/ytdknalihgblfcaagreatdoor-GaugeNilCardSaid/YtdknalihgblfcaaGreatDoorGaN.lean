/-
  GaugeNil's walk: of what is not there nothing is told.
-/
import Derived.Test.YtdknalihgblfcaaGreatDoorGaC
namespace Go.Proofs.YtdknalihgblfcaaGreatDoor
open Go.RowKit Go
set_option linter.unusedVariables false
set_option linter.unusedSimpArgs false
set_option maxRecDepth 100000
theorem results_row_ga {P : Program} {fn : Func} {p u : Tmp} {ty : TypeId} (h : fn.results = #[.cell p ty, .tmp u]) (tmps : Array Value) (w : World) (g : Nat) (t : TypeId) (cs : Array Value) (fr : Nat × Nat) (d : TypeDesc)
    (v2 : Value) (hp : tmps.getD p undef = .pointer (some ⟨g, 0, none⟩)) (hv2 : tmps.getD u undef = v2) (hg : w.heap[g]? = some (.cells cs t fr))
    (hu : P.underlying ty = some d) (hd : (match d with | .struct _ | .array _ _ => true | _ => false) = true) (hi : (P.info? ty).map (·.size) = some cs.size) :
    (results fn tmps).run P w = .ok (.tuple #[.agg cs, v2]) w := by
  subst hv2
  have hp' : tmps[p]?.getD undef = .pointer (some ⟨g, 0, none⟩) := by simpa using hp
  simp [results, h, hp', asAddr, run_loadVar_row w g t ty cs fr d hg hu hd hi, Sem.run_bind, Result.andThen]
theorem exec_bin {P : Program} {o : Oper} {a : Act} {w : World} (op : BinOp) (t t2 : TypeId) (x y : Operand) (ho : o.op = .binOp op t x y t2) (vx vy v : Value) (hx : a.eval x = vx) (hy : a.eval y = vy) (hg : (eqGuard op t x y vx vy).run P w = .ok () w) (hr : (binOp op t vx vy).run P w = .ok v w) : (execOp a.eval o).run P w = .ok (.value v) w := by
  unfold execOp
  simp [ho, hx, hy, hg, hr, Result.andThen]
theorem ga_guard (x y : Operand) (a b : Array Value) (W : World) : (eqGuard .eql 24 x y (.agg a) (.agg b)).run Tryz.prog W = .ok () W := by kernel_rfl
theorem wpList_binU {P : Program} {ops : Array Oper} {rest : List Oper} {o : Oper} {a : Act} {w : World} {Q : Exit → Act → World → Prop} (hw : Region.wanted o (yielded ops a.tmps) = true) (op : BinOp) (t t2 : TypeId) (x y : Operand) (ho : o.op = .binOp op t x y t2) (vx vy v : Value) (hx : a.eval x = vx) (hy : a.eval y = vy) (hg : (eqGuard op t x y vx vy).run P w = .ok () w) (hr : (binOp op t vx vy).run P w = .ok v w)
    (h : wpList P ops Q rest (a.put o.dst v) w) : wpList P ops Q (o :: rest) a w := wpList_step fun K hK => by
  rw [if_pos hw]
  have he := exec_bin op t t2 x y ho vx vy v hx hy hg hr
  unfold Oper.wp
  rw [he]
  exact hK _ _ h
theorem room_eq (W : World) : (binOp .eql 24 (.agg (rmC 0 0 (fun _ => 0))) (.agg (rmC 0 0 (fun _ => 0)))).run Tryz.prog W = .ok (.bool true) W := by
  simp only [rmC]
  kernel_rfl
theorem anone_nil (w : World) : Calls Tryz.prog 18 #[.pointer none] w fun e w' => e = .returned (.bool true) ∧ w = w' := by
  go_enter Tryz.func18, Tryz.ntmps18
  go_wp2
  go_ret
  exact ⟨rfl, rfl⟩
theorem walk_nil (w : World) : Calls Tryz.prog 8 #[.pointer none] w fun e w' => e = .returned (.tuple #[.slice none 0 0, .int .i64 2]) ∧ w = w' := by
  go_enter Tryz.func8, Tryz.ntmps8
  go_wp2_with fail
  refine (anone_nil _).mono ?_
  rintro e w' ⟨rfl, rfl⟩
  go_wp2
  go_ret2
  exact ⟨rfl, rfl⟩
set_option maxHeartbeats 2000000 in
theorem of_nil (w : World) : Calls Tryz.prog 4 #[.pointer none] w fun e w' => e = .returned (.tuple #[.agg (rmC 0 0 (fun _ => 0)), .int .i64 2]) ∧ Below w.heap.size w w' := by
  have hx := heap_alloc_new w (.cells (rmC 0 0 (fun _ => 0)) 24)
  have hb : Below w.heap.size w (w.alloc (.cells (rmC 0 0 (fun _ => 0)) 24)) := (Below.refl _ _).alloc (Nat.le_refl _) _
  have HX := Lib.hid hx
  have HB := Lib.hid hb
  clear hx hb
  go_enter Tryz.func4, Tryz.ntmps4
  go_wp2_with fail
  refine (walk_nil _).mono ?_
  rintro e w' ⟨rfl, rfl⟩
  go_wp2_with fail
  have HI : Hid ((Tryz.prog.info? 24).map (·.size) = some (rmC 0 0 (fun _ => 0)).size) := Lib.hid (by rw [show (rmC 0 0 (fun _ => 0)).size = 10 from rfl]; kernel_rfl)
  exact bodyPost_ret (v := .tuple #[.agg (rmC 0 0 (fun _ => 0)), .int .i64 2]) (results_row_ga rfl _ _ _ 24 _ (0, 0) _ _ rfl rfl HX.out Tryz.underlying24 rfl HI.out) rfl ⟨rfl, HB.out⟩
theorem fit00 (n : Int) : ¬ FitP 0 0 (fun _ => 0) n := by
  rintro (⟨j, hj, h⟩ | ⟨h1, h2, h3⟩)
  · rcases h with h | h
    · exact absurd h (by show ¬ (0 : Int) < 0; omega)
    · exact absurd h (by show ¬ (0 : Int) < 0; omega)
  · have : 1 ≤ (n.toNat + 255) / 256 := by omega
    omega
theorem most00 : MostP 0 0 (fun _ => 0) 0 := ⟨by omega, fun h => absurd rfl h, fun k _ _ => fit00 _⟩
set_option maxHeartbeats 4000000 in
theorem gaugeNil_any (n : Int) (w : World) (hS : SZ w) :
    Calls Tryz.prog 3 #[.int .i64 n] w fun e w' => e = .returned (.bool true) ∧ Below w.heap.size w w' := by
  have HS := Lib.hid hS
  clear hS
  go_enter Tryz.func3, Tryz.ntmps3
  go_wp2_with fail
  refine (of_nil _).mono ?_
  rintro e w1 ⟨rfl, hb1⟩
  obtain ⟨W1, hW⟩ : ∃ W1, W1 = w1.alloc (.cells (rmC 0 0 (fun _ => 0)) 24) := ⟨_, rfl⟩
  have hb2 : Below w.heap.size w W1 := by rw [hW]; exact hb1.alloc hb1.size _
  have hx1 : W1.heap[w1.heap.size]? = some (.cells (rmC 0 0 (fun _ => 0)) 24 (0, 0)) := by rw [hW]; exact heap_alloc_new w1 _
  obtain ⟨g, hg⟩ : ∃ g, g = w1.heap.size := ⟨_, rfl⟩
  rw [← hg] at hx1
  have HG := Lib.hid hg
  have HB1 := Lib.hid hb2
  have HS1 := Lib.hid (HS.out.below hb2)
  have HK := Lib.hid (fun (W : World) (h : Below W1.heap.size W1 W) => rm_cells ((h.block _ (blk_lt hx1)).trans hx1))
  have hW' := hW.symm
  simp only [rmC] at hW'
  have HW := Lib.hid hW'
  clear hb1 hb2 hx1 hg hW hW'
  simp only [rmC]
  go_wp2_with fail
  rw [HW.out, ← HG.out]
  obtain ⟨c0, c1, c2, c3, c4, c5, c6, c7, c8, c9⟩ := HK.out W1 (Below.refl _ _)
  have hq : (Op.equalIn 9999 22 (.agg #[.int .i64 0, .int .i64 0, .int .i64 0, .int .i64 0, .int .i64 0, .int .i64 0, .int .i64 0, .int .i64 0]) (.agg #[.int .i64 0, .int .i64 0, .int .i64 0, .int .i64 0, .int .i64 0, .int .i64 0, .int .i64 0, .int .i64 0])).run Tryz.prog W1 = .ok true W1 := by kernel_rfl
  have HQ := Lib.hid hq
  clear hq
  go_wp2_with fail
  generalize hz : Sem.run Tryz.prog (Op.equalIn _ 22 _ _) W1 = R
  obtain rfl : R = .ok true W1 := by rw [← hz]; exact HQ.out
  clear hz
  rw [show (((((Result.ok true W1 : Result Bool).andThen fun a w' => if a = false then Result.ok false w' else Result.ok true w').andThen fun b w' => Result.ok (Value.bool b) w').andThen fun a w' => Result.ok (Next.value a) w') : Result Next) = Result.ok (Next.value (.bool true)) W1 from rfl]
  go_wp2_with fail
  obtain ⟨b, hb, hc⟩ := fits1_at 0 0 (fun _ => 0) n
  obtain rfl : b = false := by
    cases b
    · rfl
    · exact absurd (hb.mp rfl) (fit00 n)
  refine (hc W1 HS1.out).mono ?_
  rintro e w2 ⟨rfl, hb2⟩
  have HB2 := Lib.hid hb2
  clear hb hc hb2 c0 c1 c2 c3 c4 c5 c6 c7 c8 c9
  obtain ⟨c0, c1, c2, c3, c4, c5, c6, c7, c8, c9⟩ := HK.out w2 HB2.out
  go_wp2_with fail
  refine (most_any 0 0 (fun _ => 0) 0 most00 w2 (HS1.out.below HB2.out)).mono ?_
  rintro e w3 ⟨rfl, hb3⟩
  have HB3 := Lib.hid (HB2.out.trans (hb3.mono HB2.out.size))
  clear hb3 c0 c1 c2 c3 c4 c5 c6 c7 c8 c9
  go_wp2_with fail
  refine (awake26_any w3 (HS1.out.below HB3.out)).mono ?_
  rintro e w4 ⟨rfl, hb4⟩
  have HB4 := Lib.hid (HB1.out.trans ((HB3.out.trans (hb4.mono HB3.out.size)).mono HB1.out.size))
  clear hb4
  go_wp2
  go_ret
  exact ⟨rfl, HB4.out⟩
end Go.Proofs.YtdknalihgblfcaaGreatDoor
