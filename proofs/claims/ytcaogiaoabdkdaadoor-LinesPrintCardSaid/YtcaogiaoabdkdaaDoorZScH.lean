/-
  Package script: beyond.
-/
import Derived.Test.YtcaogiaoabdkdaaDoorZScG
namespace Go.Proofs.YtcaogiaoabdkdaaDoor
open Go.RowKit Go
set_option linter.unusedVariables false
set_option linter.unusedSimpArgs false
set_option maxRecDepth 100000
theorem results_row_tmp {P : Program} {fn : Func} {p u : Tmp} {ty : TypeId} (h : fn.results = #[.cell p ty, .tmp u]) (tmps : Array Value) (w : World) (g : Nat) (t : TypeId) (cs : Array Value) (fr : Nat × Nat) (d : TypeDesc)
    (v2 : Value) (hp : tmps.getD p undef = .pointer (some ⟨g, 0, none⟩)) (hv2 : tmps.getD u undef = v2) (hg : w.heap[g]? = some (.cells cs t fr))
    (hu : P.underlying ty = some d) (hd : (match d with | .struct _ | .array _ _ => true | _ => false) = true) (hi : (P.info? ty).map (·.size) = some cs.size) :
    (results fn tmps).run P w = .ok (.tuple #[.agg cs, v2]) w := by
  subst hv2
  have hp' : tmps[p]?.getD undef = .pointer (some ⟨g, 0, none⟩) := by simpa using hp
  simp [results, h, hp', asAddr, run_loadVar_row w g t ty cs fr d hg hu hd hi, Sem.run_bind, Result.andThen]
theorem one7 (a b c d e : Int) (y : Bool) (A : Option Addr) (n m : Nat) : (#[Value.int .i64 a, Value.bool y, Value.int .i64 b, Value.int .i64 c, Value.int .i64 d, Value.int .i64 e, Value.slice A n m] : Array Value).all (·.oneCell') = true := by first | rfl | kernel_rfl | (simp [Value.oneCell']; done)
theorem info7 (a b c d e : Int) (y : Bool) (A : Option Addr) (n m : Nat) : (Tryd.prog.info? 30).map (·.size) = some (#[Value.int .i64 a, Value.bool y, Value.int .i64 b, Value.int .i64 c, Value.int .i64 d, Value.int .i64 e, Value.slice A n m] : Array Value).size := by
  rw [show (#[Value.int .i64 a, Value.bool y, Value.int .i64 b, Value.int .i64 c, Value.int .i64 d, Value.int .i64 e, Value.slice A n m] : Array Value).size = 7 from rfl]; kernel_rfl
def BeyTo (w : World) (cs : Array Value) (b : Bool) (e : Ending) (w' : World) : Prop := e = .returned (.tuple #[.agg cs, .bool b]) ∧ Below w.heap.size w w'
set_option maxHeartbeats 2000000 in
theorem bey_no (kd : Int) (hk : kd < 0 ∨ 19 < kd) (y : Bool) (z1 z2 z3 z4 : Int) (A : Option Addr) (n c : Nat) (w : World) :
    Calls Tryd.prog 34 #[.agg #[.int .i64 kd, .bool y, .int .i64 z1, .int .i64 z2, .int .i64 z3, .int .i64 z4, .slice A n c]] w (BeyTo w #[.int .i64 0, .bool false, .int .i64 0, .int .i64 0, .int .i64 0, .int .i64 0, .slice none 0 0] false) := by
  obtain ⟨W0, hW, hb0, hsz, hx, hr⟩ := two_blk w (.cells #[.int .i64 kd, .bool y, .int .i64 z1, .int .i64 z2, .int .i64 z3, .int .i64 z4, .slice A n c] 30) (.cells #[.int .i64 0, .bool false, .int .i64 0, .int .i64 0, .int .i64 0, .int .i64 0, .slice none 0 0] 30)
  have HR := Lib.hid hr
  have HB0 := Lib.hid hb0
  have HW := Lib.hid hW.symm
  clear hW hb0 hr
  have p0 : W0.cell? ⟨w.heap.size, 0, none⟩ = some (.int .i64 kd) := blk_cell hx 0
  have p1 : W0.cell? ⟨w.heap.size, 1, none⟩ = some (.bool y) := blk_cell hx 1
  have p2 : W0.cell? ⟨w.heap.size, 2, none⟩ = some (.int .i64 z1) := blk_cell hx 2
  have p3 : W0.cell? ⟨w.heap.size, 3, none⟩ = some (.int .i64 z2) := blk_cell hx 3
  have p4 : W0.cell? ⟨w.heap.size, 4, none⟩ = some (.int .i64 z3) := blk_cell hx 4
  have p5 : W0.cell? ⟨w.heap.size, 5, none⟩ = some (.int .i64 z4) := blk_cell hx 5
  have p6 : W0.cell? ⟨w.heap.size, 6, none⟩ = some (.slice A n c) := blk_cell hx 6
  have e0 : (kd == 0) = false := by rw [beq_eq_false_iff_ne]; omega
  have e1 : (kd == 1) = false := by rw [beq_eq_false_iff_ne]; omega
  have e2 : (kd == 2) = false := by rw [beq_eq_false_iff_ne]; omega
  have e3 : (kd == 3) = false := by rw [beq_eq_false_iff_ne]; omega
  have e4 : (kd == 4) = false := by rw [beq_eq_false_iff_ne]; omega
  have e5 : (kd == 5) = false := by rw [beq_eq_false_iff_ne]; omega
  have e6 : (kd == 6) = false := by rw [beq_eq_false_iff_ne]; omega
  have e7 : (kd == 7) = false := by rw [beq_eq_false_iff_ne]; omega
  have e8 : (kd == 8) = false := by rw [beq_eq_false_iff_ne]; omega
  have e9 : (kd == 9) = false := by rw [beq_eq_false_iff_ne]; omega
  have e10 : (kd == 10) = false := by rw [beq_eq_false_iff_ne]; omega
  have e11 : (kd == 11) = false := by rw [beq_eq_false_iff_ne]; omega
  have e12 : (kd == 12) = false := by rw [beq_eq_false_iff_ne]; omega
  have e13 : (kd == 13) = false := by rw [beq_eq_false_iff_ne]; omega
  have e14 : (kd == 14) = false := by rw [beq_eq_false_iff_ne]; omega
  have e15 : (kd == 15) = false := by rw [beq_eq_false_iff_ne]; omega
  have e16 : (kd == 16) = false := by rw [beq_eq_false_iff_ne]; omega
  have e17 : (kd == 17) = false := by rw [beq_eq_false_iff_ne]; omega
  have e18 : (kd == 18) = false := by rw [beq_eq_false_iff_ne]; omega
  have e19 : (kd == 19) = false := by rw [beq_eq_false_iff_ne]; omega
  clear hx hk
  have HX1 : Hid ((W0).heap[w.heap.size + 1]? = some (.cells #[.int .i64 0, .bool false, .int .i64 0, .int .i64 0, .int .i64 0, .int .i64 0, .slice none 0 0] 30 (0, 0))) := Lib.hid (HR.out)
  have HB1 : Hid (Below w.heap.size w (W0)) := Lib.hid (HB0.out)
  go_enter Tryd.func34, Tryd.ntmps34
  go_upto_region 1 with (fail)
  rw [HW.out]
  go_wp2_with (with_reducible refine wpList_store_row rfl 30 (.tmp 2) (.tmp 51) rfl (w.heap.size + 1) #[.int .i64 0, .bool false, .int .i64 0, .int .i64 0, .int .i64 0, .int .i64 0, .slice none 0 0] rfl rfl _ _ HX1.out (info7 _ _ _ _ _ _ _ _ _) rfl (one7 _ _ _ _ _ _ _ _ _) ?_)
  exact bodyPost_ret (v := .tuple #[.agg #[.int .i64 0, .bool false, .int .i64 0, .int .i64 0, .int .i64 0, .int .i64 0, .slice none 0 0], .bool false]) (results_row_tmp rfl _ _ (w.heap.size + 1) 30 #[.int .i64 0, .bool false, .int .i64 0, .int .i64 0, .int .i64 0, .int .i64 0, .slice none 0 0] (0, 0) _ (.bool false) rfl rfl (setRow_heap _ _ _ _ _ _ HX1.out) Tryd.underlying30 rfl (info7 _ _ _ _ _ _ _ _ _)) rfl ⟨rfl, below_setRow HB1.out (by omega) _⟩
end Go.Proofs.YtcaogiaoabdkdaaDoor
