/-
  PagesChecks; PagesUndo and PagesFirst.
-/
import Derived.Test.YtajgbflmfopfoabDoorPgQ
namespace Go.Proofs.YtajgbflmfopfoabDoor
open Go.RowKit Go Go.WideShapes Go.ChangeShapes Go.Deep
set_option linter.unusedVariables false
set_option linter.unusedSimpArgs false
set_option maxRecDepth 100000
section
variable {H : Type} {enc : TypeId × Value → H} {w : World}
theorem op_open {g : Array Value} {d : DataW H} {p : List MemPlace} (h : DataW.Trod enc Tryd.prog w 0 (fun _ => true) true 26 (.agg g) d p) :
    ∃ q : Pg, g = #[.int .i64 q.k, .int .i64 q.c, .int .i64 q.r, .int .i64 q.s, .int .u64 q.n] ∧ q.c ≤ 9223372036854775807 ∧ -9223372036854775808 ≤ q.r ∧ q.r ≤ 9223372036854775807 := by
  obtain ⟨fuel, hfu⟩ := h
  obtain ⟨ys, n', _, _, hl, hyl, hf⟩ := DataW.trod_struct Tryd.underlying26 hfu
  have hc5 : Tryd.prog.cellsOf 26 = 5 := by kernel_rfl
  rw [hc5] at hl
  have hyl5 : ys.length = 5 := hyl
  have c1 : Tryd.prog.cellsOf 3 = 1 := by kernel_rfl
  have c2 : Tryd.prog.cellsOf 24 = 1 := by kernel_rfl
  have hg : (Value.agg g).cells.toList = g.toList := by simp [Value.cells]
  rw [hg] at hl hf
  obtain ⟨l⟩ := g
  match l, hl with
  | [v0, v1, v2, v3, v4], _ =>
    have r0 : DataW.trod enc Tryd.prog w 0 (fun _ => true) true n' 3 (([v0, v1, v2, v3, v4].drop 0).take (Tryd.prog.cellsOf 3)) = ys[0]? := hf 0 _ rfl
    have r1 : DataW.trod enc Tryd.prog w 0 (fun _ => true) true n' 3 (([v0, v1, v2, v3, v4].drop 1).take (Tryd.prog.cellsOf 3)) = ys[1]? := hf 1 _ rfl
    have r2 : DataW.trod enc Tryd.prog w 0 (fun _ => true) true n' 3 (([v0, v1, v2, v3, v4].drop 2).take (Tryd.prog.cellsOf 3)) = ys[2]? := hf 2 _ rfl
    have r3 : DataW.trod enc Tryd.prog w 0 (fun _ => true) true n' 3 (([v0, v1, v2, v3, v4].drop 3).take (Tryd.prog.cellsOf 3)) = ys[3]? := hf 3 _ rfl
    have r4 : DataW.trod enc Tryd.prog w 0 (fun _ => true) true n' 24 (([v0, v1, v2, v3, v4].drop 4).take (Tryd.prog.cellsOf 24)) = ys[4]? := hf 4 _ rfl
    rw [c1] at r0 r1 r2 r3
    rw [c2] at r4
    have q : ∀ j, j < 5 → ∃ y, ys[j]? = some y := fun j hj => ⟨_, List.getElem?_eq_getElem (by omega)⟩
    obtain ⟨y0, hy0⟩ := q 0 (by omega)
    obtain ⟨y1, hy1⟩ := q 1 (by omega)
    obtain ⟨y2, hy2⟩ := q 2 (by omega)
    obtain ⟨y3, hy3⟩ := q 3 (by omega)
    obtain ⟨y4, hy4⟩ := q 4 (by omega)
    rw [hy0] at r0
    rw [hy1] at r1
    rw [hy2] at r2
    rw [hy3] at r3
    rw [hy4] at r4
    obtain ⟨z0, q0, _, w0⟩ := DataW.trod_int Tryd.underlying3 r0
    obtain ⟨z1, q1, _, w1⟩ := DataW.trod_int Tryd.underlying3 r1
    obtain ⟨z2, q2, _, w2⟩ := DataW.trod_int Tryd.underlying3 r2
    obtain ⟨z3, q3, _, w3⟩ := DataW.trod_int Tryd.underlying3 r3
    obtain ⟨z4, q4, _, w4⟩ := DataW.trod_int Tryd.underlying24 r4
    simp only [List.drop_zero, List.drop_succ_cons, List.take_succ_cons, List.take_zero, List.cons.injEq, and_true] at q0 q1 q2 q3 q4
    subst q0 q1 q2 q3 q4
    exact ⟨⟨z0, z1, z2, z3, z4⟩, rfl, (bounds_i64 w1).2, (bounds_i64 w2).1, (bounds_i64 w2).2⟩
end
end Go.Proofs.YtajgbflmfopfoabDoor
