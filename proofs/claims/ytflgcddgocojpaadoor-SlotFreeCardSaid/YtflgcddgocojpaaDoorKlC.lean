/-
  The four laws of class.
-/
import Derived.Test.YtflgcddgocojpaaDoorKlB
import Derived.LaidMore
import Derived.LaidOnce
import Derived.Lay
import Derived.Test.YtflgcddgocojpaaDoorRows
namespace Go.Proofs.YtflgcddgocojpaaDoor
open Go.RowKit Go Go.ChangeShapes Go.WideShapes Go.ChangeAt
set_option linter.unusedVariables false
set_option linter.unusedSimpArgs false
set_option maxRecDepth 100000
theorem and7 (c : Int) : ∃ r : Nat, r < 8 ∧ bits BinOp.and .i64 c 7 = (r : Int) := by
  have h : (BitVec.ofInt 64 c &&& BitVec.ofInt 64 7).toNat ≤ 7 := by
    rw [BitVec.toNat_and]
    exact Nat.and_le_right
  refine ⟨(BitVec.ofInt 64 c &&& BitVec.ofInt 64 7).toNat, by omega, ?_⟩
  show IntKind.i64.wrap (((BitVec.ofInt 64 c &&& BitVec.ofInt 64 7).toNat : Nat) : Int) = _
  exact IntWalk.i64_in _ (by omega)
/-! the variable -/
def laidS : List (String × DataW Unit) := [("garderobe/class.sizes", Rows.laid_garderobe_class_sizes)]
theorem sizes_var {W : World} (h : laidMetH Tryd.prog laidS W) : W.var? Tryd.prog "garderobe/class.sizes" = some szV := by
  rw [MakeChecks.laidMetH_plain _ _ _ (by kernel_rfl)] at h
  obtain ⟨ps, ⟨g, t, cs, fuel, p, q, hg, ht, hv, hd, _, _⟩, _, _⟩ := h
  obtain rfl := Option.some.inj ((show Tryd.prog.globalNamed "garderobe/class.sizes" = some 0 by kernel_rfl).symm.trans hg)
  obtain rfl := Option.some.inj ((show (Tryd.prog.globals[0]?).map (·.type) = some 82 by kernel_rfl).symm.trans ht)
  have c5 : Tryd.prog.cellsOf 3 = 1 := by kernel_rfl
  have c29 : Tryd.prog.cellsOf 82 = 8 := by kernel_rfl
  obtain ⟨xs, m, _, ex, hlen, hl, hel⟩ := DataW.trod_array Tryd.underlying82 hd
  rw [c29] at hlen
  obtain ⟨l⟩ := cs
  match l, hlen with
  | [a0, a1, a2, a3, a4, a5, a6, a7], _ =>
    match xs, hl with
    | [x0, x1, x2, x3, x4, x5, x6, x7], _ =>
      have e3 := (DataW.agg.inj (Prod.mk.inj ex).1)
      simp only [List.map_cons, List.map_nil, List.cons.injEq, and_true] at e3
      have k0 := hel 0 (by omega)
      rw [c5] at k0
      obtain ⟨z0, b0, d0, _⟩ := DataW.trod_int Tryd.underlying3 k0
      have k1 := hel 1 (by omega)
      rw [c5] at k1
      obtain ⟨z1, b1, d1, _⟩ := DataW.trod_int Tryd.underlying3 k1
      have k2 := hel 2 (by omega)
      rw [c5] at k2
      obtain ⟨z2, b2, d2, _⟩ := DataW.trod_int Tryd.underlying3 k2
      have k3 := hel 3 (by omega)
      rw [c5] at k3
      obtain ⟨z3, b3, d3, _⟩ := DataW.trod_int Tryd.underlying3 k3
      have k4 := hel 4 (by omega)
      rw [c5] at k4
      obtain ⟨z4, b4, d4, _⟩ := DataW.trod_int Tryd.underlying3 k4
      have k5 := hel 5 (by omega)
      rw [c5] at k5
      obtain ⟨z5, b5, d5, _⟩ := DataW.trod_int Tryd.underlying3 k5
      have k6 := hel 6 (by omega)
      rw [c5] at k6
      obtain ⟨z6, b6, d6, _⟩ := DataW.trod_int Tryd.underlying3 k6
      have k7 := hel 7 (by omega)
      rw [c5] at k7
      obtain ⟨z7, b7, d7, _⟩ := DataW.trod_int Tryd.underlying3 k7
      rw [hv]
      unfold szV
      simp_all
theorem sizes_is {W : World} (h : laidMetH Tryd.prog laidS W) : SZ W := by
  have hv := sizes_var h
  have hg : Tryd.prog.globalNamed "garderobe/class.sizes" = some 0 := by kernel_rfl
  simp only [World.var?, hg, Option.bind_some] at hv
  split at hv
  · rename_i cs t m hb
    injection hv with hv
    exact ⟨cs, t, m, hb, hv⟩
  · cases hv
theorem GK.below {f : FuncId} {args : Array Value} {v : Value} (h : GK f args v) {w : World} (hS : SZ w) : Calls Tryd.prog f args w fun e w' => e = .returned v ∧ Below w.heap.size w w' :=
  (h w hS).mono fun _ _ ⟨he, hw⟩ => ⟨he, hw ▸ Below.refl _ _⟩
end Go.Proofs.YtflgcddgocojpaaDoor
