/-
  Two variables are listed: sizes, and kinds, which plays no part.
-/
import Derived.Test.YtdknalihgblfcaaGreatDoorKlB
import Derived.LaidMore
import Derived.LaidOnce
import Derived.Lay
import Derived.Test.YtdknalihgblfcaaGreatDoorRows
namespace Go.Proofs.YtdknalihgblfcaaGreatDoor
open Go.RowKit Go
set_option maxRecDepth 100000
set_option linter.unusedVariables false
set_option linter.unusedSimpArgs false
def laidT : List (String × DataW Unit) := [("garderobe/class.sizes", Rows.laid_garderobe_class_sizes), ("garderobe/geom.kinds", Rows.laid_garderobe_geom_kinds)]
theorem sizes_varT {W : World} (h : laidMetH Tryz.prog laidT W) : W.var? Tryz.prog "garderobe/class.sizes" = some szV := by
  rw [MakeChecks.laidMetH_plain _ _ _ (by kernel_rfl)] at h
  obtain ⟨ps, ⟨g, t, cs, fuel, p, q, hg, ht, hv, hd, _, _⟩, _, _⟩ := h
  obtain rfl := Option.some.inj ((show Tryz.prog.globalNamed "garderobe/class.sizes" = some 0 by kernel_rfl).symm.trans hg)
  obtain rfl := Option.some.inj ((show (Tryz.prog.globals[0]?).map (·.type) = some 22 by kernel_rfl).symm.trans ht)
  have c5 : Tryz.prog.cellsOf 3 = 1 := by kernel_rfl
  have c29 : Tryz.prog.cellsOf 22 = 8 := by kernel_rfl
  obtain ⟨xs, m, _, ex, hlen, hl, hel⟩ := DataW.trod_array Tryz.underlying22 hd
  rw [c29] at hlen
  obtain ⟨l⟩ := cs
  match l, hlen with
  | [a0, a1, a2, a3, a4, a5, a6, a7], _ =>
    match xs, hl with
    | [x0, x1, x2, x3, x4, x5, x6, x7], _ =>
      have e3 := (DataW.agg.inj (Prod.mk.inj ex).1)
      simp only [List.map_cons, List.map_nil, List.cons.injEq, and_true] at e3
      have k0 := hel 0 (by omega)
      rw [c5] at k0
      obtain ⟨z0, b0, d0, _⟩ := DataW.trod_int Tryz.underlying3 k0
      have k1 := hel 1 (by omega)
      rw [c5] at k1
      obtain ⟨z1, b1, d1, _⟩ := DataW.trod_int Tryz.underlying3 k1
      have k2 := hel 2 (by omega)
      rw [c5] at k2
      obtain ⟨z2, b2, d2, _⟩ := DataW.trod_int Tryz.underlying3 k2
      have k3 := hel 3 (by omega)
      rw [c5] at k3
      obtain ⟨z3, b3, d3, _⟩ := DataW.trod_int Tryz.underlying3 k3
      have k4 := hel 4 (by omega)
      rw [c5] at k4
      obtain ⟨z4, b4, d4, _⟩ := DataW.trod_int Tryz.underlying3 k4
      have k5 := hel 5 (by omega)
      rw [c5] at k5
      obtain ⟨z5, b5, d5, _⟩ := DataW.trod_int Tryz.underlying3 k5
      have k6 := hel 6 (by omega)
      rw [c5] at k6
      obtain ⟨z6, b6, d6, _⟩ := DataW.trod_int Tryz.underlying3 k6
      have k7 := hel 7 (by omega)
      rw [c5] at k7
      obtain ⟨z7, b7, d7, _⟩ := DataW.trod_int Tryz.underlying3 k7
      rw [hv]
      unfold szV
      simp_all
theorem sizes_isT {W : World} (h : laidMetH Tryz.prog laidT W) : SZ W := by
  have hv := sizes_varT h
  have hg : Tryz.prog.globalNamed "garderobe/class.sizes" = some 0 := by kernel_rfl
  simp only [World.var?, hg, Option.bind_some] at hv
  split at hv
  · rename_i cs t m hb
    injection hv with hv
    exact ⟨cs, t, m, hb, hv⟩
  · cases hv
end Go.Proofs.YtdknalihgblfcaaGreatDoor
