/-
  What is laid for LinesPrint: the kinds' table, the powers of ten.
-/
import Derived.Test.YtcaogiaoabdkdaaDoorZLnT
import Derived.Test.YtcaogiaoabdkdaaDoorZLrE
namespace Go.Proofs.YtcaogiaoabdkdaaDoor
open Go.RowKit Go Go.ChangeShapes
set_option maxRecDepth 100000
set_option linter.unusedVariables false
set_option linter.unusedSimpArgs false
def laidP : List (String × DataW Unit) := [("math/bits.deBruijn32tab", Rows.laid_math_bits_deBruijn32tab), ("math/bits.deBruijn64tab", Rows.laid_math_bits_deBruijn64tab), ("internal/strconv.uint64pow10", Rows.laid_internal_strconv_uint64pow10), ("unicode/utf8.acceptRanges", Rows.laid_unicode_utf8_acceptRanges), ("garderobe/lines.kinds", Rows.laid_garderobe_lines_kinds), ("unicode/utf8.first", Rows.laid_unicode_utf8_first)]
theorem tn_of {W : World} {cs : Array Value} {fuel : Nat} {p : List MemPlace} (hv : W.var? Tryd.prog "internal/strconv.uint64pow10" = some cs)
    (hd : DataW.trod (fun _ => ()) Tryd.prog W 0 (fun _ => true) false fuel 141 cs.toList = some (Rows.laid_internal_strconv_uint64pow10, p)) : Tn W := by
  have key : cs.toList = Lib.pow10Tab.map fun z => Value.int .u64 z :=
    Lib.cells_of_tab (n := 20) (k := .u64) (zs := Lib.pow10Tab) Tryd.underlying141 Tryd.underlying132 (by kernel_rfl) (by kernel_rfl) hd
  have hg : Tryd.prog.globalNamed "internal/strconv.uint64pow10" = some 4 := by kernel_rfl
  simp only [World.var?, hg, Option.bind_some] at hv
  split at hv
  · rename_i cs' t m hb
    injection hv with hv
    subst hv
    refine ⟨t, m, ?_⟩
    rw [hb, ← key]
  · cases hv
theorem print_isL {W : World} (h : laidMetH Tryd.prog laidP W) : Kn W ∧ Tn W := by
  rw [MakeChecks.laidMetH_plain _ _ _ (by kernel_rfl)] at h
  obtain ⟨ps, ⟨_, _, _, _, _, _, _, _, _, _, ⟨_, _, _, _, _, _, _, _, _, _, ⟨g3, t3, cs3, fuel3, p3, q3, hg3, ht3, hv3, hd3, ⟨_, _, _, _, _, _, _, _, _, _, ⟨g, t, cs, fuel, p, q, hg, ht, hv, hd, _, _⟩, _⟩, _⟩, _⟩, _⟩, _, _⟩ := h
  obtain rfl := Option.some.inj ((show Tryd.prog.globalNamed "garderobe/lines.kinds" = some 0 by kernel_rfl).symm.trans hg)
  obtain rfl := Option.some.inj ((show (Tryd.prog.globals[0]?).map (·.type) = some 75 by kernel_rfl).symm.trans ht)
  obtain rfl := Option.some.inj ((show Tryd.prog.globalNamed "internal/strconv.uint64pow10" = some 4 by kernel_rfl).symm.trans hg3)
  obtain rfl := Option.some.inj ((show (Tryd.prog.globals[4]?).map (·.type) = some 141 by kernel_rfl).symm.trans ht3)
  exact ⟨kn_of hv hd, tn_of hv3 hd3⟩
end Go.Proofs.YtcaogiaoabdkdaaDoor
