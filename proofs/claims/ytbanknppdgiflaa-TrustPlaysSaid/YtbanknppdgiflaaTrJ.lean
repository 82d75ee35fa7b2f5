/-
  TrustRises' walk.
-/
import Derived.Test.YtbanknppdgiflaaTrI
namespace Go.Proofs.Ytbanknppdgiflaa
open Go.RowKit Go
set_option linter.unusedVariables false
set_option linter.unusedSimpArgs false
theorem armU0 (N : Int) : 0 ≤ armU N := by unfold armU; split <;> omega
theorem armU1 {N : Int} (h : N ≤ 9223372036854775807) : armU N ≤ 9223372036854775807 := by unfold armU; split <;> omega
end Go.Proofs.Ytbanknppdgiflaa
