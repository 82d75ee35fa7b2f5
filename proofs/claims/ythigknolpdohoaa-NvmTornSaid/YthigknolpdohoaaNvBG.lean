/-
  NvmTorn's walk.
-/
import Derived.Test.YthigknolpdohoaaNvBF0
import Derived.Test.YthigknolpdohoaaNvBF1
import Derived.Test.YthigknolpdohoaaNvBF2
import Derived.Test.YthigknolpdohoaaNvBF3
namespace Go.Proofs.Ythigknolpdohoaa
open Go.RowKit Go
set_option linter.unusedVariables false
theorem nvmTorn_any (A0 A1 A2 : Option Addr) (n0 c0 n1 c1 n2 c2 : Nat) (l0 l2 : List Nat) (os : List O8) (w : World) (h0 : BS w w.heap.size A0 n0 c0 l0) (h1 : O8V w A1 n1 os) (hn1 : n1 ≤ c1) (hc1 : c1 ≤ 9223372036854775807) (h2 : BS w w.heap.size A2 n2 c2 l2) :
    Calls Try.prog 5 #[.slice A0 n0 c0, .slice A1 n1 c1, .slice A2 n2 c2] w fun e w' => e = .returned (.bool true) ∧ Below w.heap.size w w' := by
  rcases Nat.lt_or_ge 128 n0 with k0 | k0
  · rcases Nat.lt_or_ge 12 n2 with k2 | k2
    · exact nvmTorn_3 A0 A1 A2 n0 c0 n1 c1 n2 c2 l0 l2 os w h0 h1 hn1 hc1 h2 k0 k2
    · exact nvmTorn_1 A0 A1 A2 n0 c0 n1 c1 n2 c2 l0 l2 os w h0 h1 hn1 hc1 h2 k0 k2
  · rcases Nat.lt_or_ge 12 n2 with k2 | k2
    · exact nvmTorn_2 A0 A1 A2 n0 c0 n1 c1 n2 c2 l0 l2 os w h0 h1 hn1 hc1 h2 k0 k2
    · exact nvmTorn_0 A0 A1 A2 n0 c0 n1 c1 n2 c2 l0 l2 os w h0 h1 hn1 hc1 h2 k0 k2
end Go.Proofs.Ythigknolpdohoaa
