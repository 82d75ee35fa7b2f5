/-
  The document's Take, Give, Turn.
-/
import Derived.Test.YtooahpfeamobcaaDoorPgK
namespace Go.Proofs.YtooahpfeamobcaaDoor
open Go.RowKit Go
set_option linter.unusedVariables false
set_option linter.unusedSimpArgs false
set_option maxRecDepth 100000
theorem CopyTo.ans {w w1 w' : World} {l : List Pg} {e : Ending} (hb : Below w.heap.size w w1) (h : CopyTo w1 l e w') : ∃ A c, e = .returned (.slice A l.length c) ∧ AnsTo w (0, l) (.returned (.tuple #[.slice A l.length c, .int .i64 0])) w' := by
  obtain ⟨A, c, h1, h2, _, h4⟩ := h
  exact ⟨A, c, h1, A, c, rfl, h2, hb.trans (h4.mono hb.size)⟩
theorem nil_code {w w' : World} (k : Nat) (hb : Below w.heap.size w w') : AnsTo w (k, []) (.returned (.tuple #[.slice none 0 0, .int .i64 (k : Int)])) w' := nil_ans (R := (k, [])) rfl hb
end Go.Proofs.YtooahpfeamobcaaDoor
