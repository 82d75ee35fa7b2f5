/-
  DERIVED. GIVEN WITH THE SEED: THE CARDS: each row of YtooahpfeamobcaaDoorRows.lean that lists a variable, with what it lists TIED to the program's text (the seventh form; the later family's looks); each row that meets fmt, with fmt's text TOLD by the authors' own Lean function (tested against real Go, not proved from fmt's source: count such statements apart). THE CARD IS WHAT COUNTS. Prove the row's statement (the work); the ties are given (YtooahpfeamobcaaDoorTie.lean); close each card by the builder's one call (the guide's Derived/Test/ToyasCard.lean, 'card_holds'). Laid BY PROGRAM, IN A SANDBOX (cutbox-door.mjs). By AI agents, Wed Nov 11 2026. No macro, syntax, notation, axiom, sorry.
-/
import Derived.Test.YtooahpfeamobcaaDoorRows
import GoSem.ClaimSeven
namespace Go.Proofs.YtooahpfeamobcaaDoor
namespace Rows

/-- THE TIED CARD OF 'garderobelaw19.PagesParse'. -/
def pagesParseCard : Claim7 := { stood := { row := pagesParseRow, standIns := [], harness := (true, "bd426983fa779f0c630fd05f37e2485fec5815f7ca9550cdfcce397be2271b50"), looks := false }, kinds := [], alts := [], laidByText := true, laidKinds := [.data], laidTests := true, laidLooks := .later }
def PagesParseCardSaid : Prop := Claim7.holds Tryd.pinned (.plain (OpenSpec.ofChange pagesParseSpec)) pagesParseCard

/-- THE SECOND FORM's CARD OF 'garderobelaw19.PagesParse'. -/
def pagesParseUptoCard : Claim7 := { stood := { row := pagesParseUptoRow, standIns := [], harness := (true, "bd426983fa779f0c630fd05f37e2485fec5815f7ca9550cdfcce397be2271b50"), looks := false }, kinds := [], alts := [], laidByText := true, laidKinds := [.data], laidTests := true, laidLooks := .later }
def PagesParseUptoCardSaid : Prop := Claim7.holds Tryd.pinned (.plain (OpenSpec.upto pagesParseSpec)) pagesParseUptoCard
end Rows
end Go.Proofs.YtooahpfeamobcaaDoor
