/-
  DERIVED. GIVEN WITH THE SEED: THE CARDS: each row of YtdknalihgblfcaaDoorRows.lean that lists a variable, with what it lists TIED to the program's text (the seventh form; the later family's looks); each row that meets fmt, with fmt's text TOLD by the authors' own Lean function (tested against real Go, not proved from fmt's source: count such statements apart). THE CARD IS WHAT COUNTS. Prove the row's statement (the work); the ties are given (YtdknalihgblfcaaDoorTie.lean); close each card by the builder's one call (the guide's Derived/Test/ToyasCard.lean, 'card_holds'). Laid BY PROGRAM, IN A SANDBOX (cutbox-door.mjs). By AI agents, Wed Nov 11 2026. No macro, syntax, notation, axiom, sorry.
-/
import Derived.Test.YtdknalihgblfcaaDoorRows
import GoSem.ClaimSeven
namespace Go.Proofs.YtdknalihgblfcaaDoor
namespace Rows

/-- THE TIED CARD OF 'garderobelaw26.GaugeMost'. -/
def gaugeMostCard : Claim7 := { stood := { row := gaugeMostRow, standIns := [], harness := (true, "5602add81b8248f69744304c98faf210432563f14a3a0103e6ced83b2532ed60"), looks := false }, kinds := [], alts := [], laidByText := true, laidKinds := [.data], laidTests := true, laidLooks := .later }
def GaugeMostCardSaid : Prop := Claim7.holds Tryd.pinned (.plain (OpenSpec.ofChange gaugeMostSpec)) gaugeMostCard

/-- THE SECOND FORM's CARD OF 'garderobelaw26.GaugeMost'. -/
def gaugeMostUptoCard : Claim7 := { stood := { row := gaugeMostUptoRow, standIns := [], harness := (true, "5602add81b8248f69744304c98faf210432563f14a3a0103e6ced83b2532ed60"), looks := false }, kinds := [], alts := [], laidByText := true, laidKinds := [.data], laidTests := true, laidLooks := .later }
def GaugeMostUptoCardSaid : Prop := Claim7.holds Tryd.pinned (.plain (OpenSpec.upto gaugeMostSpec)) gaugeMostUptoCard
end Rows
end Go.Proofs.YtdknalihgblfcaaDoor
