/-
  DERIVED. GIVEN WITH THE SEED: THE CARDS: each row of YtajgbflmfopfoabDoorRows.lean that lists a variable, with what it lists TIED to the program's text (the seventh form; the later family's looks); each row that meets fmt, with fmt's text TOLD by the authors' own Lean function (tested against real Go, not proved from fmt's source: count such statements apart). THE CARD IS WHAT COUNTS. Prove the row's statement (the work); the ties are given (YtajgbflmfopfoabDoorTie.lean); close each card by the builder's one call (the guide's Derived/Test/ToyasCard.lean, 'card_holds'). Laid BY PROGRAM, IN A SANDBOX (cutbox-door.mjs). By AI agents, Wed Nov 11 2026. No macro, syntax, notation, axiom, sorry.
-/
import Derived.Test.YtajgbflmfopfoabDoorRows
import GoSem.ClaimSeven
namespace Go.Proofs.YtajgbflmfopfoabDoor
namespace Rows

/-- THE TIED CARD OF 'garderobelaw19.PagesFirst'. -/
def pagesFirstCard : Claim7 := { stood := { row := pagesFirstRow, standIns := [], harness := (true, "6cf5cf24980e7d57b803cb667aaecac9e3fe46887c735965220496ff79aa48eb"), looks := false }, kinds := [], alts := [], laidByText := true, laidKinds := [.data], laidTests := true, laidLooks := .later }
def PagesFirstCardSaid : Prop := Claim7.holds Tryd.pinned (.plain (OpenSpec.ofChange pagesFirstSpec)) pagesFirstCard

/-- THE SECOND FORM's CARD OF 'garderobelaw19.PagesFirst'. -/
def pagesFirstUptoCard : Claim7 := { stood := { row := pagesFirstUptoRow, standIns := [], harness := (true, "6cf5cf24980e7d57b803cb667aaecac9e3fe46887c735965220496ff79aa48eb"), looks := false }, kinds := [], alts := [], laidByText := true, laidKinds := [.data], laidTests := true, laidLooks := .later }
def PagesFirstUptoCardSaid : Prop := Claim7.holds Tryd.pinned (.plain (OpenSpec.upto pagesFirstSpec)) pagesFirstUptoCard
end Rows
end Go.Proofs.YtajgbflmfopfoabDoor
