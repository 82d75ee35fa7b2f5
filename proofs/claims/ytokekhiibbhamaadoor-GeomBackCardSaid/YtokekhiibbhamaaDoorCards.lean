/-
  DERIVED. GIVEN WITH THE SEED: THE CARDS: each row of YtokekhiibbhamaaDoorRows.lean that lists a variable, with what it lists TIED to the program's text (the seventh form; the later family's looks); each row that meets fmt, with fmt's text TOLD by the authors' own Lean function (tested against real Go, not proved from fmt's source: count such statements apart). THE CARD IS WHAT COUNTS. Prove the row's statement (the work); the ties are given (YtokekhiibbhamaaDoorTie.lean); close each card by the builder's one call (the guide's Derived/Test/ToyasCard.lean, 'card_holds'). Laid BY PROGRAM, IN A SANDBOX (cutbox-door.mjs). By AI agents, Wed Nov 11 2026. No macro, syntax, notation, axiom, sorry.
-/
import Derived.Test.YtokekhiibbhamaaDoorRows
import GoSem.ClaimSeven
namespace Go.Proofs.YtokekhiibbhamaaDoor
namespace Rows

/-- THE TIED CARD OF 'garderobelaw07.GeomPlaces'. -/
def geomPlacesCard : Claim7 := { stood := { row := geomPlacesRow, standIns := [], harness := (true, "01ac56e05e991da574c5baad57f2b9826a28815c31ce67d69b49c785f51e7346"), looks := false }, kinds := [], alts := [], laidByText := true, laidKinds := [.data], laidTests := true, laidLooks := .later }
def GeomPlacesCardSaid : Prop := Claim7.holds Tryd.pinned (.plain (OpenSpec.ofChange geomPlacesSpec)) geomPlacesCard

/-- THE TIED CARD OF 'garderobelaw07.GeomBack'. -/
def geomBackCard : Claim7 := { stood := { row := geomBackRow, standIns := [], harness := (true, "01ac56e05e991da574c5baad57f2b9826a28815c31ce67d69b49c785f51e7346"), looks := false }, kinds := [], alts := [], laidByText := true, laidKinds := [.data], laidTests := true, laidLooks := .later }
def GeomBackCardSaid : Prop := Claim7.holds Tryd.pinned (.plain (OpenSpec.ofChange geomBackSpec)) geomBackCard

/-- THE SECOND FORM's CARD OF 'garderobelaw07.GeomPlaces'. -/
def geomPlacesUptoCard : Claim7 := { stood := { row := geomPlacesUptoRow, standIns := [], harness := (true, "01ac56e05e991da574c5baad57f2b9826a28815c31ce67d69b49c785f51e7346"), looks := false }, kinds := [], alts := [], laidByText := true, laidKinds := [.data], laidTests := true, laidLooks := .later }
def GeomPlacesUptoCardSaid : Prop := Claim7.holds Tryd.pinned (.plain (OpenSpec.upto geomPlacesSpec)) geomPlacesUptoCard

/-- THE SECOND FORM's CARD OF 'garderobelaw07.GeomBack'. -/
def geomBackUptoCard : Claim7 := { stood := { row := geomBackUptoRow, standIns := [], harness := (true, "01ac56e05e991da574c5baad57f2b9826a28815c31ce67d69b49c785f51e7346"), looks := false }, kinds := [], alts := [], laidByText := true, laidKinds := [.data], laidTests := true, laidLooks := .later }
def GeomBackUptoCardSaid : Prop := Claim7.holds Tryd.pinned (.plain (OpenSpec.upto geomBackSpec)) geomBackUptoCard
end Rows
end Go.Proofs.YtokekhiibbhamaaDoor
