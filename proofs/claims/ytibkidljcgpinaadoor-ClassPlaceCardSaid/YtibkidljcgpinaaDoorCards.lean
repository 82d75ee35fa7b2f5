/-
  DERIVED. GIVEN WITH THE SEED: THE CARDS: each row of YtibkidljcgpinaaDoorRows.lean that lists a variable, with what it lists TIED to the program's text (the seventh form; the later family's looks); each row that meets fmt, with fmt's text TOLD by the authors' own Lean function (tested against real Go, not proved from fmt's source: count such statements apart). THE CARD IS WHAT COUNTS. Prove the row's statement (the work); the ties are given (YtibkidljcgpinaaDoorTie.lean); close each card by the builder's one call (the guide's Derived/Test/ToyasCard.lean, 'card_holds'). Laid BY PROGRAM, IN A SANDBOX (cutbox-door.mjs). By AI agents, Wed Nov 11 2026. No macro, syntax, notation, axiom, sorry.
-/
import Derived.Test.YtibkidljcgpinaaDoorRows
import GoSem.ClaimSeven
namespace Go.Proofs.YtibkidljcgpinaaDoor
namespace Rows

/-- THE TIED CARD OF 'garderobelaw17.ClassSizes'. -/
def classSizesCard : Claim7 := { stood := { row := classSizesRow, standIns := [], harness := (true, "f6fcc9983ad17eeb1c575acc8fcd913071210cc0a41acd4458a451f354b4efd8"), looks := false }, kinds := [], alts := [], laidByText := true, laidKinds := [.data], laidTests := true, laidLooks := .later }
def ClassSizesCardSaid : Prop := Claim7.holds Tryd.pinned (.plain (OpenSpec.ofChange classSizesSpec)) classSizesCard

/-- THE TIED CARD OF 'garderobelaw17.ClassOf'. -/
def classOfCard : Claim7 := { stood := { row := classOfRow, standIns := [], harness := (true, "f6fcc9983ad17eeb1c575acc8fcd913071210cc0a41acd4458a451f354b4efd8"), looks := false }, kinds := [], alts := [], laidByText := true, laidKinds := [.data], laidTests := true, laidLooks := .later }
def ClassOfCardSaid : Prop := Claim7.holds Tryd.pinned (.plain (OpenSpec.ofChange classOfSpec)) classOfCard

/-- THE TIED CARD OF 'garderobelaw17.ClassPlace'. -/
def classPlaceCard : Claim7 := { stood := { row := classPlaceRow, standIns := [], harness := (true, "f6fcc9983ad17eeb1c575acc8fcd913071210cc0a41acd4458a451f354b4efd8"), looks := false }, kinds := [], alts := [], laidByText := true, laidKinds := [.data], laidTests := true, laidLooks := .later }
def ClassPlaceCardSaid : Prop := Claim7.holds Tryd.pinned (.plain (OpenSpec.ofChange classPlaceSpec)) classPlaceCard

/-- THE TIED CARD OF 'garderobelaw17.ClassTight'. -/
def classTightCard : Claim7 := { stood := { row := classTightRow, standIns := [], harness := (true, "f6fcc9983ad17eeb1c575acc8fcd913071210cc0a41acd4458a451f354b4efd8"), looks := false }, kinds := [], alts := [], laidByText := true, laidKinds := [.data], laidTests := true, laidLooks := .later }
def ClassTightCardSaid : Prop := Claim7.holds Tryd.pinned (.plain (OpenSpec.ofChange classTightSpec)) classTightCard

/-- THE SECOND FORM's CARD OF 'garderobelaw17.ClassSizes'. -/
def classSizesUptoCard : Claim7 := { stood := { row := classSizesUptoRow, standIns := [], harness := (true, "f6fcc9983ad17eeb1c575acc8fcd913071210cc0a41acd4458a451f354b4efd8"), looks := false }, kinds := [], alts := [], laidByText := true, laidKinds := [.data], laidTests := true, laidLooks := .later }
def ClassSizesUptoCardSaid : Prop := Claim7.holds Tryd.pinned (.plain (OpenSpec.upto classSizesSpec)) classSizesUptoCard

/-- THE SECOND FORM's CARD OF 'garderobelaw17.ClassOf'. -/
def classOfUptoCard : Claim7 := { stood := { row := classOfUptoRow, standIns := [], harness := (true, "f6fcc9983ad17eeb1c575acc8fcd913071210cc0a41acd4458a451f354b4efd8"), looks := false }, kinds := [], alts := [], laidByText := true, laidKinds := [.data], laidTests := true, laidLooks := .later }
def ClassOfUptoCardSaid : Prop := Claim7.holds Tryd.pinned (.plain (OpenSpec.upto classOfSpec)) classOfUptoCard

/-- THE SECOND FORM's CARD OF 'garderobelaw17.ClassPlace'. -/
def classPlaceUptoCard : Claim7 := { stood := { row := classPlaceUptoRow, standIns := [], harness := (true, "f6fcc9983ad17eeb1c575acc8fcd913071210cc0a41acd4458a451f354b4efd8"), looks := false }, kinds := [], alts := [], laidByText := true, laidKinds := [.data], laidTests := true, laidLooks := .later }
def ClassPlaceUptoCardSaid : Prop := Claim7.holds Tryd.pinned (.plain (OpenSpec.upto classPlaceSpec)) classPlaceUptoCard

/-- THE SECOND FORM's CARD OF 'garderobelaw17.ClassTight'. -/
def classTightUptoCard : Claim7 := { stood := { row := classTightUptoRow, standIns := [], harness := (true, "f6fcc9983ad17eeb1c575acc8fcd913071210cc0a41acd4458a451f354b4efd8"), looks := false }, kinds := [], alts := [], laidByText := true, laidKinds := [.data], laidTests := true, laidLooks := .later }
def ClassTightUptoCardSaid : Prop := Claim7.holds Tryd.pinned (.plain (OpenSpec.upto classTightSpec)) classTightUptoCard
end Rows
end Go.Proofs.YtibkidljcgpinaaDoor
