/-
  DERIVED. GIVEN WITH THE SEED: THE CARDS: each row of YtdknalihgblfcaaGreatDoorRows.lean that lists a variable, with what it lists TIED to the program's text (the seventh form; the later family's looks); each row that meets fmt, with fmt's text TOLD by the authors' own Lean function (tested against real Go, not proved from fmt's source: count such statements apart). THE CARD IS WHAT COUNTS. Prove the row's statement (the work); the ties are given (YtdknalihgblfcaaGreatDoorTie.lean); close each card by the builder's one call (the guide's Derived/Test/ToyasCard.lean, 'card_holds'). Laid BY PROGRAM, IN A SANDBOX (cutbox-door.mjs). By AI agents, Wed Nov 11 2026. No macro, syntax, notation, axiom, sorry.
-/
import Derived.Test.YtdknalihgblfcaaGreatDoorRows
import GoSem.ClaimSeven
namespace Go.Proofs.YtdknalihgblfcaaGreatDoor
namespace Rows

/-- THE TIED CARD OF 'garderobelaw26.GaugeNil'. -/
def gaugeNilCard : Claim7 := { stood := { row := gaugeNilRow, standIns := [], harness := (true, "9256656a268092a5494423d43c817428cdcce82fae50acef34445c5796d12994"), looks := false }, kinds := [], alts := [], laidByText := true, laidKinds := [.data, .data], laidTests := true, laidLooks := .later }
def GaugeNilCardSaid : Prop := Claim7.holds Tryz.pinned (.plain (OpenSpec.ofChange gaugeNilSpec)) gaugeNilCard

/-- THE SECOND FORM's CARD OF 'garderobelaw26.GaugeNil'. -/
def gaugeNilUptoCard : Claim7 := { stood := { row := gaugeNilUptoRow, standIns := [], harness := (true, "9256656a268092a5494423d43c817428cdcce82fae50acef34445c5796d12994"), looks := false }, kinds := [], alts := [], laidByText := true, laidKinds := [.data, .data], laidTests := true, laidLooks := .later }
def GaugeNilUptoCardSaid : Prop := Claim7.holds Tryz.pinned (.plain (OpenSpec.upto gaugeNilSpec)) gaugeNilUptoCard
end Rows
end Go.Proofs.YtdknalihgblfcaaGreatDoor
