/-
  DERIVED. GIVEN WITH THE SEED: THE CARDS: each row of YtflgcddgocojpaaDoorRows.lean that lists a variable, with what it lists TIED to the program's text (the seventh form; the later family's looks); each row that meets fmt, with fmt's text TOLD by the authors' own Lean function (tested against real Go, not proved from fmt's source: count such statements apart). THE CARD IS WHAT COUNTS. Prove the row's statement (the work); the ties are given (YtflgcddgocojpaaDoorTie.lean); close each card by the builder's one call (the guide's Derived/Test/ToyasCard.lean, 'card_holds'). Laid BY PROGRAM, IN A SANDBOX (cutbox-door.mjs). By AI agents, Wed Nov 11 2026. No macro, syntax, notation, axiom, sorry.
-/
import Derived.Test.YtflgcddgocojpaaDoorRows
import GoSem.ClaimSeven
namespace Go.Proofs.YtflgcddgocojpaaDoor
namespace Rows

/-- THE TIED CARD OF 'garderobelaw18.SlotPlays'. -/
def slotPlaysCard : Claim7 := { stood := { row := slotPlaysRow, standIns := [], harness := (true, "6c8f65b145b6cb7a22d0d3e7c6dcce5faeae182bd7139e97148ec66a9eba1dcb"), looks := false }, kinds := [], alts := [], laidByText := true, laidKinds := [.data], laidTests := true, laidLooks := .later }
def SlotPlaysCardSaid : Prop := Claim7.holds Tryd.pinned (.plain (OpenSpec.ofChange slotPlaysSpec)) slotPlaysCard

/-- THE TIED CARD OF 'garderobelaw18.SlotChecks'. -/
def slotChecksCard : Claim7 := { stood := { row := slotChecksRow, standIns := [], harness := (true, "6c8f65b145b6cb7a22d0d3e7c6dcce5faeae182bd7139e97148ec66a9eba1dcb"), looks := false }, kinds := [], alts := [], laidByText := true, laidKinds := [.data], laidTests := true, laidLooks := .later }
def SlotChecksCardSaid : Prop := Claim7.holds Tryd.pinned (.plain (OpenSpec.ofChange slotChecksSpec)) slotChecksCard

/-- THE TIED CARD OF 'garderobelaw18.SlotTrace'. -/
def slotTraceCard : Claim7 := { stood := { row := slotTraceRow, standIns := [], harness := (true, "6c8f65b145b6cb7a22d0d3e7c6dcce5faeae182bd7139e97148ec66a9eba1dcb"), looks := false }, kinds := [], alts := [], laidByText := true, laidKinds := [.data], laidTests := true, laidLooks := .later }
def SlotTraceCardSaid : Prop := Claim7.holds Tryd.pinned (.plain (OpenSpec.ofChange slotTraceSpec)) slotTraceCard

/-- THE TIED CARD OF 'garderobelaw18.SlotFree'. -/
def slotFreeCard : Claim7 := { stood := { row := slotFreeRow, standIns := [], harness := (true, "6c8f65b145b6cb7a22d0d3e7c6dcce5faeae182bd7139e97148ec66a9eba1dcb"), looks := false }, kinds := [], alts := [], laidByText := true, laidKinds := [.data], laidTests := true, laidLooks := .later }
def SlotFreeCardSaid : Prop := Claim7.holds Tryd.pinned (.plain (OpenSpec.ofChange slotFreeSpec)) slotFreeCard

/-- THE SECOND FORM's CARD OF 'garderobelaw18.SlotPlays'. -/
def slotPlaysUptoCard : Claim7 := { stood := { row := slotPlaysUptoRow, standIns := [], harness := (true, "6c8f65b145b6cb7a22d0d3e7c6dcce5faeae182bd7139e97148ec66a9eba1dcb"), looks := false }, kinds := [], alts := [], laidByText := true, laidKinds := [.data], laidTests := true, laidLooks := .later }
def SlotPlaysUptoCardSaid : Prop := Claim7.holds Tryd.pinned (.plain (OpenSpec.upto slotPlaysSpec)) slotPlaysUptoCard

/-- THE SECOND FORM's CARD OF 'garderobelaw18.SlotChecks'. -/
def slotChecksUptoCard : Claim7 := { stood := { row := slotChecksUptoRow, standIns := [], harness := (true, "6c8f65b145b6cb7a22d0d3e7c6dcce5faeae182bd7139e97148ec66a9eba1dcb"), looks := false }, kinds := [], alts := [], laidByText := true, laidKinds := [.data], laidTests := true, laidLooks := .later }
def SlotChecksUptoCardSaid : Prop := Claim7.holds Tryd.pinned (.plain (OpenSpec.upto slotChecksSpec)) slotChecksUptoCard

/-- THE SECOND FORM's CARD OF 'garderobelaw18.SlotTrace'. -/
def slotTraceUptoCard : Claim7 := { stood := { row := slotTraceUptoRow, standIns := [], harness := (true, "6c8f65b145b6cb7a22d0d3e7c6dcce5faeae182bd7139e97148ec66a9eba1dcb"), looks := false }, kinds := [], alts := [], laidByText := true, laidKinds := [.data], laidTests := true, laidLooks := .later }
def SlotTraceUptoCardSaid : Prop := Claim7.holds Tryd.pinned (.plain (OpenSpec.upto slotTraceSpec)) slotTraceUptoCard

/-- THE SECOND FORM's CARD OF 'garderobelaw18.SlotFree'. -/
def slotFreeUptoCard : Claim7 := { stood := { row := slotFreeUptoRow, standIns := [], harness := (true, "6c8f65b145b6cb7a22d0d3e7c6dcce5faeae182bd7139e97148ec66a9eba1dcb"), looks := false }, kinds := [], alts := [], laidByText := true, laidKinds := [.data], laidTests := true, laidLooks := .later }
def SlotFreeUptoCardSaid : Prop := Claim7.holds Tryd.pinned (.plain (OpenSpec.upto slotFreeSpec)) slotFreeUptoCard
end Rows
end Go.Proofs.YtflgcddgocojpaaDoor
