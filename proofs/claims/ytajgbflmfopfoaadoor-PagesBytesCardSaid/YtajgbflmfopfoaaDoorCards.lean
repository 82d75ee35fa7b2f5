/-
  DERIVED. GIVEN WITH THE SEED: THE CARDS: each row of YtajgbflmfopfoaaDoorRows.lean that lists a variable, with what it lists TIED to the program's text (the seventh form; the later family's looks); each row that meets fmt, with fmt's text TOLD by the authors' own Lean function (tested against real Go, not proved from fmt's source: count such statements apart). THE CARD IS WHAT COUNTS. Prove the row's statement (the work); the ties are given (YtajgbflmfopfoaaDoorTie.lean); close each card by the builder's one call (the guide's Derived/Test/ToyasCard.lean, 'card_holds'). Laid BY PROGRAM, IN A SANDBOX (cutbox-door.mjs). By AI agents, Wed Nov 11 2026. No macro, syntax, notation, axiom, sorry.
-/
import Derived.Test.YtajgbflmfopfoaaDoorRows
import GoSem.ClaimSeven
namespace Go.Proofs.YtajgbflmfopfoaaDoor
namespace Rows

/-- THE TIED CARD OF 'garderobelaw19.PagesPlays'. -/
def pagesPlaysCard : Claim7 := { stood := { row := pagesPlaysRow, standIns := [], harness := (true, "bf7ed5500f7654916dfdcd73fa6d446ca9e3a98f99b37d69a658dbf7c772a419"), looks := false }, kinds := [], alts := [], laidByText := true, laidKinds := [.data], laidTests := true, laidLooks := .later }
def PagesPlaysCardSaid : Prop := Claim7.holds Tryd.pinned (.plain (OpenSpec.ofChange pagesPlaysSpec)) pagesPlaysCard

/-- THE TIED CARD OF 'garderobelaw19.PagesChecks'. -/
def pagesChecksCard : Claim7 := { stood := { row := pagesChecksRow, standIns := [], harness := (true, "bf7ed5500f7654916dfdcd73fa6d446ca9e3a98f99b37d69a658dbf7c772a419"), looks := false }, kinds := [], alts := [], laidByText := true, laidKinds := [.data], laidTests := true, laidLooks := .later }
def PagesChecksCardSaid : Prop := Claim7.holds Tryd.pinned (.plain (OpenSpec.ofChange pagesChecksSpec)) pagesChecksCard

/-- THE TIED CARD OF 'garderobelaw19.PagesBytes'. -/
def pagesBytesCard : Claim7 := { stood := { row := pagesBytesRow, standIns := [], harness := (true, "bf7ed5500f7654916dfdcd73fa6d446ca9e3a98f99b37d69a658dbf7c772a419"), looks := false }, kinds := [], alts := [], laidByText := true, laidKinds := [.data], laidTests := true, laidLooks := .later }
def PagesBytesCardSaid : Prop := Claim7.holds Tryd.pinned (.plain (OpenSpec.ofChange pagesBytesSpec)) pagesBytesCard

/-- THE TIED CARD OF 'garderobelaw19.PagesParse'. -/
def pagesParseCard : Claim7 := { stood := { row := pagesParseRow, standIns := [], harness := (true, "bf7ed5500f7654916dfdcd73fa6d446ca9e3a98f99b37d69a658dbf7c772a419"), looks := false }, kinds := [], alts := [], laidByText := true, laidKinds := [.data], laidTests := true, laidLooks := .later }
def PagesParseCardSaid : Prop := Claim7.holds Tryd.pinned (.plain (OpenSpec.ofChange pagesParseSpec)) pagesParseCard

/-- THE TIED CARD OF 'garderobelaw19.PagesRuns'. -/
def pagesRunsCard : Claim7 := { stood := { row := pagesRunsRow, standIns := [], harness := (true, "bf7ed5500f7654916dfdcd73fa6d446ca9e3a98f99b37d69a658dbf7c772a419"), looks := false }, kinds := [], alts := [], laidByText := true, laidKinds := [.data], laidTests := true, laidLooks := .later }
def PagesRunsCardSaid : Prop := Claim7.holds Tryd.pinned (.plain (OpenSpec.ofChange pagesRunsSpec)) pagesRunsCard

/-- THE TIED CARD OF 'garderobelaw19.PagesUndo'. -/
def pagesUndoCard : Claim7 := { stood := { row := pagesUndoRow, standIns := [], harness := (true, "bf7ed5500f7654916dfdcd73fa6d446ca9e3a98f99b37d69a658dbf7c772a419"), looks := false }, kinds := [], alts := [], laidByText := true, laidKinds := [.data], laidTests := true, laidLooks := .later }
def PagesUndoCardSaid : Prop := Claim7.holds Tryd.pinned (.plain (OpenSpec.ofChange pagesUndoSpec)) pagesUndoCard

/-- THE SECOND FORM's CARD OF 'garderobelaw19.PagesPlays'. -/
def pagesPlaysUptoCard : Claim7 := { stood := { row := pagesPlaysUptoRow, standIns := [], harness := (true, "bf7ed5500f7654916dfdcd73fa6d446ca9e3a98f99b37d69a658dbf7c772a419"), looks := false }, kinds := [], alts := [], laidByText := true, laidKinds := [.data], laidTests := true, laidLooks := .later }
def PagesPlaysUptoCardSaid : Prop := Claim7.holds Tryd.pinned (.plain (OpenSpec.upto pagesPlaysSpec)) pagesPlaysUptoCard

/-- THE SECOND FORM's CARD OF 'garderobelaw19.PagesChecks'. -/
def pagesChecksUptoCard : Claim7 := { stood := { row := pagesChecksUptoRow, standIns := [], harness := (true, "bf7ed5500f7654916dfdcd73fa6d446ca9e3a98f99b37d69a658dbf7c772a419"), looks := false }, kinds := [], alts := [], laidByText := true, laidKinds := [.data], laidTests := true, laidLooks := .later }
def PagesChecksUptoCardSaid : Prop := Claim7.holds Tryd.pinned (.plain (OpenSpec.upto pagesChecksSpec)) pagesChecksUptoCard

/-- THE SECOND FORM's CARD OF 'garderobelaw19.PagesBytes'. -/
def pagesBytesUptoCard : Claim7 := { stood := { row := pagesBytesUptoRow, standIns := [], harness := (true, "bf7ed5500f7654916dfdcd73fa6d446ca9e3a98f99b37d69a658dbf7c772a419"), looks := false }, kinds := [], alts := [], laidByText := true, laidKinds := [.data], laidTests := true, laidLooks := .later }
def PagesBytesUptoCardSaid : Prop := Claim7.holds Tryd.pinned (.plain (OpenSpec.upto pagesBytesSpec)) pagesBytesUptoCard

/-- THE SECOND FORM's CARD OF 'garderobelaw19.PagesParse'. -/
def pagesParseUptoCard : Claim7 := { stood := { row := pagesParseUptoRow, standIns := [], harness := (true, "bf7ed5500f7654916dfdcd73fa6d446ca9e3a98f99b37d69a658dbf7c772a419"), looks := false }, kinds := [], alts := [], laidByText := true, laidKinds := [.data], laidTests := true, laidLooks := .later }
def PagesParseUptoCardSaid : Prop := Claim7.holds Tryd.pinned (.plain (OpenSpec.upto pagesParseSpec)) pagesParseUptoCard

/-- THE SECOND FORM's CARD OF 'garderobelaw19.PagesRuns'. -/
def pagesRunsUptoCard : Claim7 := { stood := { row := pagesRunsUptoRow, standIns := [], harness := (true, "bf7ed5500f7654916dfdcd73fa6d446ca9e3a98f99b37d69a658dbf7c772a419"), looks := false }, kinds := [], alts := [], laidByText := true, laidKinds := [.data], laidTests := true, laidLooks := .later }
def PagesRunsUptoCardSaid : Prop := Claim7.holds Tryd.pinned (.plain (OpenSpec.upto pagesRunsSpec)) pagesRunsUptoCard

/-- THE SECOND FORM's CARD OF 'garderobelaw19.PagesUndo'. -/
def pagesUndoUptoCard : Claim7 := { stood := { row := pagesUndoUptoRow, standIns := [], harness := (true, "bf7ed5500f7654916dfdcd73fa6d446ca9e3a98f99b37d69a658dbf7c772a419"), looks := false }, kinds := [], alts := [], laidByText := true, laidKinds := [.data], laidTests := true, laidLooks := .later }
def PagesUndoUptoCardSaid : Prop := Claim7.holds Tryd.pinned (.plain (OpenSpec.upto pagesUndoSpec)) pagesUndoUptoCard
end Rows
end Go.Proofs.YtajgbflmfopfoaaDoor
