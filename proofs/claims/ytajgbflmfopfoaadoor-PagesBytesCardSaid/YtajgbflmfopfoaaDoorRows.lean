/-
  NARROWER THAN 'FOR EVERY INPUT', by the rows' own cells (each row's printed sentence says how): PagesPlays: laid · PagesChecks: laid · PagesBytes: laid · PagesParse: laid · PagesRuns: laid · PagesUndo: laid.
  DERIVED. THE GIVEN ROWS OF THIS SEAT. 6 by the template 'for every input the law returns true; each argument reads behind the call as it read before'; 0 by the template 'total and deterministic' (their statements: YtajgbflmfopfoaaDoorTotals.lean).
  GIVEN WITH THE SEED: the statements are not yours to turn. If you find one false, say at which input.
  Laid BY PROGRAM, IN A SANDBOX (cutbox-rows.mjs): the forced cells as the released guide's own fill.sh prints them over the translation aa7489affca3c728… (all of the seat's roots in one cut). By AI agents, Wed Nov 11 2026. No macro, syntax, notation, axiom, sorry.
-/
import Derived.Test.YtajgbflmfopfoaaDoorChecked
import GoSem.Claim
import GoSem.ClaimJoined
import GoSem.ClaimMapViews
import Derived.JoinedTies
import Derived.KernelRfl
namespace Go.Proofs.YtajgbflmfopfoaaDoor
/- THE CELL 'sum', in the pinned program and in every row, IS THE sha256 OF THE DUMP (.gsa) THAT YtajgbflmfopfoaaDoorProg.lean LOADS. Nothing in Lean hashes anything: it is a label: what it is worth is what the hold of that sum in a sandbox is worth. -/
noncomputable def Tryd.pinned : Pinned := { name := "ytajgbflmfopfoaadoor", sum := "aa7489affca3c7289a59039417c583f48cbd54fddac00f07ac1ef3f4ad5bd611", checked := Tryd.checked }
namespace Rows
def none {H : Type} : Left H := { results := [], args := [] }

/- WHAT THE LISTED PACKAGE-LEVEL VARIABLES READ AS WHEN THE CALL BEGINS. Each datum BY PROGRAM (the guide's laid-datum.mjs) off the statement by which the dump's own 'gosem.cut.vars' lays the variable. In a bare row this is a premise. The card (YtajgbflmfopfoaaDoorCards.lean) ties it to the program's text. -/
def laid_garderobe_class_sizes {H : Type} : DataW H := .agg [.lit (.int .i64 8), .lit (.int .i64 16), .lit (.int .i64 24), .lit (.int .i64 32), .lit (.int .i64 48), .lit (.int .i64 64), .lit (.int .i64 96), .lit (.int .i64 120)]

/-- 'garderobelaw19.PagesPlays': WHATEVER THE INPUT: true; the input reads as it did. -/
def pagesPlaysSpec : ChangeSpec := { name := "pagesPlays", fn := fun _ => fun
  | [d1, d2] => { results := [.lit (.bool true)], args := [d1, d2] }
  | _ => none }
def pagesPlaysRow : OpenClaim := { program := "ytajgbflmfopfoaadoor", sum := "aa7489affca3c7289a59039417c583f48cbd54fddac00f07ac1ef3f4ad5bd611", func := "garderobe/garderobelaw19.PagesPlays", spec := "pagesPlays", unfollowed := true, recurses := true, named := ["garderobe/class.sizes"], apart := false, laid := [("garderobe/class.sizes", laid_garderobe_class_sizes)] }
def PagesPlaysSaid : Prop := pagesPlaysRow.holds Tryd.pinned (OpenSpec.ofChange pagesPlaysSpec)

/-- ITS FALSE NEIGHBOUR: 'it returns false'. Refute it at one input. -/
def pagesPlaysWrong : ChangeSpec := { name := "pagesPlays", fn := fun _ => fun
  | [d1, d2] => { results := [.lit (.bool false)], args := [d1, d2] }
  | _ => none }
def PagesPlaysWrongFalsely : Prop := pagesPlaysRow.holds Tryd.pinned (OpenSpec.ofChange pagesPlaysWrong)

/-- 'garderobelaw19.PagesChecks': WHATEVER THE INPUT: true; the input reads as it did. -/
def pagesChecksSpec : ChangeSpec := { name := "pagesChecks", fn := fun _ => fun
  | [d1, d2] => { results := [.lit (.bool true)], args := [d1, d2] }
  | _ => none }
def pagesChecksRow : OpenClaim := { program := "ytajgbflmfopfoaadoor", sum := "aa7489affca3c7289a59039417c583f48cbd54fddac00f07ac1ef3f4ad5bd611", func := "garderobe/garderobelaw19.PagesChecks", spec := "pagesChecks", unfollowed := true, recurses := true, named := ["garderobe/class.sizes"], apart := false, laid := [("garderobe/class.sizes", laid_garderobe_class_sizes)] }
def PagesChecksSaid : Prop := pagesChecksRow.holds Tryd.pinned (OpenSpec.ofChange pagesChecksSpec)

/-- ITS FALSE NEIGHBOUR: 'it returns false'. Refute it at one input. -/
def pagesChecksWrong : ChangeSpec := { name := "pagesChecks", fn := fun _ => fun
  | [d1, d2] => { results := [.lit (.bool false)], args := [d1, d2] }
  | _ => none }
def PagesChecksWrongFalsely : Prop := pagesChecksRow.holds Tryd.pinned (OpenSpec.ofChange pagesChecksWrong)

/-- 'garderobelaw19.PagesBytes': WHATEVER THE INPUT: true; the input reads as it did. -/
def pagesBytesSpec : ChangeSpec := { name := "pagesBytes", fn := fun _ => fun
  | [d] => { results := [.lit (.bool true)], args := [d] }
  | _ => none }
def pagesBytesRow : OpenClaim := { program := "ytajgbflmfopfoaadoor", sum := "aa7489affca3c7289a59039417c583f48cbd54fddac00f07ac1ef3f4ad5bd611", func := "garderobe/garderobelaw19.PagesBytes", spec := "pagesBytes", unfollowed := true, recurses := true, named := ["garderobe/class.sizes"], apart := false, laid := [("garderobe/class.sizes", laid_garderobe_class_sizes)] }
def PagesBytesSaid : Prop := pagesBytesRow.holds Tryd.pinned (OpenSpec.ofChange pagesBytesSpec)

/-- ITS FALSE NEIGHBOUR: 'it returns false'. Refute it at one input. -/
def pagesBytesWrong : ChangeSpec := { name := "pagesBytes", fn := fun _ => fun
  | [d] => { results := [.lit (.bool false)], args := [d] }
  | _ => none }
def PagesBytesWrongFalsely : Prop := pagesBytesRow.holds Tryd.pinned (OpenSpec.ofChange pagesBytesWrong)

/-- 'garderobelaw19.PagesParse': WHATEVER THE INPUT: true; the input reads as it did. -/
def pagesParseSpec : ChangeSpec := { name := "pagesParse", fn := fun _ => fun
  | [d1, d2, d3, d4] => { results := [.lit (.bool true)], args := [d1, d2, d3, d4] }
  | _ => none }
def pagesParseRow : OpenClaim := { program := "ytajgbflmfopfoaadoor", sum := "aa7489affca3c7289a59039417c583f48cbd54fddac00f07ac1ef3f4ad5bd611", func := "garderobe/garderobelaw19.PagesParse", spec := "pagesParse", unfollowed := true, recurses := true, named := ["garderobe/class.sizes"], apart := false, laid := [("garderobe/class.sizes", laid_garderobe_class_sizes)] }
def PagesParseSaid : Prop := pagesParseRow.holds Tryd.pinned (OpenSpec.ofChange pagesParseSpec)

/-- ITS FALSE NEIGHBOUR: 'it returns false'. Refute it at one input. -/
def pagesParseWrong : ChangeSpec := { name := "pagesParse", fn := fun _ => fun
  | [d1, d2, d3, d4] => { results := [.lit (.bool false)], args := [d1, d2, d3, d4] }
  | _ => none }
def PagesParseWrongFalsely : Prop := pagesParseRow.holds Tryd.pinned (OpenSpec.ofChange pagesParseWrong)

/-- 'garderobelaw19.PagesRuns': WHATEVER THE INPUT: true; the input reads as it did. -/
def pagesRunsSpec : ChangeSpec := { name := "pagesRuns", fn := fun _ => fun
  | [d1, d2] => { results := [.lit (.bool true)], args := [d1, d2] }
  | _ => none }
def pagesRunsRow : OpenClaim := { program := "ytajgbflmfopfoaadoor", sum := "aa7489affca3c7289a59039417c583f48cbd54fddac00f07ac1ef3f4ad5bd611", func := "garderobe/garderobelaw19.PagesRuns", spec := "pagesRuns", unfollowed := true, recurses := true, named := ["garderobe/class.sizes"], apart := false, laid := [("garderobe/class.sizes", laid_garderobe_class_sizes)] }
def PagesRunsSaid : Prop := pagesRunsRow.holds Tryd.pinned (OpenSpec.ofChange pagesRunsSpec)

/-- ITS FALSE NEIGHBOUR: 'it returns false'. Refute it at one input. -/
def pagesRunsWrong : ChangeSpec := { name := "pagesRuns", fn := fun _ => fun
  | [d1, d2] => { results := [.lit (.bool false)], args := [d1, d2] }
  | _ => none }
def PagesRunsWrongFalsely : Prop := pagesRunsRow.holds Tryd.pinned (OpenSpec.ofChange pagesRunsWrong)

/-- 'garderobelaw19.PagesUndo': WHATEVER THE INPUT: true; the input reads as it did. -/
def pagesUndoSpec : ChangeSpec := { name := "pagesUndo", fn := fun _ => fun
  | [d1, d2, d3, d4] => { results := [.lit (.bool true)], args := [d1, d2, d3, d4] }
  | _ => none }
def pagesUndoRow : OpenClaim := { program := "ytajgbflmfopfoaadoor", sum := "aa7489affca3c7289a59039417c583f48cbd54fddac00f07ac1ef3f4ad5bd611", func := "garderobe/garderobelaw19.PagesUndo", spec := "pagesUndo", unfollowed := true, recurses := true, named := ["garderobe/class.sizes"], apart := false, laid := [("garderobe/class.sizes", laid_garderobe_class_sizes)] }
def PagesUndoSaid : Prop := pagesUndoRow.holds Tryd.pinned (OpenSpec.ofChange pagesUndoSpec)

/-- ITS FALSE NEIGHBOUR: 'it returns false'. Refute it at one input. -/
def pagesUndoWrong : ChangeSpec := { name := "pagesUndo", fn := fun _ => fun
  | [d1, d2, d3, d4] => { results := [.lit (.bool false)], args := [d1, d2, d3, d4] }
  | _ => none }
def PagesUndoWrongFalsely : Prop := pagesUndoRow.holds Tryd.pinned (OpenSpec.ofChange pagesUndoWrong)

/- THE SECOND FORM. 'bulk': how many values and letters a reading holds, each counted each time it is reached (what is shared counts as often as it is met; a slice's spare places count too). A statement '..UptoSaid' is the law's where the arguments, and the package variables that the reading takes, are together of bulk at most 1048576: NARROWER than '..Said'. Prove '..Said' where nothing that the law and all that it calls make is longer than what came in: it says more and counts as full. Else prove '..UptoSaid'. A law counts once. -/
mutual
def uptoBulk {H : Type} : DataW H → Nat
  | .lit (.string bytes) => bytes.length + 1
  | .lit _ => 1
  | .nil => 1
  | .ptr d => uptoBulk d + 1
  | .slice elems spare => uptoBulkAll elems + uptoBulkAll spare + 1
  | .agg parts => uptoBulkAll parts + 1
  | .iface _ d => uptoBulk d + 1
  | .map entries => uptoBulkEntries entries + 1
  | .held _ => 1
def uptoBulkAll {H : Type} : List (DataW H) → Nat
  | [] => 0
  | d :: r => uptoBulk d + uptoBulkAll r
def uptoBulkEntries {H : Type} : List (Lit × DataW H) → Nat
  | [] => 0
  | x :: r => uptoBulkEntry x + uptoBulkEntries r
def uptoBulkEntry {H : Type} : Lit × DataW H → Nat
  | (.string bytes, d) => bytes.length + uptoBulk d + 1
  | (_, d) => uptoBulk d + 1
 end
def uptoSmall : (H : Type) → List (DataW H) → Bool := fun _ ds => decide (uptoBulkAll ds ≤ 1048576)
def OpenSpec.upto (s : _root_.Go.ChangeSpec) : _root_.Go.OpenSpec := { _root_.Go.OpenSpec.ofChange s with cond := some uptoSmall }

/-- 'garderobelaw19.PagesPlays', WHERE WHAT IT READS IS OF BULK AT MOST 1048576: true; the input reads as it did. -/
def pagesPlaysUptoRow : OpenClaim := { program := "ytajgbflmfopfoaadoor", sum := "aa7489affca3c7289a59039417c583f48cbd54fddac00f07ac1ef3f4ad5bd611", func := "garderobe/garderobelaw19.PagesPlays", spec := "pagesPlays", unfollowed := true, recurses := true, named := ["garderobe/class.sizes"], apart := false, laid := [("garderobe/class.sizes", laid_garderobe_class_sizes)], narrowed := true }
def PagesPlaysUptoSaid : Prop := pagesPlaysUptoRow.holds Tryd.pinned (OpenSpec.upto pagesPlaysSpec)

/-- 'garderobelaw19.PagesChecks', WHERE WHAT IT READS IS OF BULK AT MOST 1048576: true; the input reads as it did. -/
def pagesChecksUptoRow : OpenClaim := { program := "ytajgbflmfopfoaadoor", sum := "aa7489affca3c7289a59039417c583f48cbd54fddac00f07ac1ef3f4ad5bd611", func := "garderobe/garderobelaw19.PagesChecks", spec := "pagesChecks", unfollowed := true, recurses := true, named := ["garderobe/class.sizes"], apart := false, laid := [("garderobe/class.sizes", laid_garderobe_class_sizes)], narrowed := true }
def PagesChecksUptoSaid : Prop := pagesChecksUptoRow.holds Tryd.pinned (OpenSpec.upto pagesChecksSpec)

/-- 'garderobelaw19.PagesBytes', WHERE WHAT IT READS IS OF BULK AT MOST 1048576: true; the input reads as it did. -/
def pagesBytesUptoRow : OpenClaim := { program := "ytajgbflmfopfoaadoor", sum := "aa7489affca3c7289a59039417c583f48cbd54fddac00f07ac1ef3f4ad5bd611", func := "garderobe/garderobelaw19.PagesBytes", spec := "pagesBytes", unfollowed := true, recurses := true, named := ["garderobe/class.sizes"], apart := false, laid := [("garderobe/class.sizes", laid_garderobe_class_sizes)], narrowed := true }
def PagesBytesUptoSaid : Prop := pagesBytesUptoRow.holds Tryd.pinned (OpenSpec.upto pagesBytesSpec)

/-- 'garderobelaw19.PagesParse', WHERE WHAT IT READS IS OF BULK AT MOST 1048576: true; the input reads as it did. -/
def pagesParseUptoRow : OpenClaim := { program := "ytajgbflmfopfoaadoor", sum := "aa7489affca3c7289a59039417c583f48cbd54fddac00f07ac1ef3f4ad5bd611", func := "garderobe/garderobelaw19.PagesParse", spec := "pagesParse", unfollowed := true, recurses := true, named := ["garderobe/class.sizes"], apart := false, laid := [("garderobe/class.sizes", laid_garderobe_class_sizes)], narrowed := true }
def PagesParseUptoSaid : Prop := pagesParseUptoRow.holds Tryd.pinned (OpenSpec.upto pagesParseSpec)

/-- 'garderobelaw19.PagesRuns', WHERE WHAT IT READS IS OF BULK AT MOST 1048576: true; the input reads as it did. -/
def pagesRunsUptoRow : OpenClaim := { program := "ytajgbflmfopfoaadoor", sum := "aa7489affca3c7289a59039417c583f48cbd54fddac00f07ac1ef3f4ad5bd611", func := "garderobe/garderobelaw19.PagesRuns", spec := "pagesRuns", unfollowed := true, recurses := true, named := ["garderobe/class.sizes"], apart := false, laid := [("garderobe/class.sizes", laid_garderobe_class_sizes)], narrowed := true }
def PagesRunsUptoSaid : Prop := pagesRunsUptoRow.holds Tryd.pinned (OpenSpec.upto pagesRunsSpec)

/-- 'garderobelaw19.PagesUndo', WHERE WHAT IT READS IS OF BULK AT MOST 1048576: true; the input reads as it did. -/
def pagesUndoUptoRow : OpenClaim := { program := "ytajgbflmfopfoaadoor", sum := "aa7489affca3c7289a59039417c583f48cbd54fddac00f07ac1ef3f4ad5bd611", func := "garderobe/garderobelaw19.PagesUndo", spec := "pagesUndo", unfollowed := true, recurses := true, named := ["garderobe/class.sizes"], apart := false, laid := [("garderobe/class.sizes", laid_garderobe_class_sizes)], narrowed := true }
def PagesUndoUptoSaid : Prop := pagesUndoUptoRow.holds Tryd.pinned (OpenSpec.upto pagesUndoSpec)

end Rows
end Go.Proofs.YtajgbflmfopfoaaDoor
