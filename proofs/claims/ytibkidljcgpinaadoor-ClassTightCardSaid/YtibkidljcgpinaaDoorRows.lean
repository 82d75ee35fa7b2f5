/-
  NARROWER THAN 'FOR EVERY INPUT', by the rows' own cells (each row's printed sentence says how): ClassSizes: laid · ClassOf: laid · ClassPlace: laid · ClassTight: laid.
  DERIVED. THE GIVEN ROWS OF THIS SEAT. 4 by the template 'for every input the law returns true; each argument reads behind the call as it read before'; 0 by the template 'total and deterministic' (their statements: YtibkidljcgpinaaDoorTotals.lean).
  GIVEN WITH THE SEED: the statements are not yours to turn. If you find one false, say at which input.
  Laid BY PROGRAM, IN A SANDBOX (cutbox-rows.mjs): the forced cells as the released guide's own fill.sh prints them over the translation 3504b5df2c659206… (all of the seat's roots in one cut). By AI agents, Wed Nov 11 2026. No macro, syntax, notation, axiom, sorry.
-/
import Derived.Test.YtibkidljcgpinaaDoorChecked
import GoSem.Claim
import GoSem.ClaimJoined
import GoSem.ClaimMapViews
import Derived.JoinedTies
import Derived.KernelRfl
namespace Go.Proofs.YtibkidljcgpinaaDoor
/- THE CELL 'sum', in the pinned program and in every row, IS THE sha256 OF THE DUMP (.gsa) THAT YtibkidljcgpinaaDoorProg.lean LOADS. Nothing in Lean hashes anything: it is a label: what it is worth is what the hold of that sum in a sandbox is worth. -/
noncomputable def Tryd.pinned : Pinned := { name := "ytibkidljcgpinaadoor", sum := "3504b5df2c6592061847e089bf132cd43ef9a8395ea23169ef7bbd6170402259", checked := Tryd.checked }
namespace Rows
def none {H : Type} : Left H := { results := [], args := [] }

/- WHAT THE LISTED PACKAGE-LEVEL VARIABLES READ AS WHEN THE CALL BEGINS. Each datum BY PROGRAM (the guide's laid-datum.mjs) off the statement by which the dump's own 'gosem.cut.vars' lays the variable. In a bare row this is a premise. The card (YtibkidljcgpinaaDoorCards.lean) ties it to the program's text. -/
def laid_garderobe_class_sizes {H : Type} : DataW H := .agg [.lit (.int .i64 8), .lit (.int .i64 16), .lit (.int .i64 24), .lit (.int .i64 32), .lit (.int .i64 48), .lit (.int .i64 64), .lit (.int .i64 96), .lit (.int .i64 120)]

/-- 'garderobelaw17.ClassSizes': WHATEVER THE INPUT: true; the input reads as it did. -/
def classSizesSpec : ChangeSpec := { name := "classSizes", fn := fun _ => fun
  | [d] => { results := [.lit (.bool true)], args := [d] }
  | _ => none }
def classSizesRow : OpenClaim := { program := "ytibkidljcgpinaadoor", sum := "3504b5df2c6592061847e089bf132cd43ef9a8395ea23169ef7bbd6170402259", func := "garderobe/garderobelaw17.ClassSizes", spec := "classSizes", named := ["garderobe/class.sizes"], apart := false, laid := [("garderobe/class.sizes", laid_garderobe_class_sizes)] }
def ClassSizesSaid : Prop := classSizesRow.holds Tryd.pinned (OpenSpec.ofChange classSizesSpec)

/-- ITS FALSE NEIGHBOUR: 'it returns false'. Refute it at one input. -/
def classSizesWrong : ChangeSpec := { name := "classSizes", fn := fun _ => fun
  | [d] => { results := [.lit (.bool false)], args := [d] }
  | _ => none }
def ClassSizesWrongFalsely : Prop := classSizesRow.holds Tryd.pinned (OpenSpec.ofChange classSizesWrong)

/-- 'garderobelaw17.ClassOf': WHATEVER THE INPUT: true; the input reads as it did. -/
def classOfSpec : ChangeSpec := { name := "classOf", fn := fun _ => fun
  | [d] => { results := [.lit (.bool true)], args := [d] }
  | _ => none }
def classOfRow : OpenClaim := { program := "ytibkidljcgpinaadoor", sum := "3504b5df2c6592061847e089bf132cd43ef9a8395ea23169ef7bbd6170402259", func := "garderobe/garderobelaw17.ClassOf", spec := "classOf", named := ["garderobe/class.sizes"], apart := false, laid := [("garderobe/class.sizes", laid_garderobe_class_sizes)] }
def ClassOfSaid : Prop := classOfRow.holds Tryd.pinned (OpenSpec.ofChange classOfSpec)

/-- ITS FALSE NEIGHBOUR: 'it returns false'. Refute it at one input. -/
def classOfWrong : ChangeSpec := { name := "classOf", fn := fun _ => fun
  | [d] => { results := [.lit (.bool false)], args := [d] }
  | _ => none }
def ClassOfWrongFalsely : Prop := classOfRow.holds Tryd.pinned (OpenSpec.ofChange classOfWrong)

/-- 'garderobelaw17.ClassPlace': WHATEVER THE INPUT: true; the input reads as it did. -/
def classPlaceSpec : ChangeSpec := { name := "classPlace", fn := fun _ => fun
  | [d1, d2] => { results := [.lit (.bool true)], args := [d1, d2] }
  | _ => none }
def classPlaceRow : OpenClaim := { program := "ytibkidljcgpinaadoor", sum := "3504b5df2c6592061847e089bf132cd43ef9a8395ea23169ef7bbd6170402259", func := "garderobe/garderobelaw17.ClassPlace", spec := "classPlace", named := ["garderobe/class.sizes"], apart := false, laid := [("garderobe/class.sizes", laid_garderobe_class_sizes)] }
def ClassPlaceSaid : Prop := classPlaceRow.holds Tryd.pinned (OpenSpec.ofChange classPlaceSpec)

/-- ITS FALSE NEIGHBOUR: 'it returns false'. Refute it at one input. -/
def classPlaceWrong : ChangeSpec := { name := "classPlace", fn := fun _ => fun
  | [d1, d2] => { results := [.lit (.bool false)], args := [d1, d2] }
  | _ => none }
def ClassPlaceWrongFalsely : Prop := classPlaceRow.holds Tryd.pinned (OpenSpec.ofChange classPlaceWrong)

/-- 'garderobelaw17.ClassTight': WHATEVER THE INPUT: true; the input reads as it did. -/
def classTightSpec : ChangeSpec := { name := "classTight", fn := fun _ => fun
  | [d] => { results := [.lit (.bool true)], args := [d] }
  | _ => none }
def classTightRow : OpenClaim := { program := "ytibkidljcgpinaadoor", sum := "3504b5df2c6592061847e089bf132cd43ef9a8395ea23169ef7bbd6170402259", func := "garderobe/garderobelaw17.ClassTight", spec := "classTight", named := ["garderobe/class.sizes"], apart := false, laid := [("garderobe/class.sizes", laid_garderobe_class_sizes)] }
def ClassTightSaid : Prop := classTightRow.holds Tryd.pinned (OpenSpec.ofChange classTightSpec)

/-- ITS FALSE NEIGHBOUR: 'it returns false'. Refute it at one input. -/
def classTightWrong : ChangeSpec := { name := "classTight", fn := fun _ => fun
  | [d] => { results := [.lit (.bool false)], args := [d] }
  | _ => none }
def ClassTightWrongFalsely : Prop := classTightRow.holds Tryd.pinned (OpenSpec.ofChange classTightWrong)

/- THE SECOND FORM. 'bulk': how many values and letters a reading holds, each counted each time it is reached (what is shared counts as often as it is met; a slice's spare places count too). A statement '..UptoSaid' is the law's where the arguments, and the package variables that the reading takes, are together of bulk at most 1048576: NARROWER than '..Said'. Prove '..Said' where nothing that the law and all that it calls make is longer than what came in: it says more and counts as full. Else prove '..UptoSaid'. A law counts once. -/
mutual
def uptoBulk {H : Type} : DataW H → Nat
  | .lit (.string bytes) => bytes.length + 1
  | .lit _ => 1
  | .nil => 1
  | .ptr d => uptoBulk d + 1
  | .slice elems spare => uptoBulkAll elems + uptoBulkAll spare + 1
  | .agg parts => uptoBulkAll parts + 1
  | .iface _ d => uptoBulk d + 1
  | .map entries => uptoBulkEntries entries + 1
  | .held _ => 1
def uptoBulkAll {H : Type} : List (DataW H) → Nat
  | [] => 0
  | d :: r => uptoBulk d + uptoBulkAll r
def uptoBulkEntries {H : Type} : List (Lit × DataW H) → Nat
  | [] => 0
  | x :: r => uptoBulkEntry x + uptoBulkEntries r
def uptoBulkEntry {H : Type} : Lit × DataW H → Nat
  | (.string bytes, d) => bytes.length + uptoBulk d + 1
  | (_, d) => uptoBulk d + 1
 end
def uptoSmall : (H : Type) → List (DataW H) → Bool := fun _ ds => decide (uptoBulkAll ds ≤ 1048576)
def OpenSpec.upto (s : _root_.Go.ChangeSpec) : _root_.Go.OpenSpec := { _root_.Go.OpenSpec.ofChange s with cond := some uptoSmall }

/-- 'garderobelaw17.ClassSizes', WHERE WHAT IT READS IS OF BULK AT MOST 1048576: true; the input reads as it did. -/
def classSizesUptoRow : OpenClaim := { program := "ytibkidljcgpinaadoor", sum := "3504b5df2c6592061847e089bf132cd43ef9a8395ea23169ef7bbd6170402259", func := "garderobe/garderobelaw17.ClassSizes", spec := "classSizes", named := ["garderobe/class.sizes"], apart := false, laid := [("garderobe/class.sizes", laid_garderobe_class_sizes)], narrowed := true }
def ClassSizesUptoSaid : Prop := classSizesUptoRow.holds Tryd.pinned (OpenSpec.upto classSizesSpec)

/-- 'garderobelaw17.ClassOf', WHERE WHAT IT READS IS OF BULK AT MOST 1048576: true; the input reads as it did. -/
def classOfUptoRow : OpenClaim := { program := "ytibkidljcgpinaadoor", sum := "3504b5df2c6592061847e089bf132cd43ef9a8395ea23169ef7bbd6170402259", func := "garderobe/garderobelaw17.ClassOf", spec := "classOf", named := ["garderobe/class.sizes"], apart := false, laid := [("garderobe/class.sizes", laid_garderobe_class_sizes)], narrowed := true }
def ClassOfUptoSaid : Prop := classOfUptoRow.holds Tryd.pinned (OpenSpec.upto classOfSpec)

/-- 'garderobelaw17.ClassPlace', WHERE WHAT IT READS IS OF BULK AT MOST 1048576: true; the input reads as it did. -/
def classPlaceUptoRow : OpenClaim := { program := "ytibkidljcgpinaadoor", sum := "3504b5df2c6592061847e089bf132cd43ef9a8395ea23169ef7bbd6170402259", func := "garderobe/garderobelaw17.ClassPlace", spec := "classPlace", named := ["garderobe/class.sizes"], apart := false, laid := [("garderobe/class.sizes", laid_garderobe_class_sizes)], narrowed := true }
def ClassPlaceUptoSaid : Prop := classPlaceUptoRow.holds Tryd.pinned (OpenSpec.upto classPlaceSpec)

/-- 'garderobelaw17.ClassTight', WHERE WHAT IT READS IS OF BULK AT MOST 1048576: true; the input reads as it did. -/
def classTightUptoRow : OpenClaim := { program := "ytibkidljcgpinaadoor", sum := "3504b5df2c6592061847e089bf132cd43ef9a8395ea23169ef7bbd6170402259", func := "garderobe/garderobelaw17.ClassTight", spec := "classTight", named := ["garderobe/class.sizes"], apart := false, laid := [("garderobe/class.sizes", laid_garderobe_class_sizes)], narrowed := true }
def ClassTightUptoSaid : Prop := classTightUptoRow.holds Tryd.pinned (OpenSpec.upto classTightSpec)

end Rows
end Go.Proofs.YtibkidljcgpinaaDoor
