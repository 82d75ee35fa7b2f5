/-
  NARROWER THAN 'FOR EVERY INPUT', by the rows' own cells (each row's printed sentence says how): GeomPlaces: laid · GeomBack: laid.
  DERIVED. THE GIVEN ROWS OF THIS SEAT. 2 by the template 'for every input the law returns true; each argument reads behind the call as it read before'; 0 by the template 'total and deterministic' (their statements: YtokekhiibbhamaaDoorTotals.lean).
  GIVEN WITH THE SEED: the statements are not yours to turn. If you find one false, say at which input.
  Laid BY PROGRAM, IN A SANDBOX (cutbox-rows.mjs): the forced cells as the released guide's own fill.sh prints them over the translation aee37320e05e56c3… (all of the seat's roots in one cut). By AI agents, Wed Nov 11 2026. No macro, syntax, notation, axiom, sorry.
-/
import Derived.Test.YtokekhiibbhamaaDoorChecked
import GoSem.Claim
import GoSem.ClaimJoined
import GoSem.ClaimMapViews
import Derived.JoinedTies
import Derived.KernelRfl
namespace Go.Proofs.YtokekhiibbhamaaDoor
/- THE CELL 'sum', in the pinned program and in every row, IS THE sha256 OF THE DUMP (.gsa) THAT YtokekhiibbhamaaDoorProg.lean LOADS. Nothing in Lean hashes anything: it is a label: what it is worth is what the hold of that sum in a sandbox is worth. -/
noncomputable def Tryd.pinned : Pinned := { name := "ytokekhiibbhamaadoor", sum := "aee37320e05e56c3cfb59d27b87d2b2b28028f1c44d0e9e77c7cdb0b80cf5aad", checked := Tryd.checked }
namespace Rows
def none {H : Type} : Left H := { results := [], args := [] }

/- WHAT THE LISTED PACKAGE-LEVEL VARIABLES READ AS WHEN THE CALL BEGINS. Each datum BY PROGRAM (the guide's laid-datum.mjs) off the statement by which the dump's own 'gosem.cut.vars' lays the variable. In a bare row this is a premise. The card (YtokekhiibbhamaaDoorCards.lean) ties it to the program's text. -/
def laid_garderobe_geom_kinds {H : Type} : DataW H := .agg [.lit (.int .i64 1), .lit (.int .i64 2), .lit (.int .i64 3), .lit (.int .i64 4)]

/-- 'garderobelaw07.GeomPlaces': WHATEVER THE INPUT: true; the input reads as it did. -/
def geomPlacesSpec : ChangeSpec := { name := "geomPlaces", fn := fun _ => fun
  | [d1, d2] => { results := [.lit (.bool true)], args := [d1, d2] }
  | _ => none }
def geomPlacesRow : OpenClaim := { program := "ytokekhiibbhamaadoor", sum := "aee37320e05e56c3cfb59d27b87d2b2b28028f1c44d0e9e77c7cdb0b80cf5aad", func := "garderobe/garderobelaw07.GeomPlaces", spec := "geomPlaces", unfollowed := true, recurses := true, named := ["garderobe/geom.kinds"], apart := false, laid := [("garderobe/geom.kinds", laid_garderobe_geom_kinds)] }
def GeomPlacesSaid : Prop := geomPlacesRow.holds Tryd.pinned (OpenSpec.ofChange geomPlacesSpec)

/-- ITS FALSE NEIGHBOUR: 'it returns false'. Refute it at one input. -/
def geomPlacesWrong : ChangeSpec := { name := "geomPlaces", fn := fun _ => fun
  | [d1, d2] => { results := [.lit (.bool false)], args := [d1, d2] }
  | _ => none }
def GeomPlacesWrongFalsely : Prop := geomPlacesRow.holds Tryd.pinned (OpenSpec.ofChange geomPlacesWrong)

/-- 'garderobelaw07.GeomBack': WHATEVER THE INPUT: true; the input reads as it did. -/
def geomBackSpec : ChangeSpec := { name := "geomBack", fn := fun _ => fun
  | [d1, d2] => { results := [.lit (.bool true)], args := [d1, d2] }
  | _ => none }
def geomBackRow : OpenClaim := { program := "ytokekhiibbhamaadoor", sum := "aee37320e05e56c3cfb59d27b87d2b2b28028f1c44d0e9e77c7cdb0b80cf5aad", func := "garderobe/garderobelaw07.GeomBack", spec := "geomBack", unfollowed := true, recurses := true, named := ["garderobe/geom.kinds"], apart := false, laid := [("garderobe/geom.kinds", laid_garderobe_geom_kinds)] }
def GeomBackSaid : Prop := geomBackRow.holds Tryd.pinned (OpenSpec.ofChange geomBackSpec)

/-- ITS FALSE NEIGHBOUR: 'it returns false'. Refute it at one input. -/
def geomBackWrong : ChangeSpec := { name := "geomBack", fn := fun _ => fun
  | [d1, d2] => { results := [.lit (.bool false)], args := [d1, d2] }
  | _ => none }
def GeomBackWrongFalsely : Prop := geomBackRow.holds Tryd.pinned (OpenSpec.ofChange geomBackWrong)

/- THE SECOND FORM. 'bulk': how many values and letters a reading holds, each counted each time it is reached (what is shared counts as often as it is met; a slice's spare places count too). A statement '..UptoSaid' is the law's where the arguments, and the package variables that the reading takes, are together of bulk at most 1048576: NARROWER than '..Said'. Prove '..Said' where nothing that the law and all that it calls make is longer than what came in: it says more and counts as full. Else prove '..UptoSaid'. A law counts once. -/
mutual
def uptoBulk {H : Type} : DataW H → Nat
  | .lit (.string bytes) => bytes.length + 1
  | .lit _ => 1
  | .nil => 1
  | .ptr d => uptoBulk d + 1
  | .slice elems spare => uptoBulkAll elems + uptoBulkAll spare + 1
  | .agg parts => uptoBulkAll parts + 1
  | .iface _ d => uptoBulk d + 1
  | .map entries => uptoBulkEntries entries + 1
  | .held _ => 1
def uptoBulkAll {H : Type} : List (DataW H) → Nat
  | [] => 0
  | d :: r => uptoBulk d + uptoBulkAll r
def uptoBulkEntries {H : Type} : List (Lit × DataW H) → Nat
  | [] => 0
  | x :: r => uptoBulkEntry x + uptoBulkEntries r
def uptoBulkEntry {H : Type} : Lit × DataW H → Nat
  | (.string bytes, d) => bytes.length + uptoBulk d + 1
  | (_, d) => uptoBulk d + 1
 end
def uptoSmall : (H : Type) → List (DataW H) → Bool := fun _ ds => decide (uptoBulkAll ds ≤ 1048576)
def OpenSpec.upto (s : _root_.Go.ChangeSpec) : _root_.Go.OpenSpec := { _root_.Go.OpenSpec.ofChange s with cond := some uptoSmall }

/-- 'garderobelaw07.GeomPlaces', WHERE WHAT IT READS IS OF BULK AT MOST 1048576: true; the input reads as it did. -/
def geomPlacesUptoRow : OpenClaim := { program := "ytokekhiibbhamaadoor", sum := "aee37320e05e56c3cfb59d27b87d2b2b28028f1c44d0e9e77c7cdb0b80cf5aad", func := "garderobe/garderobelaw07.GeomPlaces", spec := "geomPlaces", unfollowed := true, recurses := true, named := ["garderobe/geom.kinds"], apart := false, laid := [("garderobe/geom.kinds", laid_garderobe_geom_kinds)], narrowed := true }
def GeomPlacesUptoSaid : Prop := geomPlacesUptoRow.holds Tryd.pinned (OpenSpec.upto geomPlacesSpec)

/-- 'garderobelaw07.GeomBack', WHERE WHAT IT READS IS OF BULK AT MOST 1048576: true; the input reads as it did. -/
def geomBackUptoRow : OpenClaim := { program := "ytokekhiibbhamaadoor", sum := "aee37320e05e56c3cfb59d27b87d2b2b28028f1c44d0e9e77c7cdb0b80cf5aad", func := "garderobe/garderobelaw07.GeomBack", spec := "geomBack", unfollowed := true, recurses := true, named := ["garderobe/geom.kinds"], apart := false, laid := [("garderobe/geom.kinds", laid_garderobe_geom_kinds)], narrowed := true }
def GeomBackUptoSaid : Prop := geomBackUptoRow.holds Tryd.pinned (OpenSpec.upto geomBackSpec)

end Rows
end Go.Proofs.YtokekhiibbhamaaDoor
