/-
  NARROWER THAN 'FOR EVERY INPUT', by the rows' own cells (each row's printed sentence says how): SlotPlays: laid · SlotChecks: laid · SlotTrace: laid · SlotFree: laid.
  DERIVED. THE GIVEN ROWS OF THIS SEAT. 4 by the template 'for every input the law returns true; each argument reads behind the call as it read before'; 0 by the template 'total and deterministic' (their statements: YtflgcddgocojpaaDoorTotals.lean).
  GIVEN WITH THE SEED: the statements are not yours to turn. If you find one false, say at which input.
  Laid BY PROGRAM, IN A SANDBOX (cutbox-rows.mjs): the forced cells as the released guide's own fill.sh prints them over the translation f53a2fbc89afedad… (all of the seat's roots in one cut). By AI agents, Wed Nov 11 2026. No macro, syntax, notation, axiom, sorry.
-/
import Derived.Test.YtflgcddgocojpaaDoorChecked
import GoSem.Claim
import GoSem.ClaimJoined
import GoSem.ClaimMapViews
import Derived.JoinedTies
import Derived.KernelRfl
namespace Go.Proofs.YtflgcddgocojpaaDoor
/- THE CELL 'sum', in the pinned program and in every row, IS THE sha256 OF THE DUMP (.gsa) THAT YtflgcddgocojpaaDoorProg.lean LOADS. Nothing in Lean hashes anything: it is a label: what it is worth is what the hold of that sum in a sandbox is worth. -/
noncomputable def Tryd.pinned : Pinned := { name := "ytflgcddgocojpaadoor", sum := "f53a2fbc89afedad9b9756cfb56e6e9477a4eb0ab8534a382b640337caacbf28", checked := Tryd.checked }
namespace Rows
def none {H : Type} : Left H := { results := [], args := [] }

/- WHAT THE LISTED PACKAGE-LEVEL VARIABLES READ AS WHEN THE CALL BEGINS. Each datum BY PROGRAM (the guide's laid-datum.mjs) off the statement by which the dump's own 'gosem.cut.vars' lays the variable. In a bare row this is a premise. The card (YtflgcddgocojpaaDoorCards.lean) ties it to the program's text. -/
def laid_garderobe_class_sizes {H : Type} : DataW H := .agg [.lit (.int .i64 8), .lit (.int .i64 16), .lit (.int .i64 24), .lit (.int .i64 32), .lit (.int .i64 48), .lit (.int .i64 64), .lit (.int .i64 96), .lit (.int .i64 120)]

/-- 'garderobelaw18.SlotPlays': WHATEVER THE INPUT: true; the input reads as it did. -/
def slotPlaysSpec : ChangeSpec := { name := "slotPlays", fn := fun _ => fun
  | [d1, d2] => { results := [.lit (.bool true)], args := [d1, d2] }
  | _ => none }
def slotPlaysRow : OpenClaim := { program := "ytflgcddgocojpaadoor", sum := "f53a2fbc89afedad9b9756cfb56e6e9477a4eb0ab8534a382b640337caacbf28", func := "garderobe/garderobelaw18.SlotPlays", spec := "slotPlays", unfollowed := true, recurses := true, named := ["garderobe/class.sizes"], apart := false, laid := [("garderobe/class.sizes", laid_garderobe_class_sizes)] }
def SlotPlaysSaid : Prop := slotPlaysRow.holds Tryd.pinned (OpenSpec.ofChange slotPlaysSpec)

/-- ITS FALSE NEIGHBOUR: 'it returns false'. Refute it at one input. -/
def slotPlaysWrong : ChangeSpec := { name := "slotPlays", fn := fun _ => fun
  | [d1, d2] => { results := [.lit (.bool false)], args := [d1, d2] }
  | _ => none }
def SlotPlaysWrongFalsely : Prop := slotPlaysRow.holds Tryd.pinned (OpenSpec.ofChange slotPlaysWrong)

/-- 'garderobelaw18.SlotChecks': WHATEVER THE INPUT: true; the input reads as it did. -/
def slotChecksSpec : ChangeSpec := { name := "slotChecks", fn := fun _ => fun
  | [d1, d2, d3, d4, d5] => { results := [.lit (.bool true)], args := [d1, d2, d3, d4, d5] }
  | _ => none }
def slotChecksRow : OpenClaim := { program := "ytflgcddgocojpaadoor", sum := "f53a2fbc89afedad9b9756cfb56e6e9477a4eb0ab8534a382b640337caacbf28", func := "garderobe/garderobelaw18.SlotChecks", spec := "slotChecks", unfollowed := true, recurses := true, named := ["garderobe/class.sizes"], apart := false, laid := [("garderobe/class.sizes", laid_garderobe_class_sizes)] }
def SlotChecksSaid : Prop := slotChecksRow.holds Tryd.pinned (OpenSpec.ofChange slotChecksSpec)

/-- ITS FALSE NEIGHBOUR: 'it returns false'. Refute it at one input. -/
def slotChecksWrong : ChangeSpec := { name := "slotChecks", fn := fun _ => fun
  | [d1, d2, d3, d4, d5] => { results := [.lit (.bool false)], args := [d1, d2, d3, d4, d5] }
  | _ => none }
def SlotChecksWrongFalsely : Prop := slotChecksRow.holds Tryd.pinned (OpenSpec.ofChange slotChecksWrong)

/-- 'garderobelaw18.SlotTrace': WHATEVER THE INPUT: true; the input reads as it did. -/
def slotTraceSpec : ChangeSpec := { name := "slotTrace", fn := fun _ => fun
  | [d1, d2, d3, d4, d5] => { results := [.lit (.bool true)], args := [d1, d2, d3, d4, d5] }
  | _ => none }
def slotTraceRow : OpenClaim := { program := "ytflgcddgocojpaadoor", sum := "f53a2fbc89afedad9b9756cfb56e6e9477a4eb0ab8534a382b640337caacbf28", func := "garderobe/garderobelaw18.SlotTrace", spec := "slotTrace", unfollowed := true, recurses := true, named := ["garderobe/class.sizes"], apart := false, laid := [("garderobe/class.sizes", laid_garderobe_class_sizes)] }
def SlotTraceSaid : Prop := slotTraceRow.holds Tryd.pinned (OpenSpec.ofChange slotTraceSpec)

/-- ITS FALSE NEIGHBOUR: 'it returns false'. Refute it at one input. -/
def slotTraceWrong : ChangeSpec := { name := "slotTrace", fn := fun _ => fun
  | [d1, d2, d3, d4, d5] => { results := [.lit (.bool false)], args := [d1, d2, d3, d4, d5] }
  | _ => none }
def SlotTraceWrongFalsely : Prop := slotTraceRow.holds Tryd.pinned (OpenSpec.ofChange slotTraceWrong)

/-- 'garderobelaw18.SlotFree': WHATEVER THE INPUT: true; the input reads as it did. -/
def slotFreeSpec : ChangeSpec := { name := "slotFree", fn := fun _ => fun
  | [d1, d2, d3, d4] => { results := [.lit (.bool true)], args := [d1, d2, d3, d4] }
  | _ => none }
def slotFreeRow : OpenClaim := { program := "ytflgcddgocojpaadoor", sum := "f53a2fbc89afedad9b9756cfb56e6e9477a4eb0ab8534a382b640337caacbf28", func := "garderobe/garderobelaw18.SlotFree", spec := "slotFree", unfollowed := true, recurses := true, named := ["garderobe/class.sizes"], apart := false, laid := [("garderobe/class.sizes", laid_garderobe_class_sizes)] }
def SlotFreeSaid : Prop := slotFreeRow.holds Tryd.pinned (OpenSpec.ofChange slotFreeSpec)

/-- ITS FALSE NEIGHBOUR: 'it returns false'. Refute it at one input. -/
def slotFreeWrong : ChangeSpec := { name := "slotFree", fn := fun _ => fun
  | [d1, d2, d3, d4] => { results := [.lit (.bool false)], args := [d1, d2, d3, d4] }
  | _ => none }
def SlotFreeWrongFalsely : Prop := slotFreeRow.holds Tryd.pinned (OpenSpec.ofChange slotFreeWrong)

/- THE SECOND FORM. 'bulk': how many values and letters a reading holds, each counted each time it is reached (what is shared counts as often as it is met; a slice's spare places count too). A statement '..UptoSaid' is the law's where the arguments, and the package variables that the reading takes, are together of bulk at most 1048576: NARROWER than '..Said'. Prove '..Said' where nothing that the law and all that it calls make is longer than what came in: it says more and counts as full. Else prove '..UptoSaid'. A law counts once. -/
mutual
def uptoBulk {H : Type} : DataW H → Nat
  | .lit (.string bytes) => bytes.length + 1
  | .lit _ => 1
  | .nil => 1
  | .ptr d => uptoBulk d + 1
  | .slice elems spare => uptoBulkAll elems + uptoBulkAll spare + 1
  | .agg parts => uptoBulkAll parts + 1
  | .iface _ d => uptoBulk d + 1
  | .map entries => uptoBulkEntries entries + 1
  | .held _ => 1
def uptoBulkAll {H : Type} : List (DataW H) → Nat
  | [] => 0
  | d :: r => uptoBulk d + uptoBulkAll r
def uptoBulkEntries {H : Type} : List (Lit × DataW H) → Nat
  | [] => 0
  | x :: r => uptoBulkEntry x + uptoBulkEntries r
def uptoBulkEntry {H : Type} : Lit × DataW H → Nat
  | (.string bytes, d) => bytes.length + uptoBulk d + 1
  | (_, d) => uptoBulk d + 1
 end
def uptoSmall : (H : Type) → List (DataW H) → Bool := fun _ ds => decide (uptoBulkAll ds ≤ 1048576)
def OpenSpec.upto (s : _root_.Go.ChangeSpec) : _root_.Go.OpenSpec := { _root_.Go.OpenSpec.ofChange s with cond := some uptoSmall }

/-- 'garderobelaw18.SlotPlays', WHERE WHAT IT READS IS OF BULK AT MOST 1048576: true; the input reads as it did. -/
def slotPlaysUptoRow : OpenClaim := { program := "ytflgcddgocojpaadoor", sum := "f53a2fbc89afedad9b9756cfb56e6e9477a4eb0ab8534a382b640337caacbf28", func := "garderobe/garderobelaw18.SlotPlays", spec := "slotPlays", unfollowed := true, recurses := true, named := ["garderobe/class.sizes"], apart := false, laid := [("garderobe/class.sizes", laid_garderobe_class_sizes)], narrowed := true }
def SlotPlaysUptoSaid : Prop := slotPlaysUptoRow.holds Tryd.pinned (OpenSpec.upto slotPlaysSpec)

/-- 'garderobelaw18.SlotChecks', WHERE WHAT IT READS IS OF BULK AT MOST 1048576: true; the input reads as it did. -/
def slotChecksUptoRow : OpenClaim := { program := "ytflgcddgocojpaadoor", sum := "f53a2fbc89afedad9b9756cfb56e6e9477a4eb0ab8534a382b640337caacbf28", func := "garderobe/garderobelaw18.SlotChecks", spec := "slotChecks", unfollowed := true, recurses := true, named := ["garderobe/class.sizes"], apart := false, laid := [("garderobe/class.sizes", laid_garderobe_class_sizes)], narrowed := true }
def SlotChecksUptoSaid : Prop := slotChecksUptoRow.holds Tryd.pinned (OpenSpec.upto slotChecksSpec)

/-- 'garderobelaw18.SlotTrace', WHERE WHAT IT READS IS OF BULK AT MOST 1048576: true; the input reads as it did. -/
def slotTraceUptoRow : OpenClaim := { program := "ytflgcddgocojpaadoor", sum := "f53a2fbc89afedad9b9756cfb56e6e9477a4eb0ab8534a382b640337caacbf28", func := "garderobe/garderobelaw18.SlotTrace", spec := "slotTrace", unfollowed := true, recurses := true, named := ["garderobe/class.sizes"], apart := false, laid := [("garderobe/class.sizes", laid_garderobe_class_sizes)], narrowed := true }
def SlotTraceUptoSaid : Prop := slotTraceUptoRow.holds Tryd.pinned (OpenSpec.upto slotTraceSpec)

/-- 'garderobelaw18.SlotFree', WHERE WHAT IT READS IS OF BULK AT MOST 1048576: true; the input reads as it did. -/
def slotFreeUptoRow : OpenClaim := { program := "ytflgcddgocojpaadoor", sum := "f53a2fbc89afedad9b9756cfb56e6e9477a4eb0ab8534a382b640337caacbf28", func := "garderobe/garderobelaw18.SlotFree", spec := "slotFree", unfollowed := true, recurses := true, named := ["garderobe/class.sizes"], apart := false, laid := [("garderobe/class.sizes", laid_garderobe_class_sizes)], narrowed := true }
def SlotFreeUptoSaid : Prop := slotFreeUptoRow.holds Tryd.pinned (OpenSpec.upto slotFreeSpec)

end Rows
end Go.Proofs.YtflgcddgocojpaaDoor
