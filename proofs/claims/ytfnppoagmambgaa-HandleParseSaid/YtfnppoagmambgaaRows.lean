/-
  No cell of these rows narrows 'for every input' (looked for: loops, veiled, ifaces, maps, wideKeys, modest, calm, conditions, laid).
  DERIVED. THE GIVEN ROWS OF THIS SEAT. 5 by the template 'for every input the law returns true; each argument reads behind the call as it read before'; 0 by the template 'total and deterministic' (their statements: YtfnppoagmambgaaTotals.lean).
  GIVEN WITH THE SEED: the statements are not yours to turn. If you find one false, say at which input.
  Laid BY PROGRAM, IN A SANDBOX (cutbox-rows.mjs): the forced cells as the released guide's own fill.sh prints them over the translation debed6a463390482… (all of the seat's roots in one cut). By AI agents, Wed Nov 11 2026. No macro, syntax, notation, axiom, sorry.
-/
import Derived.Test.YtfnppoagmambgaaChecked
import GoSem.Claim
import GoSem.ClaimJoined
import GoSem.ClaimMapViews
import Derived.JoinedTies
import Derived.KernelRfl
namespace Go.Proofs.Ytfnppoagmambgaa
/- THE CELL 'sum', in the pinned program and in every row, IS THE sha256 OF THE DUMP (.gsa) THAT YtfnppoagmambgaaProg.lean LOADS. Nothing in Lean hashes anything: it is a label: what it is worth is what the hold of that sum in a sandbox is worth. -/
noncomputable def Try.pinned : Pinned := { name := "ytfnppoagmambgaa", sum := "debed6a463390482fe5f6901a67db864fc2de5819a0d926aa25fb079b0cbdda2", checked := Try.checked }
namespace Rows
def none {H : Type} : Left H := { results := [], args := [] }

/-- 'garderobelaw20.HandleMakes': WHATEVER THE INPUT: true; the input reads as it did. -/
def handleMakesSpec : ChangeSpec := { name := "handleMakes", fn := fun _ => fun
  | [d] => { results := [.lit (.bool true)], args := [d] }
  | _ => none }
def handleMakesRow : OpenClaim := { program := "ytfnppoagmambgaa", sum := "debed6a463390482fe5f6901a67db864fc2de5819a0d926aa25fb079b0cbdda2", func := "garderobe/garderobelaw20.HandleMakes", spec := "handleMakes", apart := false }
def HandleMakesSaid : Prop := handleMakesRow.holds Try.pinned (OpenSpec.ofChange handleMakesSpec)

/-- ITS FALSE NEIGHBOUR: 'it returns false'. Refute it at one input. -/
def handleMakesWrong : ChangeSpec := { name := "handleMakes", fn := fun _ => fun
  | [d] => { results := [.lit (.bool false)], args := [d] }
  | _ => none }
def HandleMakesWrongFalsely : Prop := handleMakesRow.holds Try.pinned (OpenSpec.ofChange handleMakesWrong)

/-- 'garderobelaw20.HandlePlace': WHATEVER THE INPUT: true; the input reads as it did. -/
def handlePlaceSpec : ChangeSpec := { name := "handlePlace", fn := fun _ => fun
  | [d] => { results := [.lit (.bool true)], args := [d] }
  | _ => none }
def handlePlaceRow : OpenClaim := { program := "ytfnppoagmambgaa", sum := "debed6a463390482fe5f6901a67db864fc2de5819a0d926aa25fb079b0cbdda2", func := "garderobe/garderobelaw20.HandlePlace", spec := "handlePlace", apart := false }
def HandlePlaceSaid : Prop := handlePlaceRow.holds Try.pinned (OpenSpec.ofChange handlePlaceSpec)

/-- ITS FALSE NEIGHBOUR: 'it returns false'. Refute it at one input. -/
def handlePlaceWrong : ChangeSpec := { name := "handlePlace", fn := fun _ => fun
  | [d] => { results := [.lit (.bool false)], args := [d] }
  | _ => none }
def HandlePlaceWrongFalsely : Prop := handlePlaceRow.holds Try.pinned (OpenSpec.ofChange handlePlaceWrong)

/-- 'garderobelaw20.HandleRoots': WHATEVER THE INPUT: true; the input reads as it did. -/
def handleRootsSpec : ChangeSpec := { name := "handleRoots", fn := fun _ => fun
  | [d] => { results := [.lit (.bool true)], args := [d] }
  | _ => none }
def handleRootsRow : OpenClaim := { program := "ytfnppoagmambgaa", sum := "debed6a463390482fe5f6901a67db864fc2de5819a0d926aa25fb079b0cbdda2", func := "garderobe/garderobelaw20.HandleRoots", spec := "handleRoots", unfollowed := true, recurses := true, apart := false }
def HandleRootsSaid : Prop := handleRootsRow.holds Try.pinned (OpenSpec.ofChange handleRootsSpec)

/-- ITS FALSE NEIGHBOUR: 'it returns false'. Refute it at one input. -/
def handleRootsWrong : ChangeSpec := { name := "handleRoots", fn := fun _ => fun
  | [d] => { results := [.lit (.bool false)], args := [d] }
  | _ => none }
def HandleRootsWrongFalsely : Prop := handleRootsRow.holds Try.pinned (OpenSpec.ofChange handleRootsWrong)

/-- 'garderobelaw20.HandleParse': WHATEVER THE INPUT: true; the input reads as it did. -/
def handleParseSpec : ChangeSpec := { name := "handleParse", fn := fun _ => fun
  | [d1, d2, d3, d4] => { results := [.lit (.bool true)], args := [d1, d2, d3, d4] }
  | _ => none }
def handleParseRow : OpenClaim := { program := "ytfnppoagmambgaa", sum := "debed6a463390482fe5f6901a67db864fc2de5819a0d926aa25fb079b0cbdda2", func := "garderobe/garderobelaw20.HandleParse", spec := "handleParse", unfollowed := true, recurses := true, apart := false }
def HandleParseSaid : Prop := handleParseRow.holds Try.pinned (OpenSpec.ofChange handleParseSpec)

/-- ITS FALSE NEIGHBOUR: 'it returns false'. Refute it at one input. -/
def handleParseWrong : ChangeSpec := { name := "handleParse", fn := fun _ => fun
  | [d1, d2, d3, d4] => { results := [.lit (.bool false)], args := [d1, d2, d3, d4] }
  | _ => none }
def HandleParseWrongFalsely : Prop := handleParseRow.holds Try.pinned (OpenSpec.ofChange handleParseWrong)

/-- 'garderobelaw20.HandleApart': WHATEVER THE INPUT: true; the input reads as it did. -/
def handleApartSpec : ChangeSpec := { name := "handleApart", fn := fun _ => fun
  | [d1, d2] => { results := [.lit (.bool true)], args := [d1, d2] }
  | _ => none }
def handleApartRow : OpenClaim := { program := "ytfnppoagmambgaa", sum := "debed6a463390482fe5f6901a67db864fc2de5819a0d926aa25fb079b0cbdda2", func := "garderobe/garderobelaw20.HandleApart", spec := "handleApart", apart := false }
def HandleApartSaid : Prop := handleApartRow.holds Try.pinned (OpenSpec.ofChange handleApartSpec)

/-- ITS FALSE NEIGHBOUR: 'it returns false'. Refute it at one input. -/
def handleApartWrong : ChangeSpec := { name := "handleApart", fn := fun _ => fun
  | [d1, d2] => { results := [.lit (.bool false)], args := [d1, d2] }
  | _ => none }
def HandleApartWrongFalsely : Prop := handleApartRow.holds Try.pinned (OpenSpec.ofChange handleApartWrong)

/- THE SECOND FORM. 'bulk': how many values and letters a reading holds, each counted each time it is reached (what is shared counts as often as it is met; a slice's spare places count too). A statement '..UptoSaid' is the law's where the arguments, and the package variables that the reading takes, are together of bulk at most 1048576: NARROWER than '..Said'. Prove '..Said' where nothing that the law and all that it calls make is longer than what came in: it says more and counts as full. Else prove '..UptoSaid'. A law counts once. -/
mutual
def uptoBulk {H : Type} : DataW H → Nat
  | .lit (.string bytes) => bytes.length + 1
  | .lit _ => 1
  | .nil => 1
  | .ptr d => uptoBulk d + 1
  | .slice elems spare => uptoBulkAll elems + uptoBulkAll spare + 1
  | .agg parts => uptoBulkAll parts + 1
  | .iface _ d => uptoBulk d + 1
  | .map entries => uptoBulkEntries entries + 1
  | .held _ => 1
def uptoBulkAll {H : Type} : List (DataW H) → Nat
  | [] => 0
  | d :: r => uptoBulk d + uptoBulkAll r
def uptoBulkEntries {H : Type} : List (Lit × DataW H) → Nat
  | [] => 0
  | x :: r => uptoBulkEntry x + uptoBulkEntries r
def uptoBulkEntry {H : Type} : Lit × DataW H → Nat
  | (.string bytes, d) => bytes.length + uptoBulk d + 1
  | (_, d) => uptoBulk d + 1
 end
def uptoSmall : (H : Type) → List (DataW H) → Bool := fun _ ds => decide (uptoBulkAll ds ≤ 1048576)
def OpenSpec.upto (s : _root_.Go.ChangeSpec) : _root_.Go.OpenSpec := { _root_.Go.OpenSpec.ofChange s with cond := some uptoSmall }

/-- 'garderobelaw20.HandleMakes', WHERE WHAT IT READS IS OF BULK AT MOST 1048576: true; the input reads as it did. -/
def handleMakesUptoRow : OpenClaim := { program := "ytfnppoagmambgaa", sum := "debed6a463390482fe5f6901a67db864fc2de5819a0d926aa25fb079b0cbdda2", func := "garderobe/garderobelaw20.HandleMakes", spec := "handleMakes", apart := false, narrowed := true }
def HandleMakesUptoSaid : Prop := handleMakesUptoRow.holds Try.pinned (OpenSpec.upto handleMakesSpec)

/-- 'garderobelaw20.HandlePlace', WHERE WHAT IT READS IS OF BULK AT MOST 1048576: true; the input reads as it did. -/
def handlePlaceUptoRow : OpenClaim := { program := "ytfnppoagmambgaa", sum := "debed6a463390482fe5f6901a67db864fc2de5819a0d926aa25fb079b0cbdda2", func := "garderobe/garderobelaw20.HandlePlace", spec := "handlePlace", apart := false, narrowed := true }
def HandlePlaceUptoSaid : Prop := handlePlaceUptoRow.holds Try.pinned (OpenSpec.upto handlePlaceSpec)

/-- 'garderobelaw20.HandleRoots', WHERE WHAT IT READS IS OF BULK AT MOST 1048576: true; the input reads as it did. -/
def handleRootsUptoRow : OpenClaim := { program := "ytfnppoagmambgaa", sum := "debed6a463390482fe5f6901a67db864fc2de5819a0d926aa25fb079b0cbdda2", func := "garderobe/garderobelaw20.HandleRoots", spec := "handleRoots", unfollowed := true, recurses := true, apart := false, narrowed := true }
def HandleRootsUptoSaid : Prop := handleRootsUptoRow.holds Try.pinned (OpenSpec.upto handleRootsSpec)

/-- 'garderobelaw20.HandleParse', WHERE WHAT IT READS IS OF BULK AT MOST 1048576: true; the input reads as it did. -/
def handleParseUptoRow : OpenClaim := { program := "ytfnppoagmambgaa", sum := "debed6a463390482fe5f6901a67db864fc2de5819a0d926aa25fb079b0cbdda2", func := "garderobe/garderobelaw20.HandleParse", spec := "handleParse", unfollowed := true, recurses := true, apart := false, narrowed := true }
def HandleParseUptoSaid : Prop := handleParseUptoRow.holds Try.pinned (OpenSpec.upto handleParseSpec)

/-- 'garderobelaw20.HandleApart', WHERE WHAT IT READS IS OF BULK AT MOST 1048576: true; the input reads as it did. -/
def handleApartUptoRow : OpenClaim := { program := "ytfnppoagmambgaa", sum := "debed6a463390482fe5f6901a67db864fc2de5819a0d926aa25fb079b0cbdda2", func := "garderobe/garderobelaw20.HandleApart", spec := "handleApart", apart := false, narrowed := true }
def HandleApartUptoSaid : Prop := handleApartUptoRow.holds Try.pinned (OpenSpec.upto handleApartSpec)

end Rows
end Go.Proofs.Ytfnppoagmambgaa
