/-
  No cell of these rows narrows 'for every input' (looked for: loops, veiled, ifaces, maps, wideKeys, modest, calm, conditions, laid).
  DERIVED. THE GIVEN ROWS OF THIS SEAT. 5 by the template 'for every input the law returns true; each argument reads behind the call as it read before'; 0 by the template 'total and deterministic' (their statements: YtoioflbgmofgfabTotals.lean).
  GIVEN WITH THE SEED: the statements are not yours to turn. If you find one false, say at which input.
  Laid BY PROGRAM, IN A SANDBOX (cutbox-rows.mjs): the forced cells as the released guide's own fill.sh prints them over the translation 1e0221fd8bd6b072… (all of the seat's roots in one cut). By AI agents, Wed Nov 11 2026. No macro, syntax, notation, axiom, sorry.
-/
import Derived.Test.YtoioflbgmofgfabChecked
import GoSem.Claim
import GoSem.ClaimJoined
import GoSem.ClaimMapViews
import Derived.JoinedTies
import Derived.KernelRfl
namespace Go.Proofs.Ytoioflbgmofgfab
/- THE CELL 'sum', in the pinned program and in every row, IS THE sha256 OF THE DUMP (.gsa) THAT YtoioflbgmofgfabProg.lean LOADS. Nothing in Lean hashes anything: it is a label: what it is worth is what the hold of that sum in a sandbox is worth. -/
noncomputable def Try.pinned : Pinned := { name := "ytoioflbgmofgfab", sum := "1e0221fd8bd6b072c57d0437626f8ee72cd4a8c5563d5d144a67d6e58db79652", checked := Try.checked }
namespace Rows
def none {H : Type} : Left H := { results := [], args := [] }

/-- 'garderobelaw09.TrustRises': WHATEVER THE INPUT: true; the input reads as it did. -/
def trustRisesSpec : ChangeSpec := { name := "trustRises", fn := fun _ => fun
  | [d1, d2] => { results := [.lit (.bool true)], args := [d1, d2] }
  | _ => none }
def trustRisesRow : OpenClaim := { program := "ytoioflbgmofgfab", sum := "1e0221fd8bd6b072c57d0437626f8ee72cd4a8c5563d5d144a67d6e58db79652", func := "garderobe/garderobelaw09.TrustRises", spec := "trustRises", unfollowed := true, recurses := true, apart := false }
def TrustRisesSaid : Prop := trustRisesRow.holds Try.pinned (OpenSpec.ofChange trustRisesSpec)

/-- ITS FALSE NEIGHBOUR: 'it returns false'. Refute it at one input. -/
def trustRisesWrong : ChangeSpec := { name := "trustRises", fn := fun _ => fun
  | [d1, d2] => { results := [.lit (.bool false)], args := [d1, d2] }
  | _ => none }
def TrustRisesWrongFalsely : Prop := trustRisesRow.holds Try.pinned (OpenSpec.ofChange trustRisesWrong)

/-- 'garderobelaw11.PrioPlays': WHATEVER THE INPUT: true; the input reads as it did. -/
def prioPlaysSpec : ChangeSpec := { name := "prioPlays", fn := fun _ => fun
  | [d] => { results := [.lit (.bool true)], args := [d] }
  | _ => none }
def prioPlaysRow : OpenClaim := { program := "ytoioflbgmofgfab", sum := "1e0221fd8bd6b072c57d0437626f8ee72cd4a8c5563d5d144a67d6e58db79652", func := "garderobe/garderobelaw11.PrioPlays", spec := "prioPlays", unfollowed := true, recurses := true, apart := false }
def PrioPlaysSaid : Prop := prioPlaysRow.holds Try.pinned (OpenSpec.ofChange prioPlaysSpec)

/-- ITS FALSE NEIGHBOUR: 'it returns false'. Refute it at one input. -/
def prioPlaysWrong : ChangeSpec := { name := "prioPlays", fn := fun _ => fun
  | [d] => { results := [.lit (.bool false)], args := [d] }
  | _ => none }
def PrioPlaysWrongFalsely : Prop := prioPlaysRow.holds Try.pinned (OpenSpec.ofChange prioPlaysWrong)

/-- 'garderobelaw11.PrioSorts': WHATEVER THE INPUT: true; the input reads as it did. -/
def prioSortsSpec : ChangeSpec := { name := "prioSorts", fn := fun _ => fun
  | [d] => { results := [.lit (.bool true)], args := [d] }
  | _ => none }
def prioSortsRow : OpenClaim := { program := "ytoioflbgmofgfab", sum := "1e0221fd8bd6b072c57d0437626f8ee72cd4a8c5563d5d144a67d6e58db79652", func := "garderobe/garderobelaw11.PrioSorts", spec := "prioSorts", unfollowed := true, recurses := true, apart := false }
def PrioSortsSaid : Prop := prioSortsRow.holds Try.pinned (OpenSpec.ofChange prioSortsSpec)

/-- ITS FALSE NEIGHBOUR: 'it returns false'. Refute it at one input. -/
def prioSortsWrong : ChangeSpec := { name := "prioSorts", fn := fun _ => fun
  | [d] => { results := [.lit (.bool false)], args := [d] }
  | _ => none }
def PrioSortsWrongFalsely : Prop := prioSortsRow.holds Try.pinned (OpenSpec.ofChange prioSortsWrong)

/-- 'garderobelaw11.PrioNil': WHATEVER THE INPUT: true; the input reads as it did. -/
def prioNilSpec : ChangeSpec := { name := "prioNil", fn := fun _ => fun
  | [d] => { results := [.lit (.bool true)], args := [d] }
  | _ => none }
def prioNilRow : OpenClaim := { program := "ytoioflbgmofgfab", sum := "1e0221fd8bd6b072c57d0437626f8ee72cd4a8c5563d5d144a67d6e58db79652", func := "garderobe/garderobelaw11.PrioNil", spec := "prioNil", unfollowed := true, recurses := true, apart := false }
def PrioNilSaid : Prop := prioNilRow.holds Try.pinned (OpenSpec.ofChange prioNilSpec)

/-- ITS FALSE NEIGHBOUR: 'it returns false'. Refute it at one input. -/
def prioNilWrong : ChangeSpec := { name := "prioNil", fn := fun _ => fun
  | [d] => { results := [.lit (.bool false)], args := [d] }
  | _ => none }
def PrioNilWrongFalsely : Prop := prioNilRow.holds Try.pinned (OpenSpec.ofChange prioNilWrong)

/-- 'garderobelaw11.PrioHalf': WHATEVER THE INPUT: true; the input reads as it did. -/
def prioHalfSpec : ChangeSpec := { name := "prioHalf", fn := fun _ => fun
  | [d1, d2] => { results := [.lit (.bool true)], args := [d1, d2] }
  | _ => none }
def prioHalfRow : OpenClaim := { program := "ytoioflbgmofgfab", sum := "1e0221fd8bd6b072c57d0437626f8ee72cd4a8c5563d5d144a67d6e58db79652", func := "garderobe/garderobelaw11.PrioHalf", spec := "prioHalf", unfollowed := true, recurses := true, apart := false }
def PrioHalfSaid : Prop := prioHalfRow.holds Try.pinned (OpenSpec.ofChange prioHalfSpec)

/-- ITS FALSE NEIGHBOUR: 'it returns false'. Refute it at one input. -/
def prioHalfWrong : ChangeSpec := { name := "prioHalf", fn := fun _ => fun
  | [d1, d2] => { results := [.lit (.bool false)], args := [d1, d2] }
  | _ => none }
def PrioHalfWrongFalsely : Prop := prioHalfRow.holds Try.pinned (OpenSpec.ofChange prioHalfWrong)

/- THE SECOND FORM. 'bulk': how many values and letters a reading holds, each counted each time it is reached (what is shared counts as often as it is met; a slice's spare places count too). A statement '..UptoSaid' is the law's where the arguments, and the package variables that the reading takes, are together of bulk at most 1048576: NARROWER than '..Said'. Prove '..Said' where nothing that the law and all that it calls make is longer than what came in: it says more and counts as full. Else prove '..UptoSaid'. A law counts once. -/
mutual
def uptoBulk {H : Type} : DataW H → Nat
  | .lit (.string bytes) => bytes.length + 1
  | .lit _ => 1
  | .nil => 1
  | .ptr d => uptoBulk d + 1
  | .slice elems spare => uptoBulkAll elems + uptoBulkAll spare + 1
  | .agg parts => uptoBulkAll parts + 1
  | .iface _ d => uptoBulk d + 1
  | .map entries => uptoBulkEntries entries + 1
  | .held _ => 1
def uptoBulkAll {H : Type} : List (DataW H) → Nat
  | [] => 0
  | d :: r => uptoBulk d + uptoBulkAll r
def uptoBulkEntries {H : Type} : List (Lit × DataW H) → Nat
  | [] => 0
  | x :: r => uptoBulkEntry x + uptoBulkEntries r
def uptoBulkEntry {H : Type} : Lit × DataW H → Nat
  | (.string bytes, d) => bytes.length + uptoBulk d + 1
  | (_, d) => uptoBulk d + 1
 end
def uptoSmall : (H : Type) → List (DataW H) → Bool := fun _ ds => decide (uptoBulkAll ds ≤ 1048576)
def OpenSpec.upto (s : _root_.Go.ChangeSpec) : _root_.Go.OpenSpec := { _root_.Go.OpenSpec.ofChange s with cond := some uptoSmall }

/-- 'garderobelaw09.TrustRises', WHERE WHAT IT READS IS OF BULK AT MOST 1048576: true; the input reads as it did. -/
def trustRisesUptoRow : OpenClaim := { program := "ytoioflbgmofgfab", sum := "1e0221fd8bd6b072c57d0437626f8ee72cd4a8c5563d5d144a67d6e58db79652", func := "garderobe/garderobelaw09.TrustRises", spec := "trustRises", unfollowed := true, recurses := true, apart := false, narrowed := true }
def TrustRisesUptoSaid : Prop := trustRisesUptoRow.holds Try.pinned (OpenSpec.upto trustRisesSpec)

/-- 'garderobelaw11.PrioPlays', WHERE WHAT IT READS IS OF BULK AT MOST 1048576: true; the input reads as it did. -/
def prioPlaysUptoRow : OpenClaim := { program := "ytoioflbgmofgfab", sum := "1e0221fd8bd6b072c57d0437626f8ee72cd4a8c5563d5d144a67d6e58db79652", func := "garderobe/garderobelaw11.PrioPlays", spec := "prioPlays", unfollowed := true, recurses := true, apart := false, narrowed := true }
def PrioPlaysUptoSaid : Prop := prioPlaysUptoRow.holds Try.pinned (OpenSpec.upto prioPlaysSpec)

/-- 'garderobelaw11.PrioSorts', WHERE WHAT IT READS IS OF BULK AT MOST 1048576: true; the input reads as it did. -/
def prioSortsUptoRow : OpenClaim := { program := "ytoioflbgmofgfab", sum := "1e0221fd8bd6b072c57d0437626f8ee72cd4a8c5563d5d144a67d6e58db79652", func := "garderobe/garderobelaw11.PrioSorts", spec := "prioSorts", unfollowed := true, recurses := true, apart := false, narrowed := true }
def PrioSortsUptoSaid : Prop := prioSortsUptoRow.holds Try.pinned (OpenSpec.upto prioSortsSpec)

/-- 'garderobelaw11.PrioNil', WHERE WHAT IT READS IS OF BULK AT MOST 1048576: true; the input reads as it did. -/
def prioNilUptoRow : OpenClaim := { program := "ytoioflbgmofgfab", sum := "1e0221fd8bd6b072c57d0437626f8ee72cd4a8c5563d5d144a67d6e58db79652", func := "garderobe/garderobelaw11.PrioNil", spec := "prioNil", unfollowed := true, recurses := true, apart := false, narrowed := true }
def PrioNilUptoSaid : Prop := prioNilUptoRow.holds Try.pinned (OpenSpec.upto prioNilSpec)

/-- 'garderobelaw11.PrioHalf', WHERE WHAT IT READS IS OF BULK AT MOST 1048576: true; the input reads as it did. -/
def prioHalfUptoRow : OpenClaim := { program := "ytoioflbgmofgfab", sum := "1e0221fd8bd6b072c57d0437626f8ee72cd4a8c5563d5d144a67d6e58db79652", func := "garderobe/garderobelaw11.PrioHalf", spec := "prioHalf", unfollowed := true, recurses := true, apart := false, narrowed := true }
def PrioHalfUptoSaid : Prop := prioHalfUptoRow.holds Try.pinned (OpenSpec.upto prioHalfSpec)

end Rows
end Go.Proofs.Ytoioflbgmofgfab
