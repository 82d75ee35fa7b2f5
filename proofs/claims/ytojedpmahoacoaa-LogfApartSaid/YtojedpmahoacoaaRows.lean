/-
  No cell of these rows narrows 'for every input' (looked for: loops, veiled, ifaces, maps, wideKeys, modest, calm, conditions, laid).
  DERIVED. THE GIVEN ROWS OF THIS SEAT. 4 by the template 'for every input the law returns true; each argument reads behind the call as it read before'; 0 by the template 'total and deterministic' (their statements: YtojedpmahoacoaaTotals.lean).
  GIVEN WITH THE SEED: the statements are not yours to turn. If you find one false, say at which input.
  Laid BY PROGRAM, IN A SANDBOX (cutbox-rows.mjs): the forced cells as the released guide's own fill.sh prints them over the translation bedb6807c3c97df7… (all of the seat's roots in one cut). By AI agents, Wed Nov 11 2026. No macro, syntax, notation, axiom, sorry.
-/
import Derived.Test.YtojedpmahoacoaaChecked
import GoSem.Claim
import GoSem.ClaimJoined
import GoSem.ClaimMapViews
import Derived.JoinedTies
import Derived.KernelRfl
namespace Go.Proofs.Ytojedpmahoacoaa
/- THE CELL 'sum', in the pinned program and in every row, IS THE sha256 OF THE DUMP (.gsa) THAT YtojedpmahoacoaaProg.lean LOADS. Nothing in Lean hashes anything: it is a label: what it is worth is what the hold of that sum in a sandbox is worth. -/
noncomputable def Try.pinned : Pinned := { name := "ytojedpmahoacoaa", sum := "bedb6807c3c97df72477f457f3715b4886b82157e7a6cfd9296a21d509794a12", checked := Try.checked }
namespace Rows
def none {H : Type} : Left H := { results := [], args := [] }

/-- 'garderobelaw14.LogfWrites': WHATEVER THE INPUT: true; the input reads as it did. -/
def logfWritesSpec : ChangeSpec := { name := "logfWrites", fn := fun _ => fun
  | [d1, d2, d3, d4] => { results := [.lit (.bool true)], args := [d1, d2, d3, d4] }
  | _ => none }
def logfWritesRow : OpenClaim := { program := "ytojedpmahoacoaa", sum := "bedb6807c3c97df72477f457f3715b4886b82157e7a6cfd9296a21d509794a12", func := "garderobe/garderobelaw14.LogfWrites", spec := "logfWrites", unfollowed := true, recurses := true, apart := false }
def LogfWritesSaid : Prop := logfWritesRow.holds Try.pinned (OpenSpec.ofChange logfWritesSpec)

/-- ITS FALSE NEIGHBOUR: 'it returns false'. Refute it at one input. -/
def logfWritesWrong : ChangeSpec := { name := "logfWrites", fn := fun _ => fun
  | [d1, d2, d3, d4] => { results := [.lit (.bool false)], args := [d1, d2, d3, d4] }
  | _ => none }
def LogfWritesWrongFalsely : Prop := logfWritesRow.holds Try.pinned (OpenSpec.ofChange logfWritesWrong)

/-- 'garderobelaw14.LogfReads': WHATEVER THE INPUT: true; the input reads as it did. -/
def logfReadsSpec : ChangeSpec := { name := "logfReads", fn := fun _ => fun
  | [d1, d2, d3, d4, d5, d6] => { results := [.lit (.bool true)], args := [d1, d2, d3, d4, d5, d6] }
  | _ => none }
def logfReadsRow : OpenClaim := { program := "ytojedpmahoacoaa", sum := "bedb6807c3c97df72477f457f3715b4886b82157e7a6cfd9296a21d509794a12", func := "garderobe/garderobelaw14.LogfReads", spec := "logfReads", unfollowed := true, recurses := true, apart := false }
def LogfReadsSaid : Prop := logfReadsRow.holds Try.pinned (OpenSpec.ofChange logfReadsSpec)

/-- ITS FALSE NEIGHBOUR: 'it returns false'. Refute it at one input. -/
def logfReadsWrong : ChangeSpec := { name := "logfReads", fn := fun _ => fun
  | [d1, d2, d3, d4, d5, d6] => { results := [.lit (.bool false)], args := [d1, d2, d3, d4, d5, d6] }
  | _ => none }
def LogfReadsWrongFalsely : Prop := logfReadsRow.holds Try.pinned (OpenSpec.ofChange logfReadsWrong)

/-- 'garderobelaw14.LogfSame': WHATEVER THE INPUT: true; the input reads as it did. -/
def logfSameSpec : ChangeSpec := { name := "logfSame", fn := fun _ => fun
  | [d1, d2] => { results := [.lit (.bool true)], args := [d1, d2] }
  | _ => none }
def logfSameRow : OpenClaim := { program := "ytojedpmahoacoaa", sum := "bedb6807c3c97df72477f457f3715b4886b82157e7a6cfd9296a21d509794a12", func := "garderobe/garderobelaw14.LogfSame", spec := "logfSame", unfollowed := true, recurses := true, apart := false }
def LogfSameSaid : Prop := logfSameRow.holds Try.pinned (OpenSpec.ofChange logfSameSpec)

/-- ITS FALSE NEIGHBOUR: 'it returns false'. Refute it at one input. -/
def logfSameWrong : ChangeSpec := { name := "logfSame", fn := fun _ => fun
  | [d1, d2] => { results := [.lit (.bool false)], args := [d1, d2] }
  | _ => none }
def LogfSameWrongFalsely : Prop := logfSameRow.holds Try.pinned (OpenSpec.ofChange logfSameWrong)

/-- 'garderobelaw14.LogfApart': WHATEVER THE INPUT: true; the input reads as it did. -/
def logfApartSpec : ChangeSpec := { name := "logfApart", fn := fun _ => fun
  | [d1, d2, d3] => { results := [.lit (.bool true)], args := [d1, d2, d3] }
  | _ => none }
def logfApartRow : OpenClaim := { program := "ytojedpmahoacoaa", sum := "bedb6807c3c97df72477f457f3715b4886b82157e7a6cfd9296a21d509794a12", func := "garderobe/garderobelaw14.LogfApart", spec := "logfApart", unfollowed := true, recurses := true, apart := false }
def LogfApartSaid : Prop := logfApartRow.holds Try.pinned (OpenSpec.ofChange logfApartSpec)

/-- ITS FALSE NEIGHBOUR: 'it returns false'. Refute it at one input. -/
def logfApartWrong : ChangeSpec := { name := "logfApart", fn := fun _ => fun
  | [d1, d2, d3] => { results := [.lit (.bool false)], args := [d1, d2, d3] }
  | _ => none }
def LogfApartWrongFalsely : Prop := logfApartRow.holds Try.pinned (OpenSpec.ofChange logfApartWrong)

/- THE SECOND FORM. 'bulk': how many values and letters a reading holds, each counted each time it is reached (what is shared counts as often as it is met; a slice's spare places count too). A statement '..UptoSaid' is the law's where the arguments, and the package variables that the reading takes, are together of bulk at most 1048576: NARROWER than '..Said'. Prove '..Said' where nothing that the law and all that it calls make is longer than what came in: it says more and counts as full. Else prove '..UptoSaid'. A law counts once. -/
mutual
def uptoBulk {H : Type} : DataW H → Nat
  | .lit (.string bytes) => bytes.length + 1
  | .lit _ => 1
  | .nil => 1
  | .ptr d => uptoBulk d + 1
  | .slice elems spare => uptoBulkAll elems + uptoBulkAll spare + 1
  | .agg parts => uptoBulkAll parts + 1
  | .iface _ d => uptoBulk d + 1
  | .map entries => uptoBulkEntries entries + 1
  | .held _ => 1
def uptoBulkAll {H : Type} : List (DataW H) → Nat
  | [] => 0
  | d :: r => uptoBulk d + uptoBulkAll r
def uptoBulkEntries {H : Type} : List (Lit × DataW H) → Nat
  | [] => 0
  | x :: r => uptoBulkEntry x + uptoBulkEntries r
def uptoBulkEntry {H : Type} : Lit × DataW H → Nat
  | (.string bytes, d) => bytes.length + uptoBulk d + 1
  | (_, d) => uptoBulk d + 1
 end
def uptoSmall : (H : Type) → List (DataW H) → Bool := fun _ ds => decide (uptoBulkAll ds ≤ 1048576)
def OpenSpec.upto (s : _root_.Go.ChangeSpec) : _root_.Go.OpenSpec := { _root_.Go.OpenSpec.ofChange s with cond := some uptoSmall }

/-- 'garderobelaw14.LogfWrites', WHERE WHAT IT READS IS OF BULK AT MOST 1048576: true; the input reads as it did. -/
def logfWritesUptoRow : OpenClaim := { program := "ytojedpmahoacoaa", sum := "bedb6807c3c97df72477f457f3715b4886b82157e7a6cfd9296a21d509794a12", func := "garderobe/garderobelaw14.LogfWrites", spec := "logfWrites", unfollowed := true, recurses := true, apart := false, narrowed := true }
def LogfWritesUptoSaid : Prop := logfWritesUptoRow.holds Try.pinned (OpenSpec.upto logfWritesSpec)

/-- 'garderobelaw14.LogfReads', WHERE WHAT IT READS IS OF BULK AT MOST 1048576: true; the input reads as it did. -/
def logfReadsUptoRow : OpenClaim := { program := "ytojedpmahoacoaa", sum := "bedb6807c3c97df72477f457f3715b4886b82157e7a6cfd9296a21d509794a12", func := "garderobe/garderobelaw14.LogfReads", spec := "logfReads", unfollowed := true, recurses := true, apart := false, narrowed := true }
def LogfReadsUptoSaid : Prop := logfReadsUptoRow.holds Try.pinned (OpenSpec.upto logfReadsSpec)

/-- 'garderobelaw14.LogfSame', WHERE WHAT IT READS IS OF BULK AT MOST 1048576: true; the input reads as it did. -/
def logfSameUptoRow : OpenClaim := { program := "ytojedpmahoacoaa", sum := "bedb6807c3c97df72477f457f3715b4886b82157e7a6cfd9296a21d509794a12", func := "garderobe/garderobelaw14.LogfSame", spec := "logfSame", unfollowed := true, recurses := true, apart := false, narrowed := true }
def LogfSameUptoSaid : Prop := logfSameUptoRow.holds Try.pinned (OpenSpec.upto logfSameSpec)

/-- 'garderobelaw14.LogfApart', WHERE WHAT IT READS IS OF BULK AT MOST 1048576: true; the input reads as it did. -/
def logfApartUptoRow : OpenClaim := { program := "ytojedpmahoacoaa", sum := "bedb6807c3c97df72477f457f3715b4886b82157e7a6cfd9296a21d509794a12", func := "garderobe/garderobelaw14.LogfApart", spec := "logfApart", unfollowed := true, recurses := true, apart := false, narrowed := true }
def LogfApartUptoSaid : Prop := logfApartUptoRow.holds Try.pinned (OpenSpec.upto logfApartSpec)

end Rows
end Go.Proofs.Ytojedpmahoacoaa
