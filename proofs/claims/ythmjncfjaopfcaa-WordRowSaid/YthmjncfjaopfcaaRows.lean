/-
  No cell of these rows narrows 'for every input' (looked for: loops, veiled, ifaces, maps, wideKeys, modest, calm, conditions, laid).
  DERIVED. THE GIVEN ROWS OF THIS SEAT. 5 by the template 'for every input the law returns true; each argument reads behind the call as it read before'; 0 by the template 'total and deterministic' (their statements: YthmjncfjaopfcaaTotals.lean).
  GIVEN WITH THE SEED: the statements are not yours to turn. If you find one false, say at which input.
  Laid BY PROGRAM, IN A SANDBOX (cutbox-rows.mjs): the forced cells as the released guide's own fill.sh prints them over the translation 8bd11c7e38340a2e… (all of the seat's roots in one cut). By AI agents, Wed Nov 11 2026. No macro, syntax, notation, axiom, sorry.
-/
import Derived.Test.YthmjncfjaopfcaaChecked
import GoSem.Claim
import GoSem.ClaimJoined
import GoSem.ClaimMapViews
import Derived.JoinedTies
import Derived.KernelRfl
namespace Go.Proofs.Ythmjncfjaopfcaa
/- THE CELL 'sum', in the pinned program and in every row, IS THE sha256 OF THE DUMP (.gsa) THAT YthmjncfjaopfcaaProg.lean LOADS. Nothing in Lean hashes anything: it is a label: what it is worth is what the hold of that sum in a sandbox is worth. -/
noncomputable def Try.pinned : Pinned := { name := "ythmjncfjaopfcaa", sum := "8bd11c7e38340a2e1c0a11c4bfd7fe62d453c077ce55981986954bbab90df84b", checked := Try.checked }
namespace Rows
def none {H : Type} : Left H := { results := [], args := [] }

/-- 'garderobelaw01.WordRow': WHATEVER THE INPUT: true; the input reads as it did. -/
def wordRowSpec : ChangeSpec := { name := "wordRow", fn := fun _ => fun
  | [d1, d2] => { results := [.lit (.bool true)], args := [d1, d2] }
  | _ => none }
def wordRowRow : OpenClaim := { program := "ythmjncfjaopfcaa", sum := "8bd11c7e38340a2e1c0a11c4bfd7fe62d453c077ce55981986954bbab90df84b", func := "garderobe/garderobelaw01.WordRow", spec := "wordRow", unfollowed := true, recurses := true, apart := false }
def WordRowSaid : Prop := wordRowRow.holds Try.pinned (OpenSpec.ofChange wordRowSpec)

/-- ITS FALSE NEIGHBOUR: 'it returns false'. Refute it at one input. -/
def wordRowWrong : ChangeSpec := { name := "wordRow", fn := fun _ => fun
  | [d1, d2] => { results := [.lit (.bool false)], args := [d1, d2] }
  | _ => none }
def WordRowWrongFalsely : Prop := wordRowRow.holds Try.pinned (OpenSpec.ofChange wordRowWrong)

/-- 'garderobelaw01.WordPut': WHATEVER THE INPUT: true; the input reads as it did. -/
def wordPutSpec : ChangeSpec := { name := "wordPut", fn := fun _ => fun
  | [d1, d2] => { results := [.lit (.bool true)], args := [d1, d2] }
  | _ => none }
def wordPutRow : OpenClaim := { program := "ythmjncfjaopfcaa", sum := "8bd11c7e38340a2e1c0a11c4bfd7fe62d453c077ce55981986954bbab90df84b", func := "garderobe/garderobelaw01.WordPut", spec := "wordPut", unfollowed := true, recurses := true, apart := false }
def WordPutSaid : Prop := wordPutRow.holds Try.pinned (OpenSpec.ofChange wordPutSpec)

/-- ITS FALSE NEIGHBOUR: 'it returns false'. Refute it at one input. -/
def wordPutWrong : ChangeSpec := { name := "wordPut", fn := fun _ => fun
  | [d1, d2] => { results := [.lit (.bool false)], args := [d1, d2] }
  | _ => none }
def WordPutWrongFalsely : Prop := wordPutRow.holds Try.pinned (OpenSpec.ofChange wordPutWrong)

/-- 'garderobelaw01.WordPad': WHATEVER THE INPUT: true; the input reads as it did. -/
def wordPadSpec : ChangeSpec := { name := "wordPad", fn := fun _ => fun
  | [d1, d2] => { results := [.lit (.bool true)], args := [d1, d2] }
  | _ => none }
def wordPadRow : OpenClaim := { program := "ythmjncfjaopfcaa", sum := "8bd11c7e38340a2e1c0a11c4bfd7fe62d453c077ce55981986954bbab90df84b", func := "garderobe/garderobelaw01.WordPad", spec := "wordPad", unfollowed := true, recurses := true, apart := false }
def WordPadSaid : Prop := wordPadRow.holds Try.pinned (OpenSpec.ofChange wordPadSpec)

/-- ITS FALSE NEIGHBOUR: 'it returns false'. Refute it at one input. -/
def wordPadWrong : ChangeSpec := { name := "wordPad", fn := fun _ => fun
  | [d1, d2] => { results := [.lit (.bool false)], args := [d1, d2] }
  | _ => none }
def WordPadWrongFalsely : Prop := wordPadRow.holds Try.pinned (OpenSpec.ofChange wordPadWrong)

/-- 'garderobelaw01.WordXor': WHATEVER THE INPUT: true; the input reads as it did. -/
def wordXorSpec : ChangeSpec := { name := "wordXor", fn := fun _ => fun
  | [d1, d2] => { results := [.lit (.bool true)], args := [d1, d2] }
  | _ => none }
def wordXorRow : OpenClaim := { program := "ythmjncfjaopfcaa", sum := "8bd11c7e38340a2e1c0a11c4bfd7fe62d453c077ce55981986954bbab90df84b", func := "garderobe/garderobelaw01.WordXor", spec := "wordXor", unfollowed := true, recurses := true, apart := false }
def WordXorSaid : Prop := wordXorRow.holds Try.pinned (OpenSpec.ofChange wordXorSpec)

/-- ITS FALSE NEIGHBOUR: 'it returns false'. Refute it at one input. -/
def wordXorWrong : ChangeSpec := { name := "wordXor", fn := fun _ => fun
  | [d1, d2] => { results := [.lit (.bool false)], args := [d1, d2] }
  | _ => none }
def WordXorWrongFalsely : Prop := wordXorRow.holds Try.pinned (OpenSpec.ofChange wordXorWrong)

/-- 'garderobelaw01.WordSame': WHATEVER THE INPUT: true; the input reads as it did. -/
def wordSameSpec : ChangeSpec := { name := "wordSame", fn := fun _ => fun
  | [d1, d2] => { results := [.lit (.bool true)], args := [d1, d2] }
  | _ => none }
def wordSameRow : OpenClaim := { program := "ythmjncfjaopfcaa", sum := "8bd11c7e38340a2e1c0a11c4bfd7fe62d453c077ce55981986954bbab90df84b", func := "garderobe/garderobelaw01.WordSame", spec := "wordSame", unfollowed := true, recurses := true, apart := false }
def WordSameSaid : Prop := wordSameRow.holds Try.pinned (OpenSpec.ofChange wordSameSpec)

/-- ITS FALSE NEIGHBOUR: 'it returns false'. Refute it at one input. -/
def wordSameWrong : ChangeSpec := { name := "wordSame", fn := fun _ => fun
  | [d1, d2] => { results := [.lit (.bool false)], args := [d1, d2] }
  | _ => none }
def WordSameWrongFalsely : Prop := wordSameRow.holds Try.pinned (OpenSpec.ofChange wordSameWrong)

/- THE SECOND FORM. 'bulk': how many values and letters a reading holds, each counted each time it is reached (what is shared counts as often as it is met; a slice's spare places count too). A statement '..UptoSaid' is the law's where the arguments, and the package variables that the reading takes, are together of bulk at most 1048576: NARROWER than '..Said'. Prove '..Said' where nothing that the law and all that it calls make is longer than what came in: it says more and counts as full. Else prove '..UptoSaid'. A law counts once. -/
mutual
def uptoBulk {H : Type} : DataW H → Nat
  | .lit (.string bytes) => bytes.length + 1
  | .lit _ => 1
  | .nil => 1
  | .ptr d => uptoBulk d + 1
  | .slice elems spare => uptoBulkAll elems + uptoBulkAll spare + 1
  | .agg parts => uptoBulkAll parts + 1
  | .iface _ d => uptoBulk d + 1
  | .map entries => uptoBulkEntries entries + 1
  | .held _ => 1
def uptoBulkAll {H : Type} : List (DataW H) → Nat
  | [] => 0
  | d :: r => uptoBulk d + uptoBulkAll r
def uptoBulkEntries {H : Type} : List (Lit × DataW H) → Nat
  | [] => 0
  | x :: r => uptoBulkEntry x + uptoBulkEntries r
def uptoBulkEntry {H : Type} : Lit × DataW H → Nat
  | (.string bytes, d) => bytes.length + uptoBulk d + 1
  | (_, d) => uptoBulk d + 1
 end
def uptoSmall : (H : Type) → List (DataW H) → Bool := fun _ ds => decide (uptoBulkAll ds ≤ 1048576)
def OpenSpec.upto (s : _root_.Go.ChangeSpec) : _root_.Go.OpenSpec := { _root_.Go.OpenSpec.ofChange s with cond := some uptoSmall }

/-- 'garderobelaw01.WordRow', WHERE WHAT IT READS IS OF BULK AT MOST 1048576: true; the input reads as it did. -/
def wordRowUptoRow : OpenClaim := { program := "ythmjncfjaopfcaa", sum := "8bd11c7e38340a2e1c0a11c4bfd7fe62d453c077ce55981986954bbab90df84b", func := "garderobe/garderobelaw01.WordRow", spec := "wordRow", unfollowed := true, recurses := true, apart := false, narrowed := true }
def WordRowUptoSaid : Prop := wordRowUptoRow.holds Try.pinned (OpenSpec.upto wordRowSpec)

/-- 'garderobelaw01.WordPut', WHERE WHAT IT READS IS OF BULK AT MOST 1048576: true; the input reads as it did. -/
def wordPutUptoRow : OpenClaim := { program := "ythmjncfjaopfcaa", sum := "8bd11c7e38340a2e1c0a11c4bfd7fe62d453c077ce55981986954bbab90df84b", func := "garderobe/garderobelaw01.WordPut", spec := "wordPut", unfollowed := true, recurses := true, apart := false, narrowed := true }
def WordPutUptoSaid : Prop := wordPutUptoRow.holds Try.pinned (OpenSpec.upto wordPutSpec)

/-- 'garderobelaw01.WordPad', WHERE WHAT IT READS IS OF BULK AT MOST 1048576: true; the input reads as it did. -/
def wordPadUptoRow : OpenClaim := { program := "ythmjncfjaopfcaa", sum := "8bd11c7e38340a2e1c0a11c4bfd7fe62d453c077ce55981986954bbab90df84b", func := "garderobe/garderobelaw01.WordPad", spec := "wordPad", unfollowed := true, recurses := true, apart := false, narrowed := true }
def WordPadUptoSaid : Prop := wordPadUptoRow.holds Try.pinned (OpenSpec.upto wordPadSpec)

/-- 'garderobelaw01.WordXor', WHERE WHAT IT READS IS OF BULK AT MOST 1048576: true; the input reads as it did. -/
def wordXorUptoRow : OpenClaim := { program := "ythmjncfjaopfcaa", sum := "8bd11c7e38340a2e1c0a11c4bfd7fe62d453c077ce55981986954bbab90df84b", func := "garderobe/garderobelaw01.WordXor", spec := "wordXor", unfollowed := true, recurses := true, apart := false, narrowed := true }
def WordXorUptoSaid : Prop := wordXorUptoRow.holds Try.pinned (OpenSpec.upto wordXorSpec)

/-- 'garderobelaw01.WordSame', WHERE WHAT IT READS IS OF BULK AT MOST 1048576: true; the input reads as it did. -/
def wordSameUptoRow : OpenClaim := { program := "ythmjncfjaopfcaa", sum := "8bd11c7e38340a2e1c0a11c4bfd7fe62d453c077ce55981986954bbab90df84b", func := "garderobe/garderobelaw01.WordSame", spec := "wordSame", unfollowed := true, recurses := true, apart := false, narrowed := true }
def WordSameUptoSaid : Prop := wordSameUptoRow.holds Try.pinned (OpenSpec.upto wordSameSpec)

end Rows
end Go.Proofs.Ythmjncfjaopfcaa
