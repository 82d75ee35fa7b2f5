/-
  No cell of these rows narrows 'for every input' (looked for: loops, veiled, ifaces, maps, wideKeys, modest, calm, conditions, laid).
  DERIVED. THE GIVEN ROWS OF THIS SEAT. 8 by the template 'for every input the law returns true; each argument reads behind the call as it read before'; 0 by the template 'total and deterministic' (their statements: YtimonlkelgpekaaTotals.lean).
  GIVEN WITH THE SEED: the statements are not yours to turn. If you find one false, say at which input.
  Laid BY PROGRAM, IN A SANDBOX (cutbox-rows.mjs): the forced cells as the released guide's own fill.sh prints them over the translation ff6c6b65039c3c21… (all of the seat's roots in one cut). By AI agents, Wed Nov 11 2026. No macro, syntax, notation, axiom, sorry.
-/
import Derived.Test.YtimonlkelgpekaaChecked
import GoSem.Claim
import GoSem.ClaimJoined
import GoSem.ClaimMapViews
import Derived.JoinedTies
import Derived.KernelRfl
namespace Go.Proofs.Ytimonlkelgpekaa
/- THE CELL 'sum', in the pinned program and in every row, IS THE sha256 OF THE DUMP (.gsa) THAT YtimonlkelgpekaaProg.lean LOADS. Nothing in Lean hashes anything: it is a label: what it is worth is what the hold of that sum in a sandbox is worth. -/
noncomputable def Try.pinned : Pinned := { name := "ytimonlkelgpekaa", sum := "ff6c6b65039c3c2124099960caa905bcd0868d2646e7d5dbb081eab6d5c762b8", checked := Try.checked }
namespace Rows
def none {H : Type} : Left H := { results := [], args := [] }

/-- 'garderobelaw05.AesEncrypts': WHATEVER THE INPUT: true; the input reads as it did. -/
def aesEncryptsSpec : ChangeSpec := { name := "aesEncrypts", fn := fun _ => fun
  | [d1, d2, d3, d4] => { results := [.lit (.bool true)], args := [d1, d2, d3, d4] }
  | _ => none }
def aesEncryptsRow : OpenClaim := { program := "ytimonlkelgpekaa", sum := "ff6c6b65039c3c2124099960caa905bcd0868d2646e7d5dbb081eab6d5c762b8", func := "garderobe/garderobelaw05.AesEncrypts", spec := "aesEncrypts", unfollowed := true, recurses := true, apart := false }
def AesEncryptsSaid : Prop := aesEncryptsRow.holds Try.pinned (OpenSpec.ofChange aesEncryptsSpec)

/-- ITS FALSE NEIGHBOUR: 'it returns false'. Refute it at one input. -/
def aesEncryptsWrong : ChangeSpec := { name := "aesEncrypts", fn := fun _ => fun
  | [d1, d2, d3, d4] => { results := [.lit (.bool false)], args := [d1, d2, d3, d4] }
  | _ => none }
def AesEncryptsWrongFalsely : Prop := aesEncryptsRow.holds Try.pinned (OpenSpec.ofChange aesEncryptsWrong)

/-- 'garderobelaw05.AesBack': WHATEVER THE INPUT: true; the input reads as it did. -/
def aesBackSpec : ChangeSpec := { name := "aesBack", fn := fun _ => fun
  | [d1, d2, d3, d4] => { results := [.lit (.bool true)], args := [d1, d2, d3, d4] }
  | _ => none }
def aesBackRow : OpenClaim := { program := "ytimonlkelgpekaa", sum := "ff6c6b65039c3c2124099960caa905bcd0868d2646e7d5dbb081eab6d5c762b8", func := "garderobe/garderobelaw05.AesBack", spec := "aesBack", unfollowed := true, recurses := true, apart := false }
def AesBackSaid : Prop := aesBackRow.holds Try.pinned (OpenSpec.ofChange aesBackSpec)

/-- ITS FALSE NEIGHBOUR: 'it returns false'. Refute it at one input. -/
def aesBackWrong : ChangeSpec := { name := "aesBack", fn := fun _ => fun
  | [d1, d2, d3, d4] => { results := [.lit (.bool false)], args := [d1, d2, d3, d4] }
  | _ => none }
def AesBackWrongFalsely : Prop := aesBackRow.holds Try.pinned (OpenSpec.ofChange aesBackWrong)

/-- 'garderobelaw05.AesWords': WHATEVER THE INPUT: true; the input reads as it did. -/
def aesWordsSpec : ChangeSpec := { name := "aesWords", fn := fun _ => fun
  | [d1, d2, d3, d4] => { results := [.lit (.bool true)], args := [d1, d2, d3, d4] }
  | _ => none }
def aesWordsRow : OpenClaim := { program := "ytimonlkelgpekaa", sum := "ff6c6b65039c3c2124099960caa905bcd0868d2646e7d5dbb081eab6d5c762b8", func := "garderobe/garderobelaw05.AesWords", spec := "aesWords", unfollowed := true, recurses := true, apart := false }
def AesWordsSaid : Prop := aesWordsRow.holds Try.pinned (OpenSpec.ofChange aesWordsSpec)

/-- ITS FALSE NEIGHBOUR: 'it returns false'. Refute it at one input. -/
def aesWordsWrong : ChangeSpec := { name := "aesWords", fn := fun _ => fun
  | [d1, d2, d3, d4] => { results := [.lit (.bool false)], args := [d1, d2, d3, d4] }
  | _ => none }
def AesWordsWrongFalsely : Prop := aesWordsRow.holds Try.pinned (OpenSpec.ofChange aesWordsWrong)

/-- 'garderobelaw05.AesNew': WHATEVER THE INPUT: true; the input reads as it did. -/
def aesNewSpec : ChangeSpec := { name := "aesNew", fn := fun _ => fun
  | [d1, d2] => { results := [.lit (.bool true)], args := [d1, d2] }
  | _ => none }
def aesNewRow : OpenClaim := { program := "ytimonlkelgpekaa", sum := "ff6c6b65039c3c2124099960caa905bcd0868d2646e7d5dbb081eab6d5c762b8", func := "garderobe/garderobelaw05.AesNew", spec := "aesNew", unfollowed := true, recurses := true, apart := false }
def AesNewSaid : Prop := aesNewRow.holds Try.pinned (OpenSpec.ofChange aesNewSpec)

/-- ITS FALSE NEIGHBOUR: 'it returns false'. Refute it at one input. -/
def aesNewWrong : ChangeSpec := { name := "aesNew", fn := fun _ => fun
  | [d1, d2] => { results := [.lit (.bool false)], args := [d1, d2] }
  | _ => none }
def AesNewWrongFalsely : Prop := aesNewRow.holds Try.pinned (OpenSpec.ofChange aesNewWrong)

/-- 'garderobelaw05.AesApart': WHATEVER THE INPUT: true; the input reads as it did. -/
def aesApartSpec : ChangeSpec := { name := "aesApart", fn := fun _ => fun
  | [d1, d2, d3, d4, d5] => { results := [.lit (.bool true)], args := [d1, d2, d3, d4, d5] }
  | _ => none }
def aesApartRow : OpenClaim := { program := "ytimonlkelgpekaa", sum := "ff6c6b65039c3c2124099960caa905bcd0868d2646e7d5dbb081eab6d5c762b8", func := "garderobe/garderobelaw05.AesApart", spec := "aesApart", unfollowed := true, recurses := true, apart := false }
def AesApartSaid : Prop := aesApartRow.holds Try.pinned (OpenSpec.ofChange aesApartSpec)

/-- ITS FALSE NEIGHBOUR: 'it returns false'. Refute it at one input. -/
def aesApartWrong : ChangeSpec := { name := "aesApart", fn := fun _ => fun
  | [d1, d2, d3, d4, d5] => { results := [.lit (.bool false)], args := [d1, d2, d3, d4, d5] }
  | _ => none }
def AesApartWrongFalsely : Prop := aesApartRow.holds Try.pinned (OpenSpec.ofChange aesApartWrong)

/-- 'garderobelaw06.CtrApplies': WHATEVER THE INPUT: true; the input reads as it did. -/
def ctrAppliesSpec : ChangeSpec := { name := "ctrApplies", fn := fun _ => fun
  | [d1, d2, d3, d4] => { results := [.lit (.bool true)], args := [d1, d2, d3, d4] }
  | _ => none }
def ctrAppliesRow : OpenClaim := { program := "ytimonlkelgpekaa", sum := "ff6c6b65039c3c2124099960caa905bcd0868d2646e7d5dbb081eab6d5c762b8", func := "garderobe/garderobelaw06.CtrApplies", spec := "ctrApplies", unfollowed := true, recurses := true, apart := false }
def CtrAppliesSaid : Prop := ctrAppliesRow.holds Try.pinned (OpenSpec.ofChange ctrAppliesSpec)

/-- ITS FALSE NEIGHBOUR: 'it returns false'. Refute it at one input. -/
def ctrAppliesWrong : ChangeSpec := { name := "ctrApplies", fn := fun _ => fun
  | [d1, d2, d3, d4] => { results := [.lit (.bool false)], args := [d1, d2, d3, d4] }
  | _ => none }
def CtrAppliesWrongFalsely : Prop := ctrAppliesRow.holds Try.pinned (OpenSpec.ofChange ctrAppliesWrong)

/-- 'garderobelaw06.CtrBack': WHATEVER THE INPUT: true; the input reads as it did. -/
def ctrBackSpec : ChangeSpec := { name := "ctrBack", fn := fun _ => fun
  | [d1, d2, d3, d4] => { results := [.lit (.bool true)], args := [d1, d2, d3, d4] }
  | _ => none }
def ctrBackRow : OpenClaim := { program := "ytimonlkelgpekaa", sum := "ff6c6b65039c3c2124099960caa905bcd0868d2646e7d5dbb081eab6d5c762b8", func := "garderobe/garderobelaw06.CtrBack", spec := "ctrBack", unfollowed := true, recurses := true, apart := false }
def CtrBackSaid : Prop := ctrBackRow.holds Try.pinned (OpenSpec.ofChange ctrBackSpec)

/-- ITS FALSE NEIGHBOUR: 'it returns false'. Refute it at one input. -/
def ctrBackWrong : ChangeSpec := { name := "ctrBack", fn := fun _ => fun
  | [d1, d2, d3, d4] => { results := [.lit (.bool false)], args := [d1, d2, d3, d4] }
  | _ => none }
def CtrBackWrongFalsely : Prop := ctrBackRow.holds Try.pinned (OpenSpec.ofChange ctrBackWrong)

/-- 'garderobelaw06.CtrMost': WHATEVER THE INPUT: true; the input reads as it did. -/
def ctrMostSpec : ChangeSpec := { name := "ctrMost", fn := fun _ => fun
  | [d] => { results := [.lit (.bool true)], args := [d] }
  | _ => none }
def ctrMostRow : OpenClaim := { program := "ytimonlkelgpekaa", sum := "ff6c6b65039c3c2124099960caa905bcd0868d2646e7d5dbb081eab6d5c762b8", func := "garderobe/garderobelaw06.CtrMost", spec := "ctrMost", unfollowed := true, recurses := true, apart := false }
def CtrMostSaid : Prop := ctrMostRow.holds Try.pinned (OpenSpec.ofChange ctrMostSpec)

/-- ITS FALSE NEIGHBOUR: 'it returns false'. Refute it at one input. -/
def ctrMostWrong : ChangeSpec := { name := "ctrMost", fn := fun _ => fun
  | [d] => { results := [.lit (.bool false)], args := [d] }
  | _ => none }
def CtrMostWrongFalsely : Prop := ctrMostRow.holds Try.pinned (OpenSpec.ofChange ctrMostWrong)

/- THE SECOND FORM. 'bulk': how many values and letters a reading holds, each counted each time it is reached (what is shared counts as often as it is met; a slice's spare places count too). A statement '..UptoSaid' is the law's where the arguments, and the package variables that the reading takes, are together of bulk at most 1048576: NARROWER than '..Said'. Prove '..Said' where nothing that the law and all that it calls make is longer than what came in: it says more and counts as full. Else prove '..UptoSaid'. A law counts once. -/
mutual
def uptoBulk {H : Type} : DataW H → Nat
  | .lit (.string bytes) => bytes.length + 1
  | .lit _ => 1
  | .nil => 1
  | .ptr d => uptoBulk d + 1
  | .slice elems spare => uptoBulkAll elems + uptoBulkAll spare + 1
  | .agg parts => uptoBulkAll parts + 1
  | .iface _ d => uptoBulk d + 1
  | .map entries => uptoBulkEntries entries + 1
  | .held _ => 1
def uptoBulkAll {H : Type} : List (DataW H) → Nat
  | [] => 0
  | d :: r => uptoBulk d + uptoBulkAll r
def uptoBulkEntries {H : Type} : List (Lit × DataW H) → Nat
  | [] => 0
  | x :: r => uptoBulkEntry x + uptoBulkEntries r
def uptoBulkEntry {H : Type} : Lit × DataW H → Nat
  | (.string bytes, d) => bytes.length + uptoBulk d + 1
  | (_, d) => uptoBulk d + 1
 end
def uptoSmall : (H : Type) → List (DataW H) → Bool := fun _ ds => decide (uptoBulkAll ds ≤ 1048576)
def OpenSpec.upto (s : _root_.Go.ChangeSpec) : _root_.Go.OpenSpec := { _root_.Go.OpenSpec.ofChange s with cond := some uptoSmall }

/-- 'garderobelaw05.AesEncrypts', WHERE WHAT IT READS IS OF BULK AT MOST 1048576: true; the input reads as it did. -/
def aesEncryptsUptoRow : OpenClaim := { program := "ytimonlkelgpekaa", sum := "ff6c6b65039c3c2124099960caa905bcd0868d2646e7d5dbb081eab6d5c762b8", func := "garderobe/garderobelaw05.AesEncrypts", spec := "aesEncrypts", unfollowed := true, recurses := true, apart := false, narrowed := true }
def AesEncryptsUptoSaid : Prop := aesEncryptsUptoRow.holds Try.pinned (OpenSpec.upto aesEncryptsSpec)

/-- 'garderobelaw05.AesBack', WHERE WHAT IT READS IS OF BULK AT MOST 1048576: true; the input reads as it did. -/
def aesBackUptoRow : OpenClaim := { program := "ytimonlkelgpekaa", sum := "ff6c6b65039c3c2124099960caa905bcd0868d2646e7d5dbb081eab6d5c762b8", func := "garderobe/garderobelaw05.AesBack", spec := "aesBack", unfollowed := true, recurses := true, apart := false, narrowed := true }
def AesBackUptoSaid : Prop := aesBackUptoRow.holds Try.pinned (OpenSpec.upto aesBackSpec)

/-- 'garderobelaw05.AesWords', WHERE WHAT IT READS IS OF BULK AT MOST 1048576: true; the input reads as it did. -/
def aesWordsUptoRow : OpenClaim := { program := "ytimonlkelgpekaa", sum := "ff6c6b65039c3c2124099960caa905bcd0868d2646e7d5dbb081eab6d5c762b8", func := "garderobe/garderobelaw05.AesWords", spec := "aesWords", unfollowed := true, recurses := true, apart := false, narrowed := true }
def AesWordsUptoSaid : Prop := aesWordsUptoRow.holds Try.pinned (OpenSpec.upto aesWordsSpec)

/-- 'garderobelaw05.AesNew', WHERE WHAT IT READS IS OF BULK AT MOST 1048576: true; the input reads as it did. -/
def aesNewUptoRow : OpenClaim := { program := "ytimonlkelgpekaa", sum := "ff6c6b65039c3c2124099960caa905bcd0868d2646e7d5dbb081eab6d5c762b8", func := "garderobe/garderobelaw05.AesNew", spec := "aesNew", unfollowed := true, recurses := true, apart := false, narrowed := true }
def AesNewUptoSaid : Prop := aesNewUptoRow.holds Try.pinned (OpenSpec.upto aesNewSpec)

/-- 'garderobelaw05.AesApart', WHERE WHAT IT READS IS OF BULK AT MOST 1048576: true; the input reads as it did. -/
def aesApartUptoRow : OpenClaim := { program := "ytimonlkelgpekaa", sum := "ff6c6b65039c3c2124099960caa905bcd0868d2646e7d5dbb081eab6d5c762b8", func := "garderobe/garderobelaw05.AesApart", spec := "aesApart", unfollowed := true, recurses := true, apart := false, narrowed := true }
def AesApartUptoSaid : Prop := aesApartUptoRow.holds Try.pinned (OpenSpec.upto aesApartSpec)

/-- 'garderobelaw06.CtrApplies', WHERE WHAT IT READS IS OF BULK AT MOST 1048576: true; the input reads as it did. -/
def ctrAppliesUptoRow : OpenClaim := { program := "ytimonlkelgpekaa", sum := "ff6c6b65039c3c2124099960caa905bcd0868d2646e7d5dbb081eab6d5c762b8", func := "garderobe/garderobelaw06.CtrApplies", spec := "ctrApplies", unfollowed := true, recurses := true, apart := false, narrowed := true }
def CtrAppliesUptoSaid : Prop := ctrAppliesUptoRow.holds Try.pinned (OpenSpec.upto ctrAppliesSpec)

/-- 'garderobelaw06.CtrBack', WHERE WHAT IT READS IS OF BULK AT MOST 1048576: true; the input reads as it did. -/
def ctrBackUptoRow : OpenClaim := { program := "ytimonlkelgpekaa", sum := "ff6c6b65039c3c2124099960caa905bcd0868d2646e7d5dbb081eab6d5c762b8", func := "garderobe/garderobelaw06.CtrBack", spec := "ctrBack", unfollowed := true, recurses := true, apart := false, narrowed := true }
def CtrBackUptoSaid : Prop := ctrBackUptoRow.holds Try.pinned (OpenSpec.upto ctrBackSpec)

/-- 'garderobelaw06.CtrMost', WHERE WHAT IT READS IS OF BULK AT MOST 1048576: true; the input reads as it did. -/
def ctrMostUptoRow : OpenClaim := { program := "ytimonlkelgpekaa", sum := "ff6c6b65039c3c2124099960caa905bcd0868d2646e7d5dbb081eab6d5c762b8", func := "garderobe/garderobelaw06.CtrMost", spec := "ctrMost", unfollowed := true, recurses := true, apart := false, narrowed := true }
def CtrMostUptoSaid : Prop := ctrMostUptoRow.holds Try.pinned (OpenSpec.upto ctrMostSpec)

end Rows
end Go.Proofs.Ytimonlkelgpekaa
