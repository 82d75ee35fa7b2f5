/-
  No cell of these rows narrows 'for every input' (looked for: loops, veiled, ifaces, maps, wideKeys, modest, calm, conditions, laid).
  DERIVED. THE GIVEN ROWS OF THIS SEAT. 12 by the template 'for every input the law returns true; each argument reads behind the call as it read before'; 0 by the template 'total and deterministic' (their statements: YtalbebcmihbnmaaTotals.lean).
  GIVEN WITH THE SEED: the statements are not yours to turn. If you find one false, say at which input.
  Laid BY PROGRAM, IN A SANDBOX (cutbox-rows.mjs): the forced cells as the released guide's own fill.sh prints them over the translation 402c569033515937… (all of the seat's roots in one cut). By AI agents, Wed Nov 11 2026. No macro, syntax, notation, axiom, sorry.
-/
import Derived.Test.YtalbebcmihbnmaaChecked
import GoSem.Claim
import GoSem.ClaimJoined
import GoSem.ClaimMapViews
import Derived.JoinedTies
import Derived.KernelRfl
namespace Go.Proofs.Ytalbebcmihbnmaa
/- THE CELL 'sum', in the pinned program and in every row, IS THE sha256 OF THE DUMP (.gsa) THAT YtalbebcmihbnmaaProg.lean LOADS. Nothing in Lean hashes anything: it is a label: what it is worth is what the hold of that sum in a sandbox is worth. -/
noncomputable def Try.pinned : Pinned := { name := "ytalbebcmihbnmaa", sum := "402c5690335159370e26efd52d5312ffc062f4ae94b84259dd6dbbd041946e23", checked := Try.checked }
namespace Rows
def none {H : Type} : Left H := { results := [], args := [] }

/-- 'garderobelaw01.WordPut': WHATEVER THE INPUT: true; the input reads as it did. -/
def wordPutSpec : ChangeSpec := { name := "wordPut", fn := fun _ => fun
  | [d1, d2] => { results := [.lit (.bool true)], args := [d1, d2] }
  | _ => none }
def wordPutRow : OpenClaim := { program := "ytalbebcmihbnmaa", sum := "402c5690335159370e26efd52d5312ffc062f4ae94b84259dd6dbbd041946e23", func := "garderobe/garderobelaw01.WordPut", spec := "wordPut", unfollowed := true, recurses := true, apart := false }
def WordPutSaid : Prop := wordPutRow.holds Try.pinned (OpenSpec.ofChange wordPutSpec)

/-- ITS FALSE NEIGHBOUR: 'it returns false'. Refute it at one input. -/
def wordPutWrong : ChangeSpec := { name := "wordPut", fn := fun _ => fun
  | [d1, d2] => { results := [.lit (.bool false)], args := [d1, d2] }
  | _ => none }
def WordPutWrongFalsely : Prop := wordPutRow.holds Try.pinned (OpenSpec.ofChange wordPutWrong)

/-- 'garderobelaw01.WordGet': WHATEVER THE INPUT: true; the input reads as it did. -/
def wordGetSpec : ChangeSpec := { name := "wordGet", fn := fun _ => fun
  | [d] => { results := [.lit (.bool true)], args := [d] }
  | _ => none }
def wordGetRow : OpenClaim := { program := "ytalbebcmihbnmaa", sum := "402c5690335159370e26efd52d5312ffc062f4ae94b84259dd6dbbd041946e23", func := "garderobe/garderobelaw01.WordGet", spec := "wordGet", unfollowed := true, recurses := true, apart := false }
def WordGetSaid : Prop := wordGetRow.holds Try.pinned (OpenSpec.ofChange wordGetSpec)

/-- ITS FALSE NEIGHBOUR: 'it returns false'. Refute it at one input. -/
def wordGetWrong : ChangeSpec := { name := "wordGet", fn := fun _ => fun
  | [d] => { results := [.lit (.bool false)], args := [d] }
  | _ => none }
def WordGetWrongFalsely : Prop := wordGetRow.holds Try.pinned (OpenSpec.ofChange wordGetWrong)

/-- 'garderobelaw01.WordBack': WHATEVER THE INPUT: true; the input reads as it did. -/
def wordBackSpec : ChangeSpec := { name := "wordBack", fn := fun _ => fun
  | [d1, d2] => { results := [.lit (.bool true)], args := [d1, d2] }
  | _ => none }
def wordBackRow : OpenClaim := { program := "ytalbebcmihbnmaa", sum := "402c5690335159370e26efd52d5312ffc062f4ae94b84259dd6dbbd041946e23", func := "garderobe/garderobelaw01.WordBack", spec := "wordBack", unfollowed := true, recurses := true, apart := false }
def WordBackSaid : Prop := wordBackRow.holds Try.pinned (OpenSpec.ofChange wordBackSpec)

/-- ITS FALSE NEIGHBOUR: 'it returns false'. Refute it at one input. -/
def wordBackWrong : ChangeSpec := { name := "wordBack", fn := fun _ => fun
  | [d1, d2] => { results := [.lit (.bool false)], args := [d1, d2] }
  | _ => none }
def WordBackWrongFalsely : Prop := wordBackRow.holds Try.pinned (OpenSpec.ofChange wordBackWrong)

/-- 'garderobelaw01.WordXor': WHATEVER THE INPUT: true; the input reads as it did. -/
def wordXorSpec : ChangeSpec := { name := "wordXor", fn := fun _ => fun
  | [d1, d2] => { results := [.lit (.bool true)], args := [d1, d2] }
  | _ => none }
def wordXorRow : OpenClaim := { program := "ytalbebcmihbnmaa", sum := "402c5690335159370e26efd52d5312ffc062f4ae94b84259dd6dbbd041946e23", func := "garderobe/garderobelaw01.WordXor", spec := "wordXor", unfollowed := true, recurses := true, apart := false }
def WordXorSaid : Prop := wordXorRow.holds Try.pinned (OpenSpec.ofChange wordXorSpec)

/-- ITS FALSE NEIGHBOUR: 'it returns false'. Refute it at one input. -/
def wordXorWrong : ChangeSpec := { name := "wordXor", fn := fun _ => fun
  | [d1, d2] => { results := [.lit (.bool false)], args := [d1, d2] }
  | _ => none }
def WordXorWrongFalsely : Prop := wordXorRow.holds Try.pinned (OpenSpec.ofChange wordXorWrong)

/-- 'garderobelaw01.WordSame': WHATEVER THE INPUT: true; the input reads as it did. -/
def wordSameSpec : ChangeSpec := { name := "wordSame", fn := fun _ => fun
  | [d1, d2] => { results := [.lit (.bool true)], args := [d1, d2] }
  | _ => none }
def wordSameRow : OpenClaim := { program := "ytalbebcmihbnmaa", sum := "402c5690335159370e26efd52d5312ffc062f4ae94b84259dd6dbbd041946e23", func := "garderobe/garderobelaw01.WordSame", spec := "wordSame", unfollowed := true, recurses := true, apart := false }
def WordSameSaid : Prop := wordSameRow.holds Try.pinned (OpenSpec.ofChange wordSameSpec)

/-- ITS FALSE NEIGHBOUR: 'it returns false'. Refute it at one input. -/
def wordSameWrong : ChangeSpec := { name := "wordSame", fn := fun _ => fun
  | [d1, d2] => { results := [.lit (.bool false)], args := [d1, d2] }
  | _ => none }
def WordSameWrongFalsely : Prop := wordSameRow.holds Try.pinned (OpenSpec.ofChange wordSameWrong)

/-- 'garderobelaw01.WordPad': WHATEVER THE INPUT: true; the input reads as it did. -/
def wordPadSpec : ChangeSpec := { name := "wordPad", fn := fun _ => fun
  | [d1, d2] => { results := [.lit (.bool true)], args := [d1, d2] }
  | _ => none }
def wordPadRow : OpenClaim := { program := "ytalbebcmihbnmaa", sum := "402c5690335159370e26efd52d5312ffc062f4ae94b84259dd6dbbd041946e23", func := "garderobe/garderobelaw01.WordPad", spec := "wordPad", unfollowed := true, recurses := true, apart := false }
def WordPadSaid : Prop := wordPadRow.holds Try.pinned (OpenSpec.ofChange wordPadSpec)

/-- ITS FALSE NEIGHBOUR: 'it returns false'. Refute it at one input. -/
def wordPadWrong : ChangeSpec := { name := "wordPad", fn := fun _ => fun
  | [d1, d2] => { results := [.lit (.bool false)], args := [d1, d2] }
  | _ => none }
def WordPadWrongFalsely : Prop := wordPadRow.holds Try.pinned (OpenSpec.ofChange wordPadWrong)

/-- 'garderobelaw01.WordRow': WHATEVER THE INPUT: true; the input reads as it did. -/
def wordRowSpec : ChangeSpec := { name := "wordRow", fn := fun _ => fun
  | [d1, d2] => { results := [.lit (.bool true)], args := [d1, d2] }
  | _ => none }
def wordRowRow : OpenClaim := { program := "ytalbebcmihbnmaa", sum := "402c5690335159370e26efd52d5312ffc062f4ae94b84259dd6dbbd041946e23", func := "garderobe/garderobelaw01.WordRow", spec := "wordRow", unfollowed := true, recurses := true, apart := false }
def WordRowSaid : Prop := wordRowRow.holds Try.pinned (OpenSpec.ofChange wordRowSpec)

/-- ITS FALSE NEIGHBOUR: 'it returns false'. Refute it at one input. -/
def wordRowWrong : ChangeSpec := { name := "wordRow", fn := fun _ => fun
  | [d1, d2] => { results := [.lit (.bool false)], args := [d1, d2] }
  | _ => none }
def WordRowWrongFalsely : Prop := wordRowRow.holds Try.pinned (OpenSpec.ofChange wordRowWrong)

/-- 'garderobelaw02.GfMul': WHATEVER THE INPUT: true; the input reads as it did. -/
def gfMulSpec : ChangeSpec := { name := "gfMul", fn := fun _ => fun
  | [d1, d2] => { results := [.lit (.bool true)], args := [d1, d2] }
  | _ => none }
def gfMulRow : OpenClaim := { program := "ytalbebcmihbnmaa", sum := "402c5690335159370e26efd52d5312ffc062f4ae94b84259dd6dbbd041946e23", func := "garderobe/garderobelaw02.GfMul", spec := "gfMul", unfollowed := true, recurses := true, apart := false }
def GfMulSaid : Prop := gfMulRow.holds Try.pinned (OpenSpec.ofChange gfMulSpec)

/-- ITS FALSE NEIGHBOUR: 'it returns false'. Refute it at one input. -/
def gfMulWrong : ChangeSpec := { name := "gfMul", fn := fun _ => fun
  | [d1, d2] => { results := [.lit (.bool false)], args := [d1, d2] }
  | _ => none }
def GfMulWrongFalsely : Prop := gfMulRow.holds Try.pinned (OpenSpec.ofChange gfMulWrong)

/-- 'garderobelaw02.GfField': WHATEVER THE INPUT: true; the input reads as it did. -/
def gfFieldSpec : ChangeSpec := { name := "gfField", fn := fun _ => fun
  | [d1, d2, d3] => { results := [.lit (.bool true)], args := [d1, d2, d3] }
  | _ => none }
def gfFieldRow : OpenClaim := { program := "ytalbebcmihbnmaa", sum := "402c5690335159370e26efd52d5312ffc062f4ae94b84259dd6dbbd041946e23", func := "garderobe/garderobelaw02.GfField", spec := "gfField", unfollowed := true, recurses := true, apart := false }
def GfFieldSaid : Prop := gfFieldRow.holds Try.pinned (OpenSpec.ofChange gfFieldSpec)

/-- ITS FALSE NEIGHBOUR: 'it returns false'. Refute it at one input. -/
def gfFieldWrong : ChangeSpec := { name := "gfField", fn := fun _ => fun
  | [d1, d2, d3] => { results := [.lit (.bool false)], args := [d1, d2, d3] }
  | _ => none }
def GfFieldWrongFalsely : Prop := gfFieldRow.holds Try.pinned (OpenSpec.ofChange gfFieldWrong)

/-- 'garderobelaw02.GfInv': WHATEVER THE INPUT: true; the input reads as it did. -/
def gfInvSpec : ChangeSpec := { name := "gfInv", fn := fun _ => fun
  | [d] => { results := [.lit (.bool true)], args := [d] }
  | _ => none }
def gfInvRow : OpenClaim := { program := "ytalbebcmihbnmaa", sum := "402c5690335159370e26efd52d5312ffc062f4ae94b84259dd6dbbd041946e23", func := "garderobe/garderobelaw02.GfInv", spec := "gfInv", unfollowed := true, recurses := true, apart := false }
def GfInvSaid : Prop := gfInvRow.holds Try.pinned (OpenSpec.ofChange gfInvSpec)

/-- ITS FALSE NEIGHBOUR: 'it returns false'. Refute it at one input. -/
def gfInvWrong : ChangeSpec := { name := "gfInv", fn := fun _ => fun
  | [d] => { results := [.lit (.bool false)], args := [d] }
  | _ => none }
def GfInvWrongFalsely : Prop := gfInvRow.holds Try.pinned (OpenSpec.ofChange gfInvWrong)

/-- 'garderobelaw02.GfPower': WHATEVER THE INPUT: true; the input reads as it did. -/
def gfPowerSpec : ChangeSpec := { name := "gfPower", fn := fun _ => fun
  | [d1, d2] => { results := [.lit (.bool true)], args := [d1, d2] }
  | _ => none }
def gfPowerRow : OpenClaim := { program := "ytalbebcmihbnmaa", sum := "402c5690335159370e26efd52d5312ffc062f4ae94b84259dd6dbbd041946e23", func := "garderobe/garderobelaw02.GfPower", spec := "gfPower", unfollowed := true, recurses := true, apart := false }
def GfPowerSaid : Prop := gfPowerRow.holds Try.pinned (OpenSpec.ofChange gfPowerSpec)

/-- ITS FALSE NEIGHBOUR: 'it returns false'. Refute it at one input. -/
def gfPowerWrong : ChangeSpec := { name := "gfPower", fn := fun _ => fun
  | [d1, d2] => { results := [.lit (.bool false)], args := [d1, d2] }
  | _ => none }
def GfPowerWrongFalsely : Prop := gfPowerRow.holds Try.pinned (OpenSpec.ofChange gfPowerWrong)

/-- 'garderobelaw02.GfBox': WHATEVER THE INPUT: true; the input reads as it did. -/
def gfBoxSpec : ChangeSpec := { name := "gfBox", fn := fun _ => fun
  | [d] => { results := [.lit (.bool true)], args := [d] }
  | _ => none }
def gfBoxRow : OpenClaim := { program := "ytalbebcmihbnmaa", sum := "402c5690335159370e26efd52d5312ffc062f4ae94b84259dd6dbbd041946e23", func := "garderobe/garderobelaw02.GfBox", spec := "gfBox", unfollowed := true, recurses := true, apart := false }
def GfBoxSaid : Prop := gfBoxRow.holds Try.pinned (OpenSpec.ofChange gfBoxSpec)

/-- ITS FALSE NEIGHBOUR: 'it returns false'. Refute it at one input. -/
def gfBoxWrong : ChangeSpec := { name := "gfBox", fn := fun _ => fun
  | [d] => { results := [.lit (.bool false)], args := [d] }
  | _ => none }
def GfBoxWrongFalsely : Prop := gfBoxRow.holds Try.pinned (OpenSpec.ofChange gfBoxWrong)

/- THE SECOND FORM. 'bulk': how many values and letters a reading holds, each counted each time it is reached (what is shared counts as often as it is met; a slice's spare places count too). A statement '..UptoSaid' is the law's where the arguments, and the package variables that the reading takes, are together of bulk at most 1048576: NARROWER than '..Said'. Prove '..Said' where nothing that the law and all that it calls make is longer than what came in: it says more and counts as full. Else prove '..UptoSaid'. A law counts once. -/
mutual
def uptoBulk {H : Type} : DataW H → Nat
  | .lit (.string bytes) => bytes.length + 1
  | .lit _ => 1
  | .nil => 1
  | .ptr d => uptoBulk d + 1
  | .slice elems spare => uptoBulkAll elems + uptoBulkAll spare + 1
  | .agg parts => uptoBulkAll parts + 1
  | .iface _ d => uptoBulk d + 1
  | .map entries => uptoBulkEntries entries + 1
  | .held _ => 1
def uptoBulkAll {H : Type} : List (DataW H) → Nat
  | [] => 0
  | d :: r => uptoBulk d + uptoBulkAll r
def uptoBulkEntries {H : Type} : List (Lit × DataW H) → Nat
  | [] => 0
  | x :: r => uptoBulkEntry x + uptoBulkEntries r
def uptoBulkEntry {H : Type} : Lit × DataW H → Nat
  | (.string bytes, d) => bytes.length + uptoBulk d + 1
  | (_, d) => uptoBulk d + 1
 end
def uptoSmall : (H : Type) → List (DataW H) → Bool := fun _ ds => decide (uptoBulkAll ds ≤ 1048576)
def OpenSpec.upto (s : _root_.Go.ChangeSpec) : _root_.Go.OpenSpec := { _root_.Go.OpenSpec.ofChange s with cond := some uptoSmall }

/-- 'garderobelaw01.WordPut', WHERE WHAT IT READS IS OF BULK AT MOST 1048576: true; the input reads as it did. -/
def wordPutUptoRow : OpenClaim := { program := "ytalbebcmihbnmaa", sum := "402c5690335159370e26efd52d5312ffc062f4ae94b84259dd6dbbd041946e23", func := "garderobe/garderobelaw01.WordPut", spec := "wordPut", unfollowed := true, recurses := true, apart := false, narrowed := true }
def WordPutUptoSaid : Prop := wordPutUptoRow.holds Try.pinned (OpenSpec.upto wordPutSpec)

/-- 'garderobelaw01.WordGet', WHERE WHAT IT READS IS OF BULK AT MOST 1048576: true; the input reads as it did. -/
def wordGetUptoRow : OpenClaim := { program := "ytalbebcmihbnmaa", sum := "402c5690335159370e26efd52d5312ffc062f4ae94b84259dd6dbbd041946e23", func := "garderobe/garderobelaw01.WordGet", spec := "wordGet", unfollowed := true, recurses := true, apart := false, narrowed := true }
def WordGetUptoSaid : Prop := wordGetUptoRow.holds Try.pinned (OpenSpec.upto wordGetSpec)

/-- 'garderobelaw01.WordBack', WHERE WHAT IT READS IS OF BULK AT MOST 1048576: true; the input reads as it did. -/
def wordBackUptoRow : OpenClaim := { program := "ytalbebcmihbnmaa", sum := "402c5690335159370e26efd52d5312ffc062f4ae94b84259dd6dbbd041946e23", func := "garderobe/garderobelaw01.WordBack", spec := "wordBack", unfollowed := true, recurses := true, apart := false, narrowed := true }
def WordBackUptoSaid : Prop := wordBackUptoRow.holds Try.pinned (OpenSpec.upto wordBackSpec)

/-- 'garderobelaw01.WordXor', WHERE WHAT IT READS IS OF BULK AT MOST 1048576: true; the input reads as it did. -/
def wordXorUptoRow : OpenClaim := { program := "ytalbebcmihbnmaa", sum := "402c5690335159370e26efd52d5312ffc062f4ae94b84259dd6dbbd041946e23", func := "garderobe/garderobelaw01.WordXor", spec := "wordXor", unfollowed := true, recurses := true, apart := false, narrowed := true }
def WordXorUptoSaid : Prop := wordXorUptoRow.holds Try.pinned (OpenSpec.upto wordXorSpec)

/-- 'garderobelaw01.WordSame', WHERE WHAT IT READS IS OF BULK AT MOST 1048576: true; the input reads as it did. -/
def wordSameUptoRow : OpenClaim := { program := "ytalbebcmihbnmaa", sum := "402c5690335159370e26efd52d5312ffc062f4ae94b84259dd6dbbd041946e23", func := "garderobe/garderobelaw01.WordSame", spec := "wordSame", unfollowed := true, recurses := true, apart := false, narrowed := true }
def WordSameUptoSaid : Prop := wordSameUptoRow.holds Try.pinned (OpenSpec.upto wordSameSpec)

/-- 'garderobelaw01.WordPad', WHERE WHAT IT READS IS OF BULK AT MOST 1048576: true; the input reads as it did. -/
def wordPadUptoRow : OpenClaim := { program := "ytalbebcmihbnmaa", sum := "402c5690335159370e26efd52d5312ffc062f4ae94b84259dd6dbbd041946e23", func := "garderobe/garderobelaw01.WordPad", spec := "wordPad", unfollowed := true, recurses := true, apart := false, narrowed := true }
def WordPadUptoSaid : Prop := wordPadUptoRow.holds Try.pinned (OpenSpec.upto wordPadSpec)

/-- 'garderobelaw01.WordRow', WHERE WHAT IT READS IS OF BULK AT MOST 1048576: true; the input reads as it did. -/
def wordRowUptoRow : OpenClaim := { program := "ytalbebcmihbnmaa", sum := "402c5690335159370e26efd52d5312ffc062f4ae94b84259dd6dbbd041946e23", func := "garderobe/garderobelaw01.WordRow", spec := "wordRow", unfollowed := true, recurses := true, apart := false, narrowed := true }
def WordRowUptoSaid : Prop := wordRowUptoRow.holds Try.pinned (OpenSpec.upto wordRowSpec)

/-- 'garderobelaw02.GfMul', WHERE WHAT IT READS IS OF BULK AT MOST 1048576: true; the input reads as it did. -/
def gfMulUptoRow : OpenClaim := { program := "ytalbebcmihbnmaa", sum := "402c5690335159370e26efd52d5312ffc062f4ae94b84259dd6dbbd041946e23", func := "garderobe/garderobelaw02.GfMul", spec := "gfMul", unfollowed := true, recurses := true, apart := false, narrowed := true }
def GfMulUptoSaid : Prop := gfMulUptoRow.holds Try.pinned (OpenSpec.upto gfMulSpec)

/-- 'garderobelaw02.GfField', WHERE WHAT IT READS IS OF BULK AT MOST 1048576: true; the input reads as it did. -/
def gfFieldUptoRow : OpenClaim := { program := "ytalbebcmihbnmaa", sum := "402c5690335159370e26efd52d5312ffc062f4ae94b84259dd6dbbd041946e23", func := "garderobe/garderobelaw02.GfField", spec := "gfField", unfollowed := true, recurses := true, apart := false, narrowed := true }
def GfFieldUptoSaid : Prop := gfFieldUptoRow.holds Try.pinned (OpenSpec.upto gfFieldSpec)

/-- 'garderobelaw02.GfInv', WHERE WHAT IT READS IS OF BULK AT MOST 1048576: true; the input reads as it did. -/
def gfInvUptoRow : OpenClaim := { program := "ytalbebcmihbnmaa", sum := "402c5690335159370e26efd52d5312ffc062f4ae94b84259dd6dbbd041946e23", func := "garderobe/garderobelaw02.GfInv", spec := "gfInv", unfollowed := true, recurses := true, apart := false, narrowed := true }
def GfInvUptoSaid : Prop := gfInvUptoRow.holds Try.pinned (OpenSpec.upto gfInvSpec)

/-- 'garderobelaw02.GfPower', WHERE WHAT IT READS IS OF BULK AT MOST 1048576: true; the input reads as it did. -/
def gfPowerUptoRow : OpenClaim := { program := "ytalbebcmihbnmaa", sum := "402c5690335159370e26efd52d5312ffc062f4ae94b84259dd6dbbd041946e23", func := "garderobe/garderobelaw02.GfPower", spec := "gfPower", unfollowed := true, recurses := true, apart := false, narrowed := true }
def GfPowerUptoSaid : Prop := gfPowerUptoRow.holds Try.pinned (OpenSpec.upto gfPowerSpec)

/-- 'garderobelaw02.GfBox', WHERE WHAT IT READS IS OF BULK AT MOST 1048576: true; the input reads as it did. -/
def gfBoxUptoRow : OpenClaim := { program := "ytalbebcmihbnmaa", sum := "402c5690335159370e26efd52d5312ffc062f4ae94b84259dd6dbbd041946e23", func := "garderobe/garderobelaw02.GfBox", spec := "gfBox", unfollowed := true, recurses := true, apart := false, narrowed := true }
def GfBoxUptoSaid : Prop := gfBoxUptoRow.holds Try.pinned (OpenSpec.upto gfBoxSpec)

end Rows
end Go.Proofs.Ytalbebcmihbnmaa
