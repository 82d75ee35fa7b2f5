/-
  A cipher out of a law's key: of 16 or of 32 bytes. AesBack's walk, AesApart's walk.
-/
import Derived.Test.YthjpaligpojlnaaAesR
import Derived.Test.YthjpaligpojlnaaAesJ
import Derived.Test.YthjpaligpojlnaaCls
import Derived.Test.YthjpaligpojlnaaEq
import Derived.Deep.RegionHeld3
namespace Go.Proofs.Ythjpaligpojlnaa
open Go.RowKit Go
set_option linter.unusedVariables false
set_option linter.unusedSimpArgs false
attribute [local irreducible] Gf.inv Gf.tm Gf.pw Gf.spread Gf.sub Gf.boxAt Gf.bk Gf.rm Gf.bit
/-- New of such a slice answers a cipher of N rounds with the words ks -/
def NewGives (n N : Nat) (ks key : List Nat) : Prop := ∀ (gb b o c : Nat) (w : World), IsBox w gb → BS w w.heap.size (some ⟨b, o, none⟩) n c key →
  Calls Try.prog 19 #[.pointer (some ⟨gb, 0, none⟩), .slice (some ⟨b, o, none⟩) n c] w fun e w' => e = .returned (.tuple #[.pointer (some ⟨w.heap.size, 0, none⟩), .int .i64 0]) ∧ Cip w' w.heap.size N ks ∧ Below w.heap.size w w' ∧ CipR w' w.heap.size N ks
theorem list_of (f : Nat → Value) (n : Nat) : ∃ ca : List Value, ca.toArray = rowV f n ∧ ca.length = n := ⟨(rowV f n).toList, by simp, by simp [rowV_size]⟩
theorem info_list {l : List Value} (h : l.length = 16) : (Try.prog.info? 22).map (·.size) = some l.length := by rw [h]; kernel_rfl
end Go.Proofs.Ythjpaligpojlnaa
