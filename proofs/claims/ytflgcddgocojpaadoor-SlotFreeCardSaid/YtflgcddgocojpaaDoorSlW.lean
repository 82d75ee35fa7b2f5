/-
  Layer 18: With, as step calls it.
-/
import Derived.Test.YtflgcddgocojpaaDoorSlU
import Derived.Deep.RegionWith
import Derived.Deep.Cut
namespace Go.Proofs.YtflgcddgocojpaaDoor
open Go.RowKit Go
set_option linter.unusedVariables false
set_option linter.unusedSimpArgs false

def WiTo (w : World) (S : Nat) (l : List Ob) (e : Ending) (w' : World) : Prop := ∃ g cap, e = .returned (.slice (some ⟨g, 0, none⟩) S cap) ∧ ObV w' (some ⟨g, 0, none⟩) S l ∧ Below w.heap.size w w'
theorem with_o (A A1 : Option Addr) (S c k s n1 c1 : Nat) (l : List Ob) (d : List Nat) (w : World) (hl : l.length = S) (hv : ObV w A S l) (hn : S < 1000) (hk : k < S) (hs : BS w w.heap.size A1 n1 c1 d) (hz : A1 = none → c1 = 0) :
    Calls Tryd.prog 24 #[.slice A S c, .int .i64 (k : Int), .agg #[.int .u64 (s : Int), .slice A1 n1 c1]] w (WiTo w S (l.set k (s, d))) := by
  refine (with_any A A1 S c k s n1 c1 l d w hv hn hk hs hz).mono ?_
  rintro e w' ⟨g, cap, h1, h2, h3, h4, h5⟩
  rw [List.length_set, hl] at h1 h2
  exact ⟨g, cap, h1, h2, h5⟩
end Go.Proofs.YtflgcddgocojpaaDoor
