/-
  Decrypt's walk.
-/
import Derived.Test.YthjpaligpojlnaaAesI
namespace Go.Proofs.Ythjpaligpojlnaa
open Go.RowKit Go
set_option linter.unusedVariables false
attribute [local irreducible] Gf.inv Gf.tm Gf.pw Gf.spread Gf.sub Gf.boxAt Gf.bk Gf.rm Gf.bit
attribute [local irreducible] Aes.decR Aes.dec
theorem decR_zero (bk : Nat → Nat) (ks s : List Nat) (N : Nat) : Aes.decR bk ks N s 0 = Aes.sub bk (Aes.shift 3 (Aes.add s (Aes.rk ks N))) := by unfold Aes.decR; rfl
theorem decR_succ (bk : Nat → Nat) (ks s : List Nat) (N j : Nat) : Aes.decR bk ks N s (j + 1) = Aes.sub bk (Aes.shift 3 (Aes.mix facU (Aes.add (Aes.decR bk ks N s j) (Aes.rk ks (N - 1 - j))))) := by rw [Aes.decR]
theorem dec_is (bk : Nat → Nat) (ks s : List Nat) (N : Nat) : Aes.dec bk ks N s = Aes.add (Aes.decR bk ks N s (N - 1)) (Aes.rk ks 0) := by unfold Aes.dec; rfl
theorem tBk_congr {F G : Nat → Nat} (h : ∀ i, i < 16 → F i = G i) {i : Nat} (hi : i < 16) : tBk F i = tBk G i := by unfold tBk; rw [h i hi]
theorem unround_is (s : List Nat) (K : Nat → Nat) {i : Nat} (hi : i < 16) :
    (Aes.sub Gf.bk (Aes.shift 3 (Aes.mix facU (Aes.add s K)))).getD i 0 = tBk (shF 3 (tMix facU (tAdd K fun j => s.getD j 0))) i := by
  rw [bk_is hi]
  exact tBk_congr (fun j hj => (shift_is hj).trans (shF_congr (fun m hm => (mix_is hm).trans (tMix_congr (fun q hq => add_is hq) hm)) hj)) hi
theorem unfirst_is (s : List Nat) (K : Nat → Nat) {i : Nat} (hi : i < 16) :
    (Aes.sub Gf.bk (Aes.shift 3 (Aes.add s K))).getD i 0 = tBk (shF 3 (tAdd K fun j => s.getD j 0)) i := by
  rw [bk_is hi]
  exact tBk_congr (fun j hj => (shift_is hj).trans (shF_congr (fun q hq => add_is hq) hj)) hi
def T4' (K : Nat → Nat) (i : Nat) : (Nat → Nat) → Nat → Nat := match i with | 0 => tAdd K | 1 => tMix facU | 2 => shF 3 | _ => tBk
def T3' (K : Nat → Nat) (i : Nat) : (Nat → Nat) → Nat → Nat := match i with | 0 => tAdd K | 1 => shF 3 | _ => tBk
def DecRel (w : World) (gs N : Nat) (ks p : List Nat) (v : Value) (wr : World) : Prop :=
  ∃ j : Nat, v = .int .i64 ((N - 1 - j : Nat) : Int) ∧ j ≤ N - 1 ∧ EncS w gs (fun i => (Aes.decR Gf.bk ks N p j).getD i 0) wr
end Go.Proofs.Ythjpaligpojlnaa
