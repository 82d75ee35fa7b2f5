/-
  A cipher out of a law's key: of 16 or of 32 bytes. AesBack's walk, AesApart's walk.
-/
import Derived.Test.YtplapepgedagoaaAesR
import Derived.Test.YtplapepgedagoaaAesJ
import Derived.Test.YtplapepgedagoaaCls
import Derived.Test.YtplapepgedagoaaEq
import Derived.Deep.RegionHeld3
namespace Go.Proofs.Ytplapepgedagoaa
open Go.RowKit Go
set_option linter.unusedVariables false
set_option linter.unusedSimpArgs false
attribute [local irreducible] Gf.inv Gf.tm Gf.pw Gf.spread Gf.sub Gf.boxAt Gf.bk Gf.rm Gf.bit
/-- Key answers a slice of n bytes that reads as key -/
def KeyGives (la lb : List Nat) (lg : Bool) (n : Nat) (key : List Nat) : Prop := ∀ w : World, Calls Try.prog 11 #[.agg (rowV (bF la) 16), .agg (rowV (bF lb) 16), .bool lg] w fun e w' =>
  ∃ b o c, e = .returned (.slice (some ⟨b, o, none⟩) n c) ∧ Below w.heap.size w w' ∧ BS w' w'.heap.size (some ⟨b, o, none⟩) n c key
/-- New of such a slice answers a cipher of N rounds with the words ks -/
def NewGives (n N : Nat) (ks key : List Nat) : Prop := ∀ (gb b o c : Nat) (w : World), IsBox w gb → BS w w.heap.size (some ⟨b, o, none⟩) n c key →
  Calls Try.prog 12 #[.pointer (some ⟨gb, 0, none⟩), .slice (some ⟨b, o, none⟩) n c] w fun e w' => e = .returned (.tuple #[.pointer (some ⟨w.heap.size, 0, none⟩), .int .i64 0]) ∧ Cip w' w.heap.size N ks ∧ Below w.heap.size w w' ∧ CipR w' w.heap.size N ks
theorem made (la lb : List Nat) (ha : la.length = 16) (hb : lb.length = 16) (ha2 : ∀ i, la.getD i 0 < 256) (hb2 : ∀ i, lb.getD i 0 < 256) (lg : Bool) :
    ∃ n N ks key, KeyGives la lb lg n key ∧ NewGives n N ks key ∧ (∀ j, ks.getD j 0 < 256) ∧ (1 ≤ N ∧ N ≤ 14) ∧ key = (if lg then la ++ lb else la) ∧ n = key.length ∧ ((n = 16 ∧ N = 10) ∨ (n = 32 ∧ N = 14)) ∧ ks = Aes.sch Gf.sub key (n / 4) (4 * (N + 1)) ∧ (∀ i, key.getD i 0 < 256) := by
  have hk := fun w => key_any la lb ha hb ha2 hb2 lg w
  cases lg
  · have hby : ∀ j, (Aes.sch Gf.sub la 4 44).getD j 0 < 256 := fun j => Aes.sch_byte (fun c h => Gf.sub_lt h) ha2 _ _
    refine ⟨16, 10, _, la, ?_, ?_, hby, by omega, rfl, ha.symm, .inl ⟨rfl, rfl⟩, rfl, ha2⟩
    · intro w
      have := hk w
      rw [if_neg (by decide), ha] at this
      exact this
    · intro gb b o c w h1 h2
      exact (new_16 gb b o c la w h1 h2).mono fun e w' ⟨he, hc, hb⟩ => ⟨he, hc.cip hby (by omega), hb, hc⟩
  · have h32 : ∀ i, (la ++ lb).getD i 0 < 256 := getD_append_byte ha2 hb2
    have hl : (la ++ lb).length = 32 := by rw [List.length_append]; omega
    have hby : ∀ j, (Aes.sch Gf.sub (la ++ lb) 8 60).getD j 0 < 256 := fun j => Aes.sch_byte (fun c h => Gf.sub_lt h) h32 _ _
    refine ⟨32, 14, _, la ++ lb, ?_, ?_, hby, by omega, rfl, hl.symm, .inr ⟨rfl, rfl⟩, rfl, h32⟩
    · intro w
      have := hk w
      rw [if_pos rfl, hl] at this
      exact this
    · intro gb b o c w h1 h2
      exact (new_32 gb b o c (la ++ lb) w h1 h2).mono fun e w' ⟨he, hc, hb⟩ => ⟨he, hc.cip hby (by omega), hb, hc⟩
theorem list_of (f : Nat → Value) (n : Nat) : ∃ ca : List Value, ca.toArray = rowV f n ∧ ca.length = n := ⟨(rowV f n).toList, by simp, by simp [rowV_size]⟩
theorem info_list {l : List Value} (h : l.length = 16) : (Try.prog.info? 22).map (·.size) = some l.length := by rw [h]; kernel_rfl
end Go.Proofs.Ytplapepgedagoaa
