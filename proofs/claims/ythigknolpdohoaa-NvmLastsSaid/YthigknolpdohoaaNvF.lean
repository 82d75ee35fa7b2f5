/-
  A device: each of the words of some lines is turned; all words.
-/
import Derived.Test.YthigknolpdohoaaNvC
namespace Go.Proofs.Ythigknolpdohoaa
open Go.RowKit Go
set_option linter.unusedVariables false
set_option linter.unusedSimpArgs false
def EntersF (f : FuncId) : Prop := ∀ (args : Array Value) (w : World), (callFunc f args).run Try.prog w = .ok (.enter f args) w
/-- what a turn of a word does: told by a condition on the world that grows word by word -/
def TurnsW (f : FuncId) (caps : List Value) (b lo z : Nat) (I : Nat → World → Prop) : Prop :=
  ∀ (l k : Nat) (W : World), lo ≤ l → l ≤ z → k < 8 → I (8 * l + k) W → Calls Try.prog f (.pointer (some ⟨b, l * 144 + k * 18, none⟩) :: caps).toArray W fun e w' => e = .returned (.tuple #[]) ∧ I (8 * l + k + 1) w'
def EaR (lo z : Nat) (I : Nat → World → Prop) (v : Value) (W : World) : Prop := ∃ l : Nat, v = .int .i64 (l : Int) ∧ lo ≤ l ∧ l ≤ z + 1 ∧ I (8 * l) W
def EbR (l : Nat) (I : Nat → World → Prop) (v : Value) (W : World) : Prop := ∃ k : Nat, v = .int .i64 (k : Int) ∧ k ≤ 8 ∧ I (8 * l + k) W
set_option maxHeartbeats 1000000 in
set_option maxRecDepth 100000 in
theorem each8_any (g b L c at_ n lo z : Nat) (f : FuncId) (caps : List Value) (I : Nat → World → Prop) (w : World) (hf : EntersF f) (hn : 0 < n) (hlo : lo = at_ / 64) (hz : z = (at_ + n - 1) / 64) (hL : at_ + n ≤ 64 * L) (hL2 : L ≤ 1024)
    (hI : ∀ m W, I m W → W.cell? ⟨g, 0, none⟩ = some (.slice (some ⟨b, 0, none⟩) L c)) (hc : TurnsW f caps b lo z I) (h0 : I (8 * lo) w) :
    Calls Try.prog 42 #[.pointer (some ⟨g, 0, none⟩), .int .i64 (at_ : Int), .int .i64 (n : Int), .func (Fn.func f) #[] caps.toArray] w fun e w' => e = .returned (.tuple #[]) ∧ I (8 * (z + 1)) w' := by
  have HI := Lib.hid hI
  have HC := Lib.hid hc
  have e1 : (at_ : Int) / 64 = (lo : Int) := by omega
  have HE2 : Hid (((at_ : Int) + (n : Int) - 1) / 64 = (z : Int)) := Lib.hid (by omega)
  have HST : Hid (EaR lo z I (.int .i64 ((at_ : Int) / 64)) w) := Lib.hid ⟨lo, by rw [e1], Nat.le_refl _, by omega, h0⟩
  have hne : ((n : Int) == 0) = false := by rw [beq_eq_false_iff_ne]; omega
  have b1 : at_ ≤ 65536 := by omega
  have b2 : n ≤ 65536 := by omega
  have b3 : z < L := by omega
  have b4 : lo ≤ z := by omega
  unfold EntersF at hf
  clear hI hc h0 hlo hz hL e1
  go_enter Try.func42, Try.ntmps42
  go_wp2_with fail
  go_loopw [8] (fun v W => EaR lo z I v W) (fun v _ => z + 1 - (intOf v).toNat)
  case atStart => exact HST.out
  case round =>
    obtain ⟨l, rfl, hl1, hl2, hi⟩ := hrel
    have hlm : l ≤ 1024 := by omega
    clear HST
    have HH := Lib.hid hi
    go_wp2_with fail
    · rename_i hle K0 hK0
      have hlt : l ≤ z := by have := HE2.out; omega
      have hlL : l < L := by omega
      have HST2 : Hid (EbR l I (.int .i64 0) wr) := Lib.hid ⟨0, rfl, by omega, hi⟩
      clear hi HH
      generalize hY : decide ((l : Int) ≤ ((at_ : Int) + (n : Int) - 1) / 64) = Y
      clear hY hle
      go_loopw [23] (fun v W => EbR l I v W) (fun v _ => 8 - (intOf v).toNat)
      case atStart => exact HST2.out
      case round =>
        obtain ⟨k, rfl, hk, hi⟩ := hrel
        by_cases hk8 : k < 8
        · have c0 := HI.out _ _ hi
          have HCC := Lib.hid (HC.out l k wr hl1 hlt hk8 hi)
          have hk8i : (k : Int) < 8 := by omega
          clear hi HST2
          go_wp2_with fail
          refine HCC.out.mono ?_
          rintro e w1 ⟨rfl, hi1⟩
          have HI1 := Lib.hid hi1
          clear hi1
          go_wp2_with fail
          go_roundw
          case rel => exact ⟨k + 1, by go_num, by omega, HI1.out⟩
          case measure => simp [intOf]; omega
        · have hk8e : k = 8 := by omega
          have HI8 : Hid (I (8 * (l + 1)) wr) := Lib.hid (by rw [hk8e] at hi; exact hi)
          have hk8i : (8 : Int) ≤ (k : Int) := by omega
          clear hi hk8e HST2
          go_wp2_with fail
          go_roundw
          case rel => exact ⟨l + 1, by go_num, by omega, by omega, HI8.out⟩
          case measure => simp [intOf]; omega
    · rename_i hle
      have hlz : l = z + 1 := by have := HE2.out; omega
      have HIE : Hid (I (8 * (z + 1)) wr) := Lib.hid (by rw [hlz] at hi; exact hi)
      go_end0
      exact ⟨rfl, HIE.out⟩
end Go.Proofs.Ythigknolpdohoaa
