/-
  Bytes that are put into the words of a device.
-/
import Derived.Test.YthigknolpdohoaaNvX
import Derived.Test.YthigknolpdohoaaNvF
namespace Go.Proofs.Ythigknolpdohoaa
open Go.RowKit Go
set_option linter.unusedVariables false
set_option linter.unusedSimpArgs false
set_option maxRecDepth 100000
set_option maxHeartbeats 1000000 in
/-- the word that the byte k lies in -/
theorem word_at (g b L c k : Nat) (w : World) (hc : w.cell? ⟨g, 0, none⟩ = some (.slice (some ⟨b, 0, none⟩) L c)) (hk : k < 64 * L) (hL : L ≤ 1024) :
    Calls Try.prog 52 #[.pointer (some ⟨g, 0, none⟩), .int .i64 (k : Int)] w fun e w' => e = .returned (.pointer (some ⟨b, k / 64 * 144 + k % 64 / 8 * 18, none⟩)) ∧ w' = w := by
  obtain ⟨a, ha⟩ : ∃ a, a = k / 64 := ⟨_, rfl⟩
  obtain ⟨r, hr⟩ : ∃ r, r = k % 64 := ⟨_, rfl⟩
  obtain ⟨d, hd⟩ : ∃ d, d = r / 8 := ⟨_, rfl⟩
  rw [← ha, ← hr, ← hd]
  have e1 : (k : Int) / 64 = (a : Int) := by omega
  have e2 : (k : Int) % 64 = (r : Int) := by omega
  have e3 : (r : Int) / 8 = (d : Int) := by omega
  have b1 : a < L := by omega
  have b2 : d < 8 := by omega
  have b3 : k ≤ 65536 := by omega
  have b4 : r < 64 := by omega
  clear ha hr hd hk
  go_enter Try.func52, Try.ntmps52
  go_wp2
  go_ret
  exact ⟨rfl, rfl⟩
/-- what an act on one word does with the bytes from k on: told by a condition on the world that grows byte by byte -/
def TurnsP (f : FuncId) (b at_ n c : Nat) (A : Option Addr) (I : Nat → World → Prop) : Prop :=
  ∀ (k : Nat) (W : World), k < n → I k W → Calls Try.prog f #[.pointer (some ⟨b, (at_ + k) / 64 * 144 + (at_ + k) % 64 / 8 * 18, none⟩), .int .i64 (((at_ + k) % 8 : Nat) : Int), .slice (cutA A c k) (n - k) (c - k)] W fun e w' => e = .returned (.int .i64 ((min (n - k) (8 - (at_ + k) % 8) : Nat) : Int)) ∧ I (k + min (n - k) (8 - (at_ + k) % 8)) w'
def PuR (at_ n c : Nat) (A : Option Addr) (I : Nat → World → Prop) (v1 v2 : Value) (W : World) : Prop := ∃ (k p m z : Nat) (X : Option Addr), v1 = .int .i64 (p : Int) ∧ v2 = .slice X m z ∧ k ≤ n ∧ p = at_ + k ∧ m = n - k ∧ z = c - k ∧ (k < n → X = cutA A c k) ∧ I k W
theorem cut_bytesY (A : Option Addr) (n c k : Nat) (hk : k ≤ n) (w : World) : (Instr.slice 28 (.slice A n c) (some (.int .i64 (k : Int))) none none).run Try.prog w = .ok (.slice (cutA A c k) (n - k) (c - k)) w :=
  run_cut _ _ Try.underlying28 size_u8 A n c k hk w
theorem cutA_cut (A : Option Addr) (c k j : Nat) (hk : k + j < c) (h0 : 0 < j) : cutA (cutA A c k) (c - k) j = cutA A c (k + j) := by
  unfold cutA
  rw [if_neg (show ¬ c - k = j by omega), if_neg (show ¬ c = k by omega), if_neg (show ¬ c = k + j by omega)]
  cases A with
  | none => rfl
  | some a => simp only [Option.map_some, Addr.add_add]
set_option maxHeartbeats 1000000 in
theorem put8_any (g b L c at_ n c9 : Nat) (A : Option Addr) (f : FuncId) (I : Nat → World → Prop) (w : World) (hf : EntersF f) (hn : at_ + n ≤ 64 * L) (hL : L ≤ 1024) (hcap : n ≤ c9)
    (hI : ∀ m W, I m W → W.cell? ⟨g, 0, none⟩ = some (.slice (some ⟨b, 0, none⟩) L c)) (hD : ∀ m W, I m W → I m W.drew) (hc : TurnsP f b at_ n c9 A I) (h0 : I 0 w) :
    Calls Try.prog 39 #[.pointer (some ⟨g, 0, none⟩), .int .i64 (at_ : Int), .slice A n c9, .func (Fn.func f) #[] #[]] w fun e w' => e = .returned (.tuple #[]) ∧ I n w' := by
  have HI := Lib.hid hI
  have HC := Lib.hid hc
  have H0 := Lib.hid h0
  have HN := Lib.hid hn
  have HD := Lib.hid hD
  unfold EntersF at hf
  clear hI hc h0 hn hD
  go_enter Try.func39, Try.ntmps39
  go_wp2_with fail
  have HST : Hid (PuR at_ n c9 A I (.int .i64 (at_ : Int)) (.slice A n c9) w) := Lib.hid ⟨0, at_, n, c9, A, rfl, rfl, by omega, rfl, rfl, rfl, fun h => by unfold cutA; rw [if_neg (by omega)]; cases A <;> rfl, H0.out⟩
  go_loopw [1, 2] (fun v1 v2 W => PuR at_ n c9 A I v1 v2 W) (fun _ v _ => lenV v)
  case atStart => exact HST.out
  case round =>
    obtain ⟨k, p, m, z, X, rfl, rfl, hk, hp, hm, hz, hX, hi⟩ := hrel
    by_cases hm0 : 0 < m
    · have hm0i : (0 : Int) < (m : Int) := by omega
      have HW := Lib.hid (word_at g b L c p wr (HI.out _ _ hi) (by have := HN.out; omega) hL)
      have HP := Lib.hid (HC.out k wr (by omega) hi)
      have hX := hX (by omega)
      rw [← hp, ← hm, ← hz, ← hX] at HP
      obtain ⟨a, ha⟩ : ∃ a, a = p % 8 := ⟨_, rfl⟩
      obtain ⟨j, hj⟩ : ∃ j, j = min m (8 - p % 8) := ⟨_, rfl⟩
      rw [← hj, ← ha] at HP
      have e1 : (p : Int) % 8 = (a : Int) := by omega
      have hjm : j ≤ m := by omega
      have hj0 : 0 < j := by omega
      have hsl := cut_bytesY X m z j hjm
      have b1 : p ≤ 65536 := by have := HN.out; omega
      have b2 : m ≤ 65536 := by have := HN.out; omega
      have HX := Lib.hid hX
      have HZ := Lib.hid (show k + j < n → cutA X z j = cutA A c9 (k + j) from fun h => by rw [hX, hz]; exact cutA_cut A c9 k j (by omega) hj0)
      have HR := Lib.hid (show p + j = at_ + (k + j) ∧ m - j = n - (k + j) ∧ z - j = c9 - (k + j) ∧ k + j ≤ n by omega)
      have HK := Lib.hid hk
      clear hi HST hX ha hj hp hm hz hk
      go_wp2_with fail
      refine HW.out.mono ?_
      rintro e w1 ⟨rfl, rfl⟩
      go_wp2_with fail
      refine HP.out.mono ?_
      rintro e w2 ⟨rfl, hi2⟩
      have HI2 := Lib.hid hi2
      clear hi2
      go_wp2_with fail
      go_region
      go_roundw
      case rel => exact ⟨_, _, _, _, _, _, _, _, _, _, _, _, _, _, _, _, _, _, _, _, ⟨k + j, p + j, m - j, z - j, cutA X z j, by go_num, rfl, HR.out.2.2.2, HR.out.1, HR.out.2.1, HR.out.2.2.1, HZ.out, HD.out _ _ HI2.out⟩, rfl⟩
      case measure => simp [lenV]; omega
    · have hkn : k = n := by omega
      have HIE : Hid (I n wr) := Lib.hid (by rw [← hkn]; exact hi)
      have hm0i : ¬ (0 : Int) < (m : Int) := by omega
      clear hi HST hX hp hm hz hk hkn
      go_wp2_with fail
      go_end0
      exact ⟨rfl, HIE.out⟩
end Go.Proofs.Ythigknolpdohoaa
