/-
  Layer 18: Take.
-/
import Derived.Test.YtflgcddgocojpaaDoorSlG
namespace Go.Proofs.YtflgcddgocojpaaDoor
open Go.RowKit Go
set_option linter.unusedVariables false
set_option linter.unusedSimpArgs false
set_option maxHeartbeats 1000000

def freeB (z : Nat) (t : List Nat) (i : Nat) : Bool := zr ((winL t z i).take 8)
/-- may an object of n bytes and this serial be? -/
def fitB (z s : Nat) (n : Int) : Bool := servesB s && holdsB z n
def TakenTo (w : World) (z S : Nat) (t : List Nat) (s : Nat) (n : Int) (e : Ending) (w' : World) : Prop :=
  (mayP z S t = false ∧ e = .returned (.tuple #[.slice none 0 0, .int .i64 0, .int .i64 4]) ∧ Below w.heap.size w w') ∨
  (mayP z S t = true ∧ fitB z s n = false ∧ e = .returned (.tuple #[.slice none 0 0, .int .i64 0, .int .i64 1]) ∧ Below w.heap.size w w') ∨
  (mayP z S t = true ∧ fitB z s n = true ∧ (∀ j, j < S → freeB z t j = false) ∧ e = .returned (.tuple #[.slice none 0 0, .int .i64 0, .int .i64 5]) ∧ Below w.heap.size w w') ∨
  (mayP z S t = true ∧ fitB z s n = true ∧ ∃ k : Nat, k < S ∧ freeB z t k = true ∧ (∀ j, j < k → freeB z t j = false) ∧
    ∃ h cc, e = .returned (.tuple #[.slice (some ⟨h, 0, none⟩) 256 cc, .int .i64 (k : Int), .int .i64 0]) ∧ PgO w' w.heap.size h cc (hdL t (k * z) n.toNat s) ∧ Below w.heap.size w w')
theorem take18_any (k b q c s : Nat) (n : Int) (t : List Nat) (w : World) (hs64 : s < 2 ^ 64) (hS : SZ w) (hk : k < 8) (hs : BS w w.heap.size (some ⟨b, q, none⟩) 256 c t) :
    Calls Tryd.prog 12 #[.slice (some ⟨b, q, none⟩) 256 c, .int .i64 (k : Int), .int .u64 (s : Int), .int .i64 n] w (TakenTo w (clZ k) (clS k) t s n) := by
  obtain ⟨z1, z2, z3, z4, z5, -⟩ := cl_fits k hk
  have HO := Lib.hid (open_any k b q c t w hS hk hs)
  have HSV := Lib.hid (fun w1 => serves_w s hs64 w1)
  clear hs hS
  unfold OpenTo at HO
  generalize clZ k = z at *
  generalize clS k = S at *
  go_enter Tryd.func12, Tryd.ntmps12
  go_wp2_with fail
  refine HO.out.mono ?_
  clear HO
  rintro e w1 (⟨hm, rfl, hb⟩ | ⟨hm, h, cc, g, rfl, hp, hhg, hr, hb⟩)
  · have HR : Hid (TakenTo w z S t s n (.returned (.tuple #[.slice none 0 0, .int .i64 0, .int .i64 4])) w1) := Lib.hid (.inl ⟨hm, rfl, hb⟩)
    clear hm hb
    go_wp2_with fail
    go_ret3
    exact HR.out
  · have HNF : Hid (∀ w', w1 = w' → fitB z s n = false → TakenTo w z S t s n (.returned (.tuple #[.slice none 0 0, .int .i64 0, .int .i64 1])) w') := Lib.hid (fun w' e hf => .inr (.inl ⟨hm, hf, rfl, by rw [← e]; exact hb⟩))
    have HFU : Hid (∀ w', Below w1.heap.size w1 w' → fitB z s n = true → (∀ j, j < S → freeB z t j = false) → TakenTo w z S t s n (.returned (.tuple #[.slice none 0 0, .int .i64 0, .int .i64 5])) w') :=
      Lib.hid (fun w' hb2 hf hj => .inr (.inr (.inl ⟨hm, hf, hj, rfl, hb.trans (hb2.mono hb.size)⟩)))
    have HP := Lib.hid hp
    have HRR := Lib.hid hr
    have HB := Lib.hid hb
    have HYS : Hid (∀ (k0 : Nat) w', k0 < S → freeB z t k0 = true → (∀ j, j < k0 → freeB z t j = false) → fitB z s n = true → PgO w' w.heap.size h cc (hdL t (k0 * z) n.toNat s) → Below w.heap.size w w' → TakenTo w z S t s n (.returned (.tuple #[.slice (some ⟨h, 0, none⟩) 256 cc, .int .i64 (k0 : Int), .int .i64 0])) w') :=
      Lib.hid (fun k0 w' a1 a2 a3 a4 a5 a6 => .inr (.inr (.inr ⟨hm, a4, k0, a1, a2, a3, h, cc, rfl, a5, a6⟩)))
    clear hm hp hr hb
    have hc0 := HRR.out.cell (show 0 < S by omega)
    have e1 : winV h 0 z 0 = .slice (some ⟨h, 0, none⟩) z z := by unfold winV; simp
    rw [e1] at hc0
    have HOL := Lib.hid (holds_w (some ⟨h, 0, none⟩) z n w1 z1 z2)
    have hF : Hid (fitB z s n = (servesB s && holdsB z n)) := Lib.hid rfl
    cases h1 : servesB s
    · rw [h1] at HSV hF
      clear h1 HFU HYS HP HRR HB e1
      go_wp2_with fail
      refine (HSV.out w1).mono ?_
      rintro e w2 ⟨rfl, rfl⟩
      go_wp2_with fail
      go_ret3
      exact HNF.out _ rfl hF.out
    · rw [h1] at HSV hF
      cases h2 : holdsB z n
      · rw [h2] at HOL hF
        clear h1 h2 HFU HYS HP HRR HB e1
        go_wp2_with fail
        refine (HSV.out w1).mono ?_
        rintro e w2 ⟨rfl, rfl⟩
        go_wp2_with fail
        refine HOL.out.mono ?_
        rintro e w2 ⟨rfl, rfl⟩
        go_wp2_with fail
        go_ret3
        exact HNF.out _ rfl hF.out
      · rw [h2] at HOL hF
        have hn : 1 ≤ n ∧ n ≤ (z : Int) - 8 := by unfold holdsB at h2; exact of_decide_eq_true h2
        obtain ⟨m, rfl⟩ : ∃ m : Nat, n = (m : Int) := ⟨n.toNat, by omega⟩
        have hm1 : 1 ≤ m ∧ m ≤ z - 8 := by omega
        have HIX := Lib.hid (windex_free g h 0 z S (freeB z t) z5 w1 HRR.out (fun i hi wr hbr => (free_w h (0 + i * z) z _ _ wr ((bs_win HP.out.bs z3 z1 hi).below hbr) z1 z2).mono fun e w' hh => ⟨hh.1, by rw [← hh.2]; exact Below.refl _ _⟩))
        clear h1 h2 e1 hn
        go_wp2_with fail
        refine (HSV.out w1).mono ?_
        rintro e w2 ⟨rfl, rfl⟩
        go_wp2_with fail
        refine HOL.out.mono ?_
        rintro e w2 ⟨rfl, rfl⟩
        go_wp2_with fail
        refine HIX.out.mono ?_
        rintro e w2 ⟨⟨i, rfl, hi⟩, hb2⟩
        have HB2 := Lib.hid hb2
        clear hb2
        rcases hi with ⟨rfl, hj⟩ | ⟨k0, rfl, hk0, hf, hj⟩
        · have HF := Lib.hid (HFU.out w2 HB2.out hF.out hj)
          clear hj
          go_wp2_with fail
          go_ret3
          exact HF.out
        · have hck : w2.cell? ⟨g, k0, none⟩ = some (winV h 0 z k0) := (HB2.out.cell HRR.out.lt).trans (HRR.out.cell hk0)
          have e2 : winV h 0 z k0 = .slice (some ⟨h, k0 * z, none⟩) z z := by unfold winV; rw [Nat.zero_add]
          rw [e2] at hck
          have hle := slot_le z3 hk0
          have HPP := Lib.hid (HP.out.below HB2.out)
          have HNM := Lib.hid (name_P h (k0 * z) z m s _ cc t w2 HPP.out (by omega) z1 z2 (by omega) hs64)
          have HYY := Lib.hid (fun w' => HYS.out k0 w' hk0 hf hj hF.out)
          have hlo := HPP.out.hB
          have HBW := Lib.hid (fun w' (hg : w2.grownBy w' (some h)) => (show Below w.heap.size w w' from ((HB.out.trans (HB2.out.mono HB.out.size))).trans ⟨hg.os, hg.tape, hg.output, hg.size, fun i hi => hg.block i (Nat.lt_of_lt_of_le hi (HB.out.trans (HB2.out.mono HB.out.size)).size) (fun e => by injection e with e; omega)⟩))
          have hk0' : ¬ (k0 : Int) < 0 := by omega
          clear hf hj e2 HYS HFU HNF hle hlo
          generalize k0 * z = mm at *
          go_wp2_with fail
          refine HNM.out.mono ?_
          rintro e w3 ⟨rfl, hp3, hg3⟩
          have HF := Lib.hid (HYY.out w3 hp3 (HBW.out w3 hg3))
          clear hp3 hg3
          go_wp2_with fail
          go_ret3
          exact HF.out
end Go.Proofs.YtflgcddgocojpaaDoor
