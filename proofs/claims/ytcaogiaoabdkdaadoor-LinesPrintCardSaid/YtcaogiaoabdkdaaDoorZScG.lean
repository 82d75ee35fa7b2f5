/-
  Package script: fits.
-/
import Derived.Test.YtcaogiaoabdkdaaDoorZScF
namespace Go.Proofs.YtcaogiaoabdkdaaDoor
open Go.RowKit Go
set_option linter.unusedVariables false
set_option linter.unusedSimpArgs false
set_option maxRecDepth 100000
def inB (z : Int) : Prop := 0 ≤ z ∧ z ≤ 65535
def zSel (z1 z2 z3 z4 : Int) : Nat → Int | 0 => z1 | 1 => z2 | 2 => z3 | _ => z4
def fitsB (z1 z2 z3 z4 : Int) (n : Nat) : Bool := decide (((0 ≤ z1 ∧ z1 ≤ 65535) ∧ (0 ≤ z2 ∧ z2 ≤ 65535) ∧ (0 ≤ z3 ∧ z3 ≤ 65535) ∧ (0 ≤ z4 ∧ z4 ≤ 65535)) ∧ n ≤ 1024)
theorem sel_all (z1 z2 z3 z4 : Int) : (∀ j, j < 4 → 0 ≤ zSel z1 z2 z3 z4 j ∧ zSel z1 z2 z3 z4 j ≤ 65535) ↔ ((0 ≤ z1 ∧ z1 ≤ 65535) ∧ (0 ≤ z2 ∧ z2 ≤ 65535) ∧ (0 ≤ z3 ∧ z3 ≤ 65535) ∧ (0 ≤ z4 ∧ z4 ≤ 65535)) :=
  ⟨fun h => ⟨h 0 (by omega), h 1 (by omega), h 2 (by omega), h 3 (by omega)⟩, fun h j hj => by
    match j, hj with
    | 0, _ => exact h.1
    | 1, _ => exact h.2.1
    | 2, _ => exact h.2.2.1
    | 3, _ => exact h.2.2.2⟩
def FitR (z1 z2 z3 z4 : Int) (iv : Value) : Prop := ∃ j : Nat, iv = .int .i64 (j : Int) ∧ j ≤ 4 ∧ ∀ i, i < j → 0 ≤ zSel z1 z2 z3 z4 i ∧ zSel z1 z2 z3 z4 i ≤ 65535
set_option maxHeartbeats 4000000 in
theorem fits_any (kd : Int) (y : Bool) (z1 z2 z3 z4 : Int) (A : Option Addr) (n c : Nat) (w : World) :
    Calls Tryd.prog 36 #[.agg #[.int .i64 kd, .bool y, .int .i64 z1, .int .i64 z2, .int .i64 z3, .int .i64 z4, .slice A n c]] w (SameTo w (fitsB z1 z2 z3 z4 n)) := by
  have HB0 := Lib.hid (al1 w (.cells #[.int .i64 kd, .bool y, .int .i64 z1, .int .i64 z2, .int .i64 z3, .int .i64 z4, .slice A n c] 30))
  have hx := heap_alloc_new w (.cells #[.int .i64 kd, .bool y, .int .i64 z1, .int .i64 z2, .int .i64 z3, .int .i64 z4, .slice A n c] 30)
  have HX := Lib.hid hx
  have hsz : (w.alloc (.cells #[.int .i64 kd, .bool y, .int .i64 z1, .int .i64 z2, .int .i64 z3, .int .i64 z4, .slice A n c] 30)).heap.size = w.heap.size + 1 := by simp
  have HSZ := Lib.hid hsz
  have HNO : Hid (∀ j, j < 4 → ¬ (0 ≤ zSel z1 z2 z3 z4 j ∧ zSel z1 z2 z3 z4 j ≤ 65535) → fitsB z1 z2 z3 z4 n = false) := Lib.hid (fun j hj h => by
    unfold fitsB; rw [decide_eq_false_iff_not]; exact fun h2 => h ((sel_all z1 z2 z3 z4).mpr h2.1 j hj))
  have HEND : Hid ((∀ j, j < 4 → 0 ≤ zSel z1 z2 z3 z4 j ∧ zSel z1 z2 z3 z4 j ≤ 65535) → fitsB z1 z2 z3 z4 n = decide ((n : Int) ≤ 1024)) := Lib.hid (fun h => by
    unfold fitsB; rw [decide_eq_decide]; exact ⟨fun h2 => by omega, fun h2 => ⟨(sel_all z1 z2 z3 z4).mp h, by omega⟩⟩)
  have HIX : Hid (∀ j : Nat, j < 4 → ∀ W, (Instr.index 93 (.agg #[.int .i64 z1, .int .i64 z2, .int .i64 z3, .int .i64 z4]) (.int .i64 (j : Int))).run Tryd.prog W = .ok (.int .i64 (zSel z1 z2 z3 z4 j)) W) := Lib.hid (fun j hj W => by
    match j, hj with
    | 0, _ => go_simp; rfl
    | 1, _ => go_simp; rfl
    | 2, _ => go_simp; rfl
    | 3, _ => go_simp; rfl)
  have HR : Hid (FitR z1 z2 z3 z4 (.int .i64 0)) := Lib.hid ⟨0, rfl, by omega, fun i hi => by omega⟩
  clear hsz
  go_enter Tryd.func36, Tryd.ntmps36
  go_wp2_with fail
  refine (numbers_any kd y z1 z2 z3 z4 A n c _).mono ?_
  rintro e w1 ⟨rfl, hb1⟩
  have HX1 : Hid (w1.heap[w.heap.size]? = some (.cells #[.int .i64 kd, .bool y, .int .i64 z1, .int .i64 z2, .int .i64 z3, .int .i64 z4, .slice A n c] 30 (0, 0))) := Lib.hid ((hb1.block _ (by rw [HSZ.out]; omega)).trans HX.out)
  have HB1 : Hid (Below w.heap.size w w1) := Lib.hid (HB0.out.trans (Below.mono hb1 (by rw [HSZ.out]; omega)))
  clear hb1 hx
  have p6 : w1.cell? ⟨w.heap.size, 6, none⟩ = some (.slice A n c) := blk_cell HX1.out 6
  go_wp2_with fail
  go_loop [7] (fun iv => FitR z1 z2 z3 z4 iv) (fun iv => (4 - intOf iv).toNat)
  case atStart => exact HR.out
  case round =>
    obtain ⟨j, rfl, hj, hall⟩ := hrel
    have HALL := Lib.hid hall
    clear hall HR
    by_cases hlt : j < 4
    · have hi := HIX.out j hlt
      have HNOJ := Lib.hid (HNO.out j hlt)
      have HST := Lib.hid (fun (h : 0 ≤ zSel z1 z2 z3 z4 j ∧ zSel z1 z2 z3 z4 j ≤ 65535) (i : Nat) (hi : i < j + 1) => (by
        by_cases e : i = j
        · rw [e]; exact h
        · exact HALL.out i (by omega) : 0 ≤ zSel z1 z2 z3 z4 i ∧ zSel z1 z2 z3 z4 i ≤ 65535))
      generalize zSel z1 z2 z3 z4 j = x at *
      by_cases h1 : 0 ≤ x
      · by_cases h2 : x ≤ 65535
        · have HG : Hid (FitR z1 z2 z3 z4 (.int .i64 ((j : Int) + 1))) := Lib.hid ⟨j + 1, rfl, by omega, HST.out ⟨h1, h2⟩⟩
          have h1' : ¬ x < 0 := by omega
          have h2' : ¬ 65535 < x := by omega
          go_wp2
          go_round
          case rel => exact HG.out
          case measure => simp [intOf]; omega
        · have HF : Hid (SameTo w (fitsB z1 z2 z3 z4 n) (.returned (.bool false)) w1) := Lib.hid ⟨by rw [HNOJ.out (fun h => h2 h.2)], HB1.out⟩
          have h1' : ¬ x < 0 := by omega
          have h2' : 65535 < x := by omega
          clear h2
          go_wp2
          go_ret
          exact HF.out
      · have HF : Hid (SameTo w (fitsB z1 z2 z3 z4 n) (.returned (.bool false)) w1) := Lib.hid ⟨by rw [HNOJ.out (fun h => h1 h.1)], HB1.out⟩
        have h1' : x < 0 := by omega
        clear h1
        go_wp2
        go_ret
        exact HF.out
    · obtain rfl : j = 4 := by omega
      have HF : Hid (SameTo w (fitsB z1 z2 z3 z4 n) (.returned (.bool (decide ((n : Int) ≤ 1024)))) w1) := Lib.hid ⟨by rw [HEND.out HALL.out], HB1.out⟩
      go_wp2
      go_ret
      exact HF.out
end Go.Proofs.YtcaogiaoabdkdaaDoor
