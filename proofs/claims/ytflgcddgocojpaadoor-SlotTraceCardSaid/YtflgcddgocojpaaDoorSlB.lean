/-
  Layer 18's cut: a page's windows.
-/
import Derived.Test.YtflgcddgocojpaaDoorSlA
import Derived.Test.YtflgcddgocojpaaDoorKlB
namespace Go.Proofs.YtflgcddgocojpaaDoor
open Go.RowKit Go
set_option linter.unusedVariables false
set_option linter.unusedSimpArgs false
set_option maxHeartbeats 1000000

def clZ (k : Nat) : Nat := [16, 24, 32, 40, 56, 72, 104, 128].getD k 16
def clS (k : Nat) : Nat := [16, 10, 8, 6, 4, 3, 2, 2].getD k 0
theorem cl_fits (k : Nat) (h : k < 8) : 16 ≤ clZ k ∧ clZ k ≤ 128 ∧ clS k * clZ k ≤ 256 ∧ 2 ≤ clS k ∧ clS k ≤ 16 ∧ clZ k = szN k + 8 := by
  match k, h with
  | 0, _ => decide
  | 1, _ => decide
  | 2, _ => decide
  | 3, _ => decide
  | 4, _ => decide
  | 5, _ => decide
  | 6, _ => decide
  | 7, _ => decide
theorem slots_n (k : Nat) (h : k < 8) : GK 26 #[.int .i64 (k : Int)] (.int .i64 ((clS k : Nat) : Int)) := by
  match k, h with
  | 0, _ => exact slots_0
  | 1, _ => exact slots_1
  | 2, _ => exact slots_2
  | 3, _ => exact slots_3
  | 4, _ => exact slots_4
  | 5, _ => exact slots_5
  | 6, _ => exact slots_6
  | 7, _ => exact slots_7
theorem rslots_n (k : Nat) (h : k < 8) : GK 21 #[.int .i64 (k : Int)] (.int .i64 ((clS k : Nat) : Int)) := by
  match k, h with
  | 0, _ => exact rslots_0
  | 1, _ => exact rslots_1
  | 2, _ => exact rslots_2
  | 3, _ => exact rslots_3
  | 4, _ => exact rslots_4
  | 5, _ => exact rslots_5
  | 6, _ => exact rslots_6
  | 7, _ => exact rslots_7
theorem place_n (k j : Nat) (h : k < 8) (hj : j < clS k) : GK 44 #[.int .i64 (k : Int), .int .i64 (j : Int)] (.tuple #[.int .i64 ((j * clZ k : Nat) : Int), .int .i64 ((clZ k : Nat) : Int), .bool true]) := by
  match k, h with
  | 0, _ => exact place_0 j (by omega) (by have : clS 0 = 16 := rfl; omega)
  | 1, _ => exact place_1 j (by omega) (by have : clS 1 = 10 := rfl; omega)
  | 2, _ => exact place_2 j (by omega) (by have : clS 2 = 8 := rfl; omega)
  | 3, _ => exact place_3 j (by omega) (by have : clS 3 = 6 := rfl; omega)
  | 4, _ => exact place_4 j (by omega) (by have : clS 4 = 4 := rfl; omega)
  | 5, _ => exact place_5 j (by omega) (by have : clS 5 = 3 := rfl; omega)
  | 6, _ => exact place_6 j (by omega) (by have : clS 6 = 2 := rfl; omega)
  | 7, _ => exact place_7 j (by omega) (by have : clS 7 = 2 := rfl; omega)
/-- window i of a page at (b, q) -/
def winV (b q z i : Nat) : Value := .slice (some ⟨b, q + i * z, none⟩) z z
def winF (b q z j i : Nat) : Value := if i < j then winV b q z i else .slice none 0 0
theorem make_wins (n : Nat) (hn : n ≤ 100) (w : World) : (Instr.makeSlice 59 (.int .i64 (n : Int)) (.int .i64 (n : Int))).run Tryd.prog w = .ok (.slice (some ⟨w.heap.size, 0, none⟩) n n) (w.alloc (.cells (rowV (winF 0 0 0 0) n) 63)) := by
  obtain ⟨i, h0⟩ := Option.isSome_iff_exists.mp (show (Tryd.prog.info? 63).isSome = true by kernel_rfl)
  have h : (Tryd.prog.info? 63).map (fun i => (i.zero, i.size, i.bytes)) = some (some (.slice none 0 0), 1, 24) := by kernel_rfl
  rw [h0] at h
  simp at h
  obtain ⟨hz, hs, hb⟩ := h
  have hr := run_make (P := Tryd.prog) w 59 63 i _ Tryd.underlying59 h0 hz .i64 .i64 n n (by omega) (by omega) (by rw [hb]; omega) (by omega)
  rw [hr, hs]
  simp only [Int.toNat_natCast, Nat.mul_one]
  congr 3
  refine rowV_ext (by simp [madeCells, Value.cells]) fun i hi => ?_
  simp [madeCells, Value.cells, Nat.mod_one, winF, hi]
def CutTo (w : World) (b q c z S : Nat) (e : Ending) (w' : World) : Prop :=
  e = .returned (.tuple #[.slice (some ⟨w.heap.size, 0, none⟩) S S, .slice (cutA (some ⟨b, q, none⟩) c (S * z)) (256 - S * z) (c - S * z)]) ∧ Row w' w.heap.size 63 (winV b q z) S ∧ Below w.heap.size w w'
def CutRel (w : World) (b q z S : Nat) (ev iv : Value) (wr : World) : Prop :=
  ∃ j : Nat, iv = .int .i64 (j : Int) ∧ ev = .int .i64 ((j * z : Nat) : Int) ∧ j ≤ S ∧ Row wr w.heap.size 63 (winF b q z j) S ∧ Below w.heap.size w wr
theorem cut_start (w : World) (b q z S : Nat) : CutRel w b q z S (.int .i64 0) (.int .i64 0) (w.alloc (.cells (rowV (winF 0 0 0 0) S) 63)) :=
  ⟨0, rfl, by simp, by omega, (Row.new w _ _ S).congr fun i _ => by simp [winF], (Below.refl _ w).alloc (Nat.le_refl _) _⟩
theorem cut_step {w wr : World} {b q z S j : Nat} (hj : j < S) (hr : Row wr w.heap.size 63 (winF b q z j) S) (hb : Below w.heap.size w wr) :
    CutRel w b q z S (.int .i64 ((j * z : Nat) + (z : Nat))) (.int .i64 ((j : Int) + 1)) (wr.setCell ⟨w.heap.size, j, none⟩ (winV b q z j)) :=
  ⟨j + 1, rfl, by rw [Nat.succ_mul]; rfl, by omega, (hr.set_ j _).congr fun i _ => by
    by_cases h : i = j
    · subst h; simp [winF]
    · rw [if_neg h]; unfold winF
      by_cases h2 : i < j
      · rw [if_pos h2, if_pos (by omega)]
      · rw [if_neg h2, if_neg (by omega)], hb.setCell (Nat.le_refl _) _⟩
theorem cut_any (k b q c : Nat) (t : List Nat) (w : World) (hS : SZ w) (hk : k < 8) (hs : BS w w.heap.size (some ⟨b, q, none⟩) 256 c t) :
    Calls Tryd.prog 27 #[.slice (some ⟨b, q, none⟩) 256 c, .int .i64 (k : Int)] w (CutTo w b q c (clZ k) (clS k)) := by
  obtain ⟨z1, z2, z3, z4, z5, -⟩ := cl_fits k hk
  have hc := hs.cap
  have HSL := Lib.hid (slots_n k hk w hS)
  have HP := Lib.hid (fun j (hj : j < clS k) wr (h : Below w.heap.size w wr) => place_n k j hk hj wr (hS.below h))
  generalize clZ k = z at *
  generalize clS k = S at *
  have HM := make_wins S (by omega)
  have HR := Lib.hid (cut_start w b q z S)
  have HZ := Lib.hid hS
  clear hs hS
  go_enter Tryd.func27, Tryd.ntmps27
  go_wp2_with fail
  refine HSL.out.mono ?_
  rintro e w1 ⟨rfl, rfl⟩
  go_wp2_with fail
  go_loopw [7, 17] (fun ev iv wr => CutRel w b q z S ev iv wr) (fun _ iv _ => (S - intOf iv).toNat)
  case atStart => exact HR.out
  case round =>
    clear HR
    obtain ⟨j, rfl, rfl, hj, hr, hb⟩ := hrel
    have HRR := Lib.hid hr
    have HB := Lib.hid hb
    clear hr hb
    by_cases hlt : j < S
    · have hle := slot_le z3 hlt
      have HN := Lib.hid (cut_step hlt HRR.out HB.out)
      have f1 := HRR.out.cell hlt
      have f2 := HRR.out.free j
      have HPP := Lib.hid (HP.out j hlt wr HB.out)
      generalize winF b q z j j = old at f1
      unfold winV at HN
      generalize j * z = at_ at *
      go_wp2_with fail
      refine HPP.out.mono ?_
      rintro e w2 ⟨rfl, rfl⟩
      go_wp2_with fail
      go_roundw
      case rel => exact HN.out
      case measure => simp [intOf]; omega
    · obtain rfl : j = S := by omega
      have HN : Hid (CutTo w b q c z j (.returned (.tuple #[.slice (some ⟨w.heap.size, 0, none⟩) j j, .slice (cutA (some ⟨b, q, none⟩) c (j * z)) (256 - j * z) (c - j * z)])) wr.drew) :=
        Lib.hid ⟨rfl, (HRR.out.congr fun i hi => by unfold winF; rw [if_pos hi]).drew, HB.out.drew⟩
      unfold cutA at HN
      by_cases hcc : c = j * z
      · rw [if_pos hcc] at HN
        generalize j * z = m at *
        subst hcc
        rw [Nat.sub_self, show 256 - c = 0 by omega] at HN
        go_wp2_with fail
        go_region
        go_wp2_with fail
        go_ret2
        exact HN.out
      · rw [if_neg hcc] at HN
        have e1 : (some (⟨b, q, none⟩ : Addr)).map (·.add (j * z)) = some ⟨b, q + j * z, none⟩ := by simp [Go.WideShapes.add_plain]
        rw [e1] at HN
        clear e1
        generalize j * z = m at *
        go_wp2_with fail
        go_region
        go_wp2_with fail
        go_ret2
        exact HN.out
end Go.Proofs.YtflgcddgocojpaaDoor
