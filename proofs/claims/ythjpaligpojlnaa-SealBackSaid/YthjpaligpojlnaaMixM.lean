/-
  Mixed and mixed back: the bytes.
-/
import Derived.Test.YthjpaligpojlnaaMixB
import Derived.ChangeKeysEq
namespace Go.Proofs.Ythjpaligpojlnaa
open Go.RowKit Go
set_option linter.unusedVariables false
theorem colA_set (g : Nat → Nat) (x : Nat) {k : Nat} (h : k < 4) : (colA g).setIfInBounds k (.int .u8 (x : Int)) = colA (fun i => if i = k then x else g i) := by
  rcases (by omega : k = 0 ∨ k = 1 ∨ k = 2 ∨ k = 3) with rfl | rfl | rfl | rfl <;> simp [colA]
theorem colA_congr {g g' : Nat → Nat} (h : ∀ i, i < 4 → g i = g' i) : colA g = colA g' := by
  simp [colA, h 0 (by omega), h 1 (by omega), h 2 (by omega), h 3 (by omega)]
def coefL (fa fb : Nat → Nat) (d x : Nat) : Nat :=
  ((Gf.tm (Gf.tm x (fa d)) (fb 0) ^^^ Gf.tm (Gf.tm x (fa ((d + 3) % 4))) (fb 1)) ^^^ Gf.tm (Gf.tm x (fa ((d + 2) % 4))) (fb 2)) ^^^ Gf.tm (Gf.tm x (fa ((d + 1) % 4))) (fb 3)
def coef_chk (fa fb : Nat → Nat) : Bool := (List.range 4).all fun d => (List.range 256).all fun x => coefL fa fb d x == (if d = 0 then x else 0)
theorem coef_MU : coef_chk facM facU = true := by kernel_rfl
theorem coef_UM : coef_chk facU facM = true := by kernel_rfl
theorem coef_at {fa fb : Nat → Nat} (h : coef_chk fa fb = true) {d x : Nat} (hd : d < 4) (hx : x < 256) : coefL fa fb d x = if d = 0 then x else 0 := by
  have h1 := List.all_eq_true.mp h d (List.mem_range.mpr hd)
  have h2 := List.all_eq_true.mp h1 x (List.mem_range.mpr hx)
  exact eq_of_beq h2
theorem mixC_eq (f C : Nat → Nat) (k : Nat) : mixC f C k = ((Gf.tm (C (k % 4)) (f 0) ^^^ Gf.tm (C ((k + 1) % 4)) (f 1)) ^^^ Gf.tm (C ((k + 2) % 4)) (f 2)) ^^^ Gf.tm (C ((k + 3) % 4)) (f 3) := by
  simp [mixC, mixS]
theorem tm4 {a b c d : Nat} (u : Nat) (ha : a < 256) (hb : b < 256) (hc : c < 256) (hd : d < 256) :
    Gf.tm (((a ^^^ b) ^^^ c) ^^^ d) u = ((Gf.tm a u ^^^ Gf.tm b u) ^^^ Gf.tm c u) ^^^ Gf.tm d u := by
  rw [Gf.tm_xor _ (Gf.xor_lt (Gf.xor_lt ha hb) hc) hd, Gf.tm_xor _ (Gf.xor_lt ha hb) hc, Gf.tm_xor _ ha hb]
theorem twice_mix {fa fb C : Nat → Nat} (hC : ∀ i, C i < 256) (h : coef_chk fa fb = true) : ∀ k, k < 4 → mixC fb (mixC fa C) k = C k := by
  intro k hk
  have l : ∀ i a, Gf.tm (C i) a < 256 := fun i a => Gf.tm_lt (hC i)
  have key : mixC fb (mixC fa C) k = ((coefL fa fb 0 (C (k % 4)) ^^^ coefL fa fb 1 (C ((k + 1) % 4))) ^^^ coefL fa fb 2 (C ((k + 2) % 4))) ^^^ coefL fa fb 3 (C ((k + 3) % 4)) := by
    rw [mixC_eq, mixC_eq, mixC_eq, mixC_eq, mixC_eq]
    rw [tm4 _ (l _ _) (l _ _) (l _ _) (l _ _), tm4 _ (l _ _) (l _ _) (l _ _) (l _ _), tm4 _ (l _ _) (l _ _) (l _ _) (l _ _), tm4 _ (l _ _) (l _ _) (l _ _) (l _ _)]
    unfold coefL
    rcases (by omega : k = 0 ∨ k = 1 ∨ k = 2 ∨ k = 3) with rfl | rfl | rfl | rfl <;> simp only [Nat.reduceAdd, Nat.reduceMod] <;> ac_rfl
  rw [key, coef_at h (by omega) (hC _), coef_at h (by omega) (hC _), coef_at h (by omega) (hC _), coef_at h (by omega) (hC _)]
  simp
  congr 1
  omega
theorem unmix_mix {C : Nat → Nat} (hC : ∀ i, C i < 256) : colA (mixC facU (mixC facM C)) = colA C := colA_congr (twice_mix hC coef_MU)
theorem mix_unmix {C : Nat → Nat} (hC : ∀ i, C i < 256) : colA (mixC facM (mixC facU C)) = colA C := colA_congr (twice_mix hC coef_UM)
theorem plain_u8 : Try.prog.plainKey 5 = true := by kernel_rfl
theorem cells_u8 : Try.prog.cellsOf 5 = 1 := by kernel_rfl
theorem info_u8' : (Try.prog.info? 5).isSome = true := by kernel_rfl
theorem equal_col (f : Nat → Nat) (w : World) : (Op.equalIn 10000 69 (.agg (colA f)) (.agg (colA f))).run Try.prog w = .ok true w := by
  obtain ⟨i, hi⟩ := Option.isSome_iff_exists.mp info_u8'
  have p : ∀ k, k < 4 → (part 5 (colA f) k).run Try.prog w = .ok (.int .u8 ((f k : Nat) : Int)) w := fun k hk => Go.run_part_plain w plain_u8 (colA_at f hk)
  rw [show (10000 : Nat) = 9998 + 1 + 1 from rfl, Go.run_equalIn_array w 9999 _ _ Try.underlying69 hi, cells_u8, show List.range 4 = [0, 1, 2, 3] from rfl]
  simp [Op.eqItems, p, run_equalIn_int w 9998 5 .u8 .u8 _ _ Try.underlying5]
theorem mixC_lt {f C : Nat → Nat} (hC : ∀ i, C i < 256) (k : Nat) : mixC f C k < 256 := mixS_lt hC k 4
end Go.Proofs.Ythjpaligpojlnaa
