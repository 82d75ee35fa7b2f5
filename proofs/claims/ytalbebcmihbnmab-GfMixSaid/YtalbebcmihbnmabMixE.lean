/-
  The walk of GfMix, where the statement leaves an order open.
-/
import Derived.Test.YtalbebcmihbnmabMixD
import Derived.Deep.RegionHeld3
namespace Go.Proofs.Ytalbebcmihbnmab
open Go.RowKit
set_option linter.unusedVariables false
def four (a b c d : Nat) (i : Nat) : Nat := match i with | 0 => a | 1 => b | 2 => c | 3 => d | _ => 0
theorem four_lt {a b c d : Nat} (ha : a < 256) (hb : b < 256) (hc : c < 256) (hd : d < 256) : ∀ i, four a b c d i < 256 := by
  intro i
  unfold four
  split <;> omega
abbrev lit4 (a b c d : Nat) : Array Value := #[.int .u8 (a : Int), .int .u8 (b : Int), .int .u8 (c : Int), .int .u8 (d : Int)]
theorem lit4_eq (a b c d : Nat) : colA (four a b c d) = lit4 a b c d := rfl
abbrev CallsCol (f : FuncId) (x : Array Value) (y : Array Value) : Prop := ∀ w : World, Calls Try.prog f #[.agg x] w fun e w' => e = .returned (.agg y) ∧ Below w.heap.size w w'
abbrev CallsCol2 (f : FuncId) (x z : Array Value) (y : Array Value) : Prop := ∀ w : World, Calls Try.prog f #[.agg x, .agg z] w fun e w' => e = .returned (.agg y) ∧ Below w.heap.size w w'
theorem facM_lt : ∀ i, facM i < 256 := by intro i; unfold facM; split <;> omega
theorem facU_lt : ∀ i, facU i < 256 := by intro i; unfold facU; split <;> omega
/-- the column stands at block g of W, which has grown out of w -/
def Stands (g a b c d : Nat) (w W : World) : Prop := W.cell? ⟨g, 0, none⟩ = some (.int .u8 (a : Int)) ∧ W.cell? ⟨g, 1, none⟩ = some (.int .u8 (b : Int)) ∧ W.cell? ⟨g, 2, none⟩ = some (.int .u8 (c : Int)) ∧ W.cell? ⟨g, 3, none⟩ = some (.int .u8 (d : Int)) ∧ g < W.heap.size ∧ Below g w W
theorem keep_next {g a b c d : Nat} {w W W' : World} (hb : Below W.heap.size W W') (h : Stands g a b c d w W) :
    W'.cell? ⟨g, 0, none⟩ = some (.int .u8 (a : Int)) ∧ W'.cell? ⟨g, 1, none⟩ = some (.int .u8 (b : Int)) ∧ W'.cell? ⟨g, 2, none⟩ = some (.int .u8 (c : Int)) ∧ W'.cell? ⟨g, 3, none⟩ = some (.int .u8 (d : Int)) ∧ Stands g a b c d w W' := by
  obtain ⟨c0, c1, c2, c3, hg, hbw⟩ := h
  have k : ∀ i v, W.cell? ⟨g, i, none⟩ = some v → W'.cell? ⟨g, i, none⟩ = some v := fun i v hv => (hb.cell (p := ⟨g, i, none⟩) hg).trans hv
  exact ⟨k _ _ c0, k _ _ c1, k _ _ c2, k _ _ c3, k _ _ c0, k _ _ c1, k _ _ c2, k _ _ c3, Nat.lt_of_lt_of_le hg hb.size, hbw.trans (hb.mono (Nat.le_of_lt hg))⟩
theorem keep_conj {g a b c d : Nat} {w W W' : World} (hb : Below W.heap.size W W')
    (h : W.cell? ⟨g, 0, none⟩ = some (.int .u8 (a : Int)) ∧ W.cell? ⟨g, 1, none⟩ = some (.int .u8 (b : Int)) ∧ W.cell? ⟨g, 2, none⟩ = some (.int .u8 (c : Int)) ∧ W.cell? ⟨g, 3, none⟩ = some (.int .u8 (d : Int)) ∧ Stands g a b c d w W) :
    W'.cell? ⟨g, 0, none⟩ = some (.int .u8 (a : Int)) ∧ W'.cell? ⟨g, 1, none⟩ = some (.int .u8 (b : Int)) ∧ W'.cell? ⟨g, 2, none⟩ = some (.int .u8 (c : Int)) ∧ W'.cell? ⟨g, 3, none⟩ = some (.int .u8 (d : Int)) ∧ Stands g a b c d w W' := keep_next hb h.2.2.2.2
set_option maxHeartbeats 8000000 in
theorem gfMix_walk (a b c d : Nat) (M U : Array Value) (w : World)
    (h1 : CallsCol 4 (lit4 a b c d) M) (h2 : CallsCol2 5 (lit4 a b c d) #[.int .u8 2, .int .u8 3, .int .u8 1, .int .u8 1] M)
    (h3 : CallsCol 6 (lit4 a b c d) U) (h4 : CallsCol2 5 (lit4 a b c d) #[.int .u8 14, .int .u8 11, .int .u8 13, .int .u8 9] U)
    (h5 : CallsCol 6 M (lit4 a b c d)) (h6 : CallsCol 4 U (lit4 a b c d))
    (q1 : ∀ w : World, (Op.equalIn 10000 22 (.agg M) (.agg M)).run Try.prog w = .ok true w) (q2 : ∀ w : World, (Op.equalIn 10000 22 (.agg U) (.agg U)).run Try.prog w = .ok true w)
    (q3 : ∀ w : World, (Op.equalIn 10000 22 (.agg (lit4 a b c d)) (.agg (lit4 a b c d))).run Try.prog w = .ok true w) :
    Calls Try.prog 3 #[.int .u8 a, .int .u8 b, .int .u8 c, .int .u8 d] w fun e w' => e = .returned (.bool true) ∧ Below w.heap.size w w' := by
  have H1 := Lib.hid h1
  have H2 := Lib.hid h2
  have H3 := Lib.hid h3
  have H4 := Lib.hid h4
  have H5 := Lib.hid h5
  have H6 := Lib.hid h6
  clear h1 h2 h3 h4 h5 h6
  have hb0 : Below w.heap.size w (w.alloc (.cells (lit4 a b c d) 22)) := (Below.refl _ _).alloc (Nat.le_refl _) _
  have c0 : (w.alloc (.cells (lit4 a b c d) 22)).cell? ⟨w.heap.size, 0, none⟩ = some (.int .u8 (a : Int)) := blk_cell (heap_alloc_new w _) 0
  have c1 : (w.alloc (.cells (lit4 a b c d) 22)).cell? ⟨w.heap.size, 1, none⟩ = some (.int .u8 (b : Int)) := blk_cell (heap_alloc_new w _) 1
  have c2 : (w.alloc (.cells (lit4 a b c d) 22)).cell? ⟨w.heap.size, 2, none⟩ = some (.int .u8 (c : Int)) := blk_cell (heap_alloc_new w _) 2
  have c3 : (w.alloc (.cells (lit4 a b c d) 22)).cell? ⟨w.heap.size, 3, none⟩ = some (.int .u8 (d : Int)) := blk_cell (heap_alloc_new w _) 3
  have hs : Stands w.heap.size a b c d w (w.alloc (.cells (lit4 a b c d) 22)) := ⟨c0, c1, c2, c3, by simp, hb0⟩
  go_enter Try.func3, Try.ntmps3
  go_wp2
  generalize (w.alloc (.cells (lit4 a b c d) 22)) = W at *
  generalize hgg : w.heap.size = g at *
  have HGG := Lib.hid hgg
  clear hgg
  have hs' : Stands g a b c d w W.drew := ⟨hs.1, hs.2.1, hs.2.2.1, hs.2.2.2.1, hs.2.2.2.2.1, hs.2.2.2.2.2.drew⟩
  clear hb0 hs
  go_region_held3 (fun w' => w'.cell? ⟨g, 0, none⟩ = some (.int .u8 (a : Int)) ∧ w'.cell? ⟨g, 1, none⟩ = some (.int .u8 (b : Int)) ∧ w'.cell? ⟨g, 2, none⟩ = some (.int .u8 (c : Int)) ∧ w'.cell? ⟨g, 3, none⟩ = some (.int .u8 (d : Int)) ∧ Stands g a b c d w w')
    (first | exact ⟨c0, c1, c2, c3, hs'⟩ | exact keep_conj (by assumption) (by assumption) | exact keep_next (by assumption) (by assumption))
    (first
    | (go_at_call 4; first | ((with_reducible refine (H1.out _).mono ?_); rintro e w1 ⟨rfl, hb1⟩) | ((with_reducible refine (H6.out _).mono ?_); rintro e w1 ⟨rfl, hb1⟩))
    | (go_at_call 6; first | ((with_reducible refine (H3.out _).mono ?_); rintro e w1 ⟨rfl, hb1⟩) | ((with_reducible refine (H5.out _).mono ?_); rintro e w1 ⟨rfl, hb1⟩))
    | (go_at_call 5; first | ((with_reducible refine (H2.out _).mono ?_); rintro e w1 ⟨rfl, hb1⟩) | ((with_reducible refine (H4.out _).mono ?_); rintro e w1 ⟨rfl, hb1⟩))
    | (go_at_call 7; refine (awake_any _).mono ?_; rintro e w1 ⟨rfl, hb1⟩))
  rename_i hHeld
  have HB := Lib.hid hHeld.2.2.2.2.2.2.2.2.2
  clear hHeld
  go_wp2
  go_ret
  exact ⟨rfl, by rw [HGG.out]; exact HB.out⟩
theorem gfMix_any (a b c d : Nat) (ha : a < 256) (hb : b < 256) (hc : c < 256) (hd : d < 256) (w : World) :
    Calls Try.prog 3 #[.int .u8 a, .int .u8 b, .int .u8 c, .int .u8 d] w fun e w' => e = .returned (.bool true) ∧ Below w.heap.size w w' := by
  have hC := four_lt ha hb hc hd
  refine gfMix_walk a b c d (colA (mixC facM (four a b c d))) (colA (mixC facU (four a b c d))) w (fun w => mix_any (four a b c d) hC w) (fun w => ?_) (fun w => unmix_any (four a b c d) hC w) (fun w => ?_) (fun w => ?_) (fun w => ?_)
    (equal_col _) (equal_col _) (equal_col (four a b c d))
  · have h := column_any (four a b c d) facM hC facM_lt w
    rw [colM hC facM_lt] at h
    exact h
  · have h := column_any (four a b c d) facU hC facU_lt w
    rw [colM hC facU_lt] at h
    exact h
  · have h := unmix_any (mixC facM (four a b c d)) (mixC_lt hC) w
    rw [unmix_mix hC] at h
    exact h
  · have h := mix_any (mixC facU (four a b c d)) (mixC_lt hC) w
    rw [mix_unmix hC] at h
    exact h
end Go.Proofs.Ytalbebcmihbnmab
