/-
  Columns: plus, turned, through.
-/
import Derived.Test.YthjpaligpojlnaaAesMath
import Derived.Test.YthjpaligpojlnaaBox
import Derived.Test.YthjpaligpojlnaaByt
import Derived.Laws.Rows
namespace Go.Proofs.Ythjpaligpojlnaa
open Go.RowKit Go
set_option linter.unusedVariables false
attribute [local irreducible] Gf.inv Gf.tm Gf.pw Gf.spread Gf.sub Gf.boxAt Gf.bk Gf.rm Gf.bit
/-- block g begins with the box -/
def BoxC (w : World) (g : Nat) : Prop := g < w.heap.size ∧ ∀ c, c < 256 → w.cell? ⟨g, c, none⟩ = some (.int .u8 ((Gf.sub c : Nat) : Int)) ∧ w.cell? ⟨g, 256 + c, none⟩ = some (.int .u8 ((Gf.bk c : Nat) : Int))
theorem BoxC.below {w w' : World} {g B : Nat} (h : BoxC w g) (hb : Below B w w') (hg : g < B) : BoxC w' g :=
  ⟨Nat.lt_of_lt_of_le h.1 hb.size, fun c hc => ⟨(hb.cell (p := ⟨g, c, none⟩) hg).trans (h.2 c hc).1, (hb.cell (p := ⟨g, 256 + c, none⟩) hg).trans (h.2 c hc).2⟩⟩
theorem BoxC.next {w w' : World} {g : Nat} (h : BoxC w g) (hb : Below w.heap.size w w') : BoxC w' g := h.below hb h.1
theorem IsBox.boxC {w : World} {g : Nat} (h : IsBox w g) : BoxC w g := ⟨blk_lt h, fun c hc => ⟨(blk_cell h c).trans (box_sub hc), (blk_cell h _).trans (box_back hc)⟩⟩
set_option maxHeartbeats 400000 in
theorem subC (g c : Nat) (hc : c < 256) (w : World) (hb : BoxC w g) :
    Calls Try.prog 69 #[.pointer (some ⟨g, 0, none⟩), .int .u8 c] w fun e w' => e = .returned (.int .u8 (Gf.sub c : Nat)) ∧ w = w' := by
  have h1 := (hb.2 c hc).1
  clear hb
  go_enter Try.func69, Try.ntmps69
  go_wp2
  go_ret
  exact ⟨rfl, rfl⟩
theorem info_c (C : Nat → Nat) : (Try.prog.info? 73).map (·.size) = some (colA C).size := by kernel_rfl
theorem zero_c (w : World) : (zeroValue 73).run Try.prog w = .ok (.agg (zeros 4)) w := by kernel_rfl
theorem plain8 : Try.prog.plainKey 5 = true := by kernel_rfl
theorem cells8 : Try.prog.cellsOf 5 = 1 := by kernel_rfl
theorem info8 : (Try.prog.info? 5).isSome = true := by kernel_rfl
theorem index_c (C : Nat → Nat) {k : Nat} (hk : k < 4) (W : World) : (Instr.index 73 (.agg (colA C)) (.int .i64 (k : Int))).run Try.prog W = .ok (.int .u8 ((C k : Nat) : Int)) W :=
  run_index_arr 73 5 4 _ k _ W Try.underlying73 plain8 cells8 info8 hk (colA_at C hk)
/-- what a column's loop has done: its cells, in the block that it was boxed into; the block of the result -/
def ColL (w : World) (gx gr : Nat) (f : Nat → Nat → Nat) (v : Value) (wr : World) : Prop :=
  ∃ k : Nat, v = .int .i64 (k : Int) ∧ k ≤ 4 ∧ Below w.heap.size w wr ∧ wr.heap[gx]? = some (.cells (colA (f k)) 73 (0, 0)) ∧ wr.heap[gr]? = some (.cells (zeros 4) 73 (0, 0))
theorem ColL.step {w wr : World} {gx gr k x : Nat} {f : Nat → Nat → Nat} (hk : k < 4) (hgx : w.heap.size ≤ gx) (hne : gr ≠ gx) (hb : Below w.heap.size w wr) (hx : wr.heap[gx]? = some (.cells (colA (f k)) 73 (0, 0)))
    (hr : wr.heap[gr]? = some (.cells (zeros 4) 73 (0, 0))) (hf : ∀ i, i < 4 → f (k + 1) i = if i = k then x else f k i) :
    ColL w gx gr f (.int .i64 ((k : Int) + 1)) (wr.setCell ⟨gx, k, none⟩ (.int .u8 (x : Int))) := by
  refine ⟨k + 1, rfl, by omega, hb.setCell hgx _, ?_, blk_far hr hne _⟩
  have := blk_set hx k (.int .u8 (x : Int))
  rw [colA_set _ _ hk] at this
  rw [colA_congr hf]
  exact this
set_option maxHeartbeats 1000000 in
theorem plus_any (C D : Nat → Nat) (hC : ∀ i, C i < 256) (hD : ∀ i, D i < 256) (w : World) :
    Calls Try.prog 43 #[.agg (colA C), .agg (colA D)] w fun e w' => e = .returned (.agg (colA fun i => C i ^^^ D i)) ∧ Below w.heap.size w w' := by
  have hz := zero_c
  have HC := Lib.hid hC
  have HD := Lib.hid hD
  have e1 : ∀ o, (w.alloc o).heap.size = w.heap.size + 1 := fun o => by simp
  have e2 : ∀ o o', ((w.alloc o).alloc o').heap.size = w.heap.size + 1 + 1 := fun o o' => by simp
  have b1 := blk_alloc (blk_alloc (heap_alloc_new w (.cells (colA C) 73)) (.cells (colA D) 73)) (.cells (zeros 4) 73)
  have b2 := heap_alloc_new (w.alloc (.cells (colA C) 73)) (.cells (colA D) 73)
  rw [e1] at b2
  have b2' := blk_alloc b2 (.cells (zeros 4) 73)
  have b3 := heap_alloc_new ((w.alloc (.cells (colA C) 73)).alloc (.cells (colA D) 73)) (.cells (zeros 4) 73)
  rw [e2] at b3
  have hb : Below w.heap.size w (((w.alloc (.cells (colA C) 73)).alloc (.cells (colA D) 73)).alloc (.cells (zeros 4) 73)) :=
    (((Below.refl _ _).alloc (Nat.le_refl _) _).alloc (by rw [e1]; omega) _).alloc (by rw [e2]; omega) _
  have H2 := Lib.hid b2'
  have H0 : Hid (ColL w w.heap.size (w.heap.size + 1 + 1) (fun k i => if i < k then C i ^^^ D i else C i) (.int .i64 0) (((w.alloc (.cells (colA C) 73)).alloc (.cells (colA D) 73)).alloc (.cells (zeros 4) 73))) :=
    Lib.hid ⟨0, rfl, by omega, hb, by simpa using b1, b3⟩
  clear hC hD e1 e2 b1 b2 b2' b3 hb
  go_enter Try.func43, Try.ntmps43
  go_wp2_with (with_reducible refine wpList_load_row rfl 73 (.tmp 3) rfl _ rfl 73 _ _ _ H2.out Try.underlying73 rfl (info_c _) ?_)
  generalize ((w.alloc (.cells (colA C) 73)).alloc (.cells (colA D) 73)).alloc (.cells (zeros 4) 73) = W at *
  clear hz H2
  go_loopw [8] (fun v wr => ColL w w.heap.size (w.heap.size + 1 + 1) (fun k i => if i < k then C i ^^^ D i else C i) v wr) (fun v _ => (4 - intOf v).toNat)
  case atStart => exact H0.out
  case round =>
    obtain ⟨k, rfl, hk, hb, hx, hr⟩ := hrel
    have HB := Lib.hid hb
    have HX := Lib.hid hx
    have HR := Lib.hid hr
    clear hb hx hr H0
    by_cases hlt : k < 4
    · have hi := fun W => index_c D hlt W
      have yc := HC.out k
      have yd := HD.out k
      have kc : wr.cell? ⟨w.heap.size, k, none⟩ = some (.int .u8 ((C k : Nat) : Int)) := (blk_cell HX.out k).trans ((colA_at _ hlt).trans (by simp))
      have kf := blk_free HX.out k
      have HN : Hid (ColL w w.heap.size (w.heap.size + 1 + 1) (fun k i => if i < k then C i ^^^ D i else C i) (.int .i64 ((k : Int) + 1)) (wr.setCell ⟨w.heap.size, k, none⟩ (.int .u8 (bits BinOp.xor IntKind.u8 ((C k : Nat) : Int) ((D k : Nat) : Int))))) :=
        Lib.hid (by
          rw [xor8 yc yd]
          refine ColL.step hlt (Nat.le_refl _) (by omega) HB.out HX.out HR.out fun i hi => ?_
          by_cases h : i = k
          · subst h; simp
          · by_cases h2 : i < k
            · rw [if_pos (by omega), if_neg h, if_pos h2]
            · rw [if_neg (by omega), if_neg h, if_neg h2])
      generalize C k = x at *
      generalize D k = y at *
      clear HB HX HR
      go_wp2
      go_roundw
      case rel => exact HN.out
      case measure => simp [intOf]; omega
    · obtain rfl : k = 4 := by omega
      have e : colA (fun i => if i < 4 then C i ^^^ D i else C i) = colA fun i => C i ^^^ D i := colA_congr fun i hi => by rw [if_pos hi]
      rw [e] at HX
      have HFX := Lib.hid (setRow_heap wr _ _ (colA fun i => C i ^^^ D i) _ _ HR.out)
      have HFB := Lib.hid (below_setRow (g := w.heap.size + 1 + 1) HB.out (by omega) (colA fun i => C i ^^^ D i))
      have HI := Lib.hid (info_c fun i => C i ^^^ D i)
      have HO := Lib.hid (one_col fun i => C i ^^^ D i)
      clear e HB
      go_wp2_with (first
        | (with_reducible refine wpList_load_row rfl 73 (.tmp 2) rfl _ rfl 73 _ _ _ HX.out Try.underlying73 rfl HI.out ?_)
        | (with_reducible refine wpList_store_row rfl 73 (.tmp 4) (.tmp 19) rfl _ _ rfl rfl 73 _ HR.out HI.out rfl HO.out ?_))
      exact bodyPost_ret (v := .agg (colA fun i => C i ^^^ D i)) (results_cell_row rfl _ _ _ 73 _ (0, 0) _ rfl HFX.out Try.underlying73 rfl HI.out) rfl ⟨rfl, HFB.out⟩
end Go.Proofs.Ythjpaligpojlnaa
