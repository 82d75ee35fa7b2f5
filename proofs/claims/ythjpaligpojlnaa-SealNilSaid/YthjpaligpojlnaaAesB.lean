/-
  Columns: turned, through the box and back.
-/
import Derived.Test.YthjpaligpojlnaaAesA
namespace Go.Proofs.Ythjpaligpojlnaa
open Go.RowKit Go
set_option linter.unusedVariables false
attribute [local irreducible] Gf.inv Gf.tm Gf.pw Gf.spread Gf.sub Gf.boxAt Gf.bk Gf.rm Gf.bit
set_option maxHeartbeats 1000000 in
theorem through_sub (g : Nat) (C : Nat → Nat) (hC : ∀ i, C i < 256) (w : World) (hbx : BoxC w g) :
    Calls Try.prog 68 #[.agg (colA C), .func (Fn.func 69) #[.pointer (some ⟨g, 0, none⟩)] #[]] w fun e w' => e = .returned (.agg (colA fun i => Gf.sub (C i))) ∧ Below w.heap.size w w' := by
  have hz := zero_c
  have HC := Lib.hid hC
  have HBX := Lib.hid hbx
  have e1 : ∀ o, (w.alloc o).heap.size = w.heap.size + 1 := fun o => by simp
  have b1 := blk_alloc (heap_alloc_new w (.cells (colA C) 73)) (.cells (zeros 4) 73)
  have b2 := heap_alloc_new (w.alloc (.cells (colA C) 73)) (.cells (zeros 4) 73)
  rw [e1] at b2
  have hb : Below w.heap.size w ((w.alloc (.cells (colA C) 73)).alloc (.cells (zeros 4) 73)) :=
    ((Below.refl _ _).alloc (Nat.le_refl _) _).alloc (by rw [e1]; omega) _
  have H1 := Lib.hid b1
  have H0 : Hid (ColL w w.heap.size (w.heap.size + 1) (fun k i => if i < k then Gf.sub (C i) else C i) (.int .i64 0) ((w.alloc (.cells (colA C) 73)).alloc (.cells (zeros 4) 73))) :=
    Lib.hid ⟨0, rfl, by omega, hb, by simpa using b1, b2⟩
  clear hC e1 b1 b2 hb hbx
  go_enter Try.func68, Try.ntmps68
  go_wp2_with (with_reducible refine wpList_load_row rfl 73 (.tmp 2) rfl _ rfl 73 _ _ _ H1.out Try.underlying73 rfl (info_c _) ?_)
  generalize (w.alloc (.cells (colA C) 73)).alloc (.cells (zeros 4) 73) = W at *
  clear hz H1
  go_loopw [8] (fun v wr => ColL w w.heap.size (w.heap.size + 1) (fun k i => if i < k then Gf.sub (C i) else C i) v wr) (fun v _ => (4 - intOf v).toNat)
  case atStart => exact H0.out
  case round =>
    obtain ⟨k, rfl, hk, hb, hx, hr⟩ := hrel
    have HB := Lib.hid hb
    have HX := Lib.hid hx
    have HR := Lib.hid hr
    clear hb hx hr H0
    by_cases hlt : k < 4
    · have hi := fun W => index_c C hlt W
      have yc := HC.out k
      have kc : wr.cell? ⟨w.heap.size, k, none⟩ = some (.int .u8 ((C k : Nat) : Int)) := (blk_cell HX.out k).trans ((colA_at _ hlt).trans (by simp))
      have kf := blk_free HX.out k
      have HN : Hid (ColL w w.heap.size (w.heap.size + 1) (fun k i => if i < k then Gf.sub (C i) else C i) (.int .i64 ((k : Int) + 1)) (wr.setCell ⟨w.heap.size, k, none⟩ (.int .u8 ((Gf.sub (C k) : Nat) : Int)))) :=
        Lib.hid (by
          refine ColL.step hlt (Nat.le_refl _) (by omega) HB.out HX.out HR.out fun i hi => ?_
          by_cases h : i = k
          · subst h; simp
          · by_cases h2 : i < k
            · rw [if_pos (by omega), if_neg h, if_pos h2]
            · rw [if_neg (by omega), if_neg h, if_neg h2])
      have HCA := Lib.hid (fun W h => subC g (C k) yc W h)
      have HBW := Lib.hid (HBX.out.next HB.out)
      generalize C k = x at *
      clear HB HX HR
      go_wp2_with fail
      refine (HCA.out _ HBW.out).mono ?_
      rintro e w2 ⟨rfl, rfl⟩
      generalize Gf.sub x = y at *
      go_wp2
      go_roundw
      case rel => exact HN.out
      case measure => simp [intOf]; omega
    · obtain rfl : k = 4 := by omega
      have e : colA (fun i => if i < 4 then Gf.sub (C i) else C i) = colA fun i => Gf.sub (C i) := colA_congr fun i hi => by rw [if_pos hi]
      rw [e] at HX
      have HFX := Lib.hid (setRow_heap wr _ _ (colA fun i => Gf.sub (C i)) _ _ HR.out)
      have HFB := Lib.hid (below_setRow (g := w.heap.size + 1) HB.out (by omega) (colA fun i => Gf.sub (C i)))
      have HI := Lib.hid (info_c fun i => Gf.sub (C i))
      have HO := Lib.hid (one_col fun i => Gf.sub (C i))
      clear e HB
      go_wp2_with (first
        | (with_reducible refine wpList_load_row rfl 73 (.tmp 2) rfl _ rfl 73 _ _ _ HX.out Try.underlying73 rfl HI.out ?_)
        | (with_reducible refine wpList_store_row rfl 73 (.tmp 4) (.tmp 18) rfl _ _ rfl rfl 73 _ HR.out HI.out rfl HO.out ?_))
      exact bodyPost_ret (v := .agg (colA fun i => Gf.sub (C i))) (results_cell_row rfl _ _ _ 73 _ (0, 0) _ rfl HFX.out Try.underlying73 rfl HI.out) rfl ⟨rfl, HFB.out⟩
def turnF (C : Nat → Nat) (i : Nat) : Nat := C ((i + 1) % 4)
abbrev l4 (a b c d : Nat) : Array Value := #[.int .u8 (a : Int), .int .u8 (b : Int), .int .u8 (c : Int), .int .u8 (d : Int)]
theorem turn_l4 (C : Nat → Nat) : colA (turnF C) = l4 (C 1) (C 2) (C 3) (C 0) := rfl
theorem info_l4 (a b c d : Nat) : (Try.prog.info? 73).map (·.size) = some (l4 a b c d).size := by kernel_rfl
theorem one_l4 (a b c d : Nat) : (l4 a b c d).all (·.oneCell') = true := by simp [l4, Value.oneCell']
set_option maxHeartbeats 1000000 in
set_option maxRecDepth 100000 in
theorem turned_any (C : Nat → Nat) (w : World) :
    Calls Try.prog 67 #[.agg (colA C)] w fun e w' => e = .returned (.agg (colA (turnF C))) ∧ Below w.heap.size w w' := by
  have hz := zero_c
  have e1 : ∀ o, (w.alloc o).heap.size = w.heap.size + 1 := fun o => by simp
  have b1 := blk_alloc (heap_alloc_new w (.cells (colA C) 73)) (.cells (zeros 4) 73)
  have b2 := heap_alloc_new (w.alloc (.cells (colA C) 73)) (.cells (zeros 4) 73)
  rw [e1] at b2
  have hb : Below w.heap.size w ((w.alloc (.cells (colA C) 73)).alloc (.cells (zeros 4) 73)) :=
    ((Below.refl _ _).alloc (Nat.le_refl _) _).alloc (by rw [e1]; omega) _
  have k0 := (blk_cell b1 0).trans (colA_at C (i := 0) (by omega))
  have k1 := (blk_cell b1 1).trans (colA_at C (i := 1) (by omega))
  have k2 := (blk_cell b1 2).trans (colA_at C (i := 2) (by omega))
  have k3 := (blk_cell b1 3).trans (colA_at C (i := 3) (by omega))
  have HR := Lib.hid b2
  have HFX := Lib.hid (setRow_heap _ _ _ (colA (turnF C)) _ _ b2)
  have HFB := Lib.hid (below_setRow (g := w.heap.size + 1) hb (by omega) (colA (turnF C)))
  rw [turn_l4] at HFX HFB ⊢
  have HI := Lib.hid (info_l4 (C 1) (C 2) (C 3) (C 0))
  have HO := Lib.hid (one_l4 (C 1) (C 2) (C 3) (C 0))
  clear e1 b1 b2 hb
  generalize colA C = cc at *
  generalize C 0 = c0 at *
  generalize C 1 = c1 at *
  generalize C 2 = c2 at *
  generalize C 3 = c3 at *
  go_enter Try.func67, Try.ntmps67
  go_wp2_with (with_reducible refine wpList_store_row rfl 73 (.tmp 2) (.tmp 11) rfl _ _ rfl rfl 73 _ HR.out HI.out rfl HO.out ?_)
  exact bodyPost_ret (v := .agg (l4 c1 c2 c3 c0)) (results_cell_row rfl _ _ _ 73 _ (0, 0) _ rfl HFX.out Try.underlying73 rfl HI.out) rfl ⟨rfl, HFB.out⟩
end Go.Proofs.Ythjpaligpojlnaa
