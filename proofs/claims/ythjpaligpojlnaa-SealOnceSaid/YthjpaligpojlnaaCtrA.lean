/-
  The counter of an epoch, a block and a lane.
-/
import Derived.Test.YthjpaligpojlnaaByt
import Derived.Laws.Rows
namespace Go.Proofs.Ythjpaligpojlnaa
open Go.RowKit Go
set_option linter.unusedVariables false
def ctrL (e b l : Nat) : List Nat := (putL 8 e).reverse ++ ((putL 4 b).reverse ++ ((putL 2 l).reverse ++ [0, 0]))
def z16 : List Nat := List.replicate 16 0
theorem z16_len : z16.length = 16 := by simp [z16]
theorem zero16 (w : World) : (zeroValue 22).run Try.prog w = .ok (.agg (rowV (bF z16) 16)) w := by kernel_rfl
theorem info16 (l : List Nat) : (Try.prog.info? 22).map (·.size) = some (rowV (bF l) 16).size := by rw [rowV_size]; kernel_rfl
theorem high_n (n v : Nat) (h1 : 1 ≤ n) (h8 : n ≤ 8) (hv : v < 2 ^ 64) (w : World) :
    Calls Try.prog 92 #[.int .i64 (n : Int), .int .u64 (v : Int)] w fun e w' => ∃ A c, e = .returned (.slice A n c) ∧ Below w.heap.size w w' ∧ BS w' w'.heap.size A n c (putL n v).reverse :=
  (high_yes n v h1 h8 hv w).mono fun e w' h => by
    obtain ⟨A, c, he, hb, hbs⟩ := h
    have hl : (putL n v).reverse.length = n := by rw [List.length_reverse, putL_len]
    rw [hl] at he hbs
    exact ⟨A, c, he, hb, hbs⟩
theorem highN8 (v : Nat) (hv : v < 2 ^ 64) (w : World) :
    Calls Try.prog 92 #[.int .i64 8, .int .u64 (v : Int)] w fun e w' => ∃ A c, e = .returned (.slice A 8 c) ∧ Below w.heap.size w w' ∧ BS w' w'.heap.size A 8 c (putL 8 v).reverse :=
  high_n 8 v (by omega) (by omega) hv w
theorem highN4 (v : Nat) (hv : v < 2 ^ 64) (w : World) :
    Calls Try.prog 92 #[.int .i64 4, .int .u64 (v : Int)] w fun e w' => ∃ A c, e = .returned (.slice A 4 c) ∧ Below w.heap.size w w' ∧ BS w' w'.heap.size A 4 c (putL 4 v).reverse :=
  high_n 4 v (by omega) (by omega) hv w
theorem highN2 (v : Nat) (hv : v < 2 ^ 64) (w : World) :
    Calls Try.prog 92 #[.int .i64 2, .int .u64 (v : Int)] w fun e w' => ∃ A c, e = .returned (.slice A 2 c) ∧ Below w.heap.size w w' ∧ BS w' w'.heap.size A 2 c (putL 2 v).reverse :=
  high_n 2 v (by omega) (by omega) hv w
theorem splB_behind (x z : List Nat) (n : Nat) {a : Nat} (h : x.length = a) : splB (x ++ List.replicate n 0) a z = (x ++ z) ++ List.replicate (n - z.length) 0 := by
  unfold splB
  rw [List.take_left' h, List.drop_append, List.drop_eq_nil_of_le (by omega), List.drop_replicate, h, List.nil_append, List.append_assoc, show a + z.length - a = z.length by omega]
theorem ctr_end (e b l : Nat) : splB (splB (splB z16 0 (putL 8 e).reverse) 8 (putL 4 b).reverse) 12 (putL 2 l).reverse = ctrL e b l := by
  have h8 : (putL 8 e).reverse.length = 8 := by rw [List.length_reverse, putL_len]
  have h4 : (putL 4 b).reverse.length = 4 := by rw [List.length_reverse, putL_len]
  have h2 : (putL 2 l).reverse.length = 2 := by rw [List.length_reverse, putL_len]
  unfold ctrL
  generalize (putL 8 e).reverse = x at *
  generalize (putL 4 b).reverse = y at *
  generalize (putL 2 l).reverse = z at *
  rw [show z16 = [] ++ List.replicate 16 0 from rfl, splB_behind (a := 0) [] x 16 rfl, splB_behind ([] ++ x) y (16 - x.length) (by simp [h8]), splB_behind (([] ++ x) ++ y) z (16 - x.length - y.length) (by simp [h8, h4])]
  simp [h8, h4, h2]
set_option maxHeartbeats 2000000 in
set_option maxRecDepth 100000 in
theorem counter_any (e b l : Nat) (he : e < 2 ^ 64) (hb : b < 4294967296) (hl : l < 65536) (w : World) :
    Calls Try.prog 82 #[.int .u64 (e : Int), .int .u32 (b : Int), .int .u16 (l : Int)] w fun en w' => en = .returned (.agg (rowV (bF (ctrL e b l)) 16)) ∧ Below w.heap.size w w' := by
  have hz := zero16
  have H8 := Lib.hid (fun W => highN8 e he W)
  have H4 := Lib.hid (fun W => highN4 b (by omega) W)
  have H2 := Lib.hid (fun W => highN2 l (by omega) W)
  have b1 := blk_alloc (heap_alloc_new w (.cells (rowV (bF z16) 16) 22)) (.cells (rowV (bF z16) 16) 22)
  have b2 := heap_alloc_new (w.alloc (.cells (rowV (bF z16) 16) 22)) (.cells (rowV (bF z16) 16) 22)
  have e1 : ∀ o, (w.alloc o).heap.size = w.heap.size + 1 := fun o => by simp
  rw [e1] at b2
  have hb0 : Below w.heap.size w ((w.alloc (.cells (rowV (bF z16) 16) 22)).alloc (.cells (rowV (bF z16) 16) 22)) := ((Below.refl _ _).alloc (Nat.le_refl _) _).alloc (by rw [e1]; omega) _
  have B1 := Lib.hid b1
  have B2 : Hid (Row _ (w.heap.size + 1) 22 (bF z16) 16) := Lib.hid b2
  have HB0 := Lib.hid hb0
  clear b1 b2 hb0 e1
  go_enter Try.func82, Try.ntmps82
  go_wp2
  generalize ((w.alloc (.cells (rowV (bF z16) 16) 22)).alloc (.cells (rowV (bF z16) 16) 22)) = W at *
  have BK1 := HB0
  have q1 : IntKind.u64.wrap (b : Int) = (b : Int) := IntWalk.u64_in _ (by omega)
  have q2 : IntKind.u64.wrap (l : Int) = (l : Int) := IntWalk.u64_in _ (by omega)
  have BB1 := B1
  have R1 := B2
  have HL1 := Lib.hid z16_len
  clear HB0 B1 B2
  go_region_law (first
    | (with_reducible refine step_row_copy W.drew _ rfl (.tmp 8) (.tmp 10) rfl (w.heap.size + 1) 0 16 8 16 8 _ _ z16 _ HL1.out R1.out.drew hb5 A5 hbs5 (by omega) (by omega) rfl rfl ?_; intro w1 hr4 hb4)
    | (go_simp; go_at_call 92; (with_reducible refine (H8.out _).mono ?_); rintro e w5 ⟨A5, c5, rfl, hb5, hbs5⟩))
  have hbk : Below (w.heap.size + 1) W w1 := ⟨hb4.os, hb4.tape, hb4.output, hb4.size, hb4.block⟩
  have BK2 : Hid (Below w.heap.size w w1) := Lib.hid (BK1.out.trans (hbk.mono (by omega)))
  have BB2 : Hid (w1.heap[w.heap.size]? = some (.cells (rowV (bF z16) 16) 22 (0, 0))) := Lib.hid ((hbk.block w.heap.size (by omega)).trans BB1.out)
  have R2 := Lib.hid hr4
  have HL2 : Hid ((splB z16 0 (putL 8 e).reverse).length = 16) := Lib.hid (by rw [splB_len (by rw [HL1.out, List.length_reverse, putL_len]; omega), HL1.out])
  clear hbk hr4 hb4 hb5 hbs5 R1 BK1 BB1
  go_wp2
  go_region_law (first
    | (with_reducible refine step_row_copy w1.drew _ rfl (.tmp 12) (.tmp 15) rfl (w.heap.size + 1) 8 16 4 8 4 _ _ (splB z16 0 (putL 8 e).reverse) _ HL2.out R2.out.drew hb5 A5 hbs5 (by omega) (by omega) rfl rfl ?_; intro w2 hr4 hb4)
    | (go_simp; go_at_call 92; (with_reducible refine (H4.out _).mono ?_); rintro e w5 ⟨A5, c5, rfl, hb5, hbs5⟩))
  have hbk : Below (w.heap.size + 1) w1 w2 := ⟨hb4.os, hb4.tape, hb4.output, hb4.size, hb4.block⟩
  have BK3 : Hid (Below w.heap.size w w2) := Lib.hid (BK2.out.trans (hbk.mono (by omega)))
  have BB3 : Hid (w2.heap[w.heap.size]? = some (.cells (rowV (bF z16) 16) 22 (0, 0))) := Lib.hid ((hbk.block w.heap.size (by omega)).trans BB2.out)
  have R3 := Lib.hid hr4
  have HL3 : Hid ((splB (splB z16 0 (putL 8 e).reverse) 8 (putL 4 b).reverse).length = 16) := Lib.hid (by rw [splB_len (by rw [HL2.out, List.length_reverse, putL_len]; omega), HL2.out])
  clear hbk hr4 hb4 hb5 hbs5 R2 BK2 BB2
  go_wp2
  go_region_law (first
    | (with_reducible refine step_row_copy w2.drew _ rfl (.tmp 17) (.tmp 20) rfl (w.heap.size + 1) 12 16 2 4 2 _ _ (splB (splB z16 0 (putL 8 e).reverse) 8 (putL 4 b).reverse) _ HL3.out R3.out.drew hb5 A5 hbs5 (by omega) (by omega) rfl rfl ?_; intro w3 hr4 hb4)
    | (go_simp; go_at_call 92; (with_reducible refine (H2.out _).mono ?_); rintro e w5 ⟨A5, c5, rfl, hb5, hbs5⟩))
  have hbk : Below (w.heap.size + 1) w2 w3 := ⟨hb4.os, hb4.tape, hb4.output, hb4.size, hb4.block⟩
  have BK4 : Hid (Below w.heap.size w w3) := Lib.hid (BK3.out.trans (hbk.mono (by omega)))
  have BB4 : Hid (w3.heap[w.heap.size]? = some (.cells (rowV (bF z16) 16) 22 (0, 0))) := Lib.hid ((hbk.block w.heap.size (by omega)).trans BB3.out)
  have R4 := Lib.hid hr4
  have HL4 : Hid ((splB (splB (splB z16 0 (putL 8 e).reverse) 8 (putL 4 b).reverse) 12 (putL 2 l).reverse).length = 16) := Lib.hid (by rw [splB_len (by rw [HL3.out, List.length_reverse, putL_len]; omega), HL3.out])
  clear hbk hr4 hb4 hb5 hbs5 R3 BK3 BB3
  rw [ctr_end] at R4
  have C4 : Hid (w3.heap[w.heap.size + 1]? = some (.cells (rowV (bF (ctrL e b l)) 16) 22 (0, 0))) := R4
  have HI := Lib.hid (info16 (ctrL e b l))
  have HO := Lib.hid (one_row (ctrL e b l) 16)
  have HZ : Hid ((rowV (bF z16) 16).size = (rowV (bF (ctrL e b l)) 16).size) := Lib.hid (by rw [rowV_size, rowV_size])
  have HFX := Lib.hid (setRow_heap w3 _ _ (rowV (bF (ctrL e b l)) 16) _ _ BB4.out)
  have HFB := Lib.hid (below_setRow (g := w.heap.size) BK4.out (Nat.le_refl _) (rowV (bF (ctrL e b l)) 16))
  obtain ⟨dm, hdm⟩ : ∃ dm, dm = rowV (bF (ctrL e b l)) 16 := ⟨_, rfl⟩
  rw [← hdm] at C4 HI HO HZ HFX HFB
  have HDM := Lib.hid hdm
  clear hdm q1 q2 R4 HL4 HL3 HL2 HL1 H8 H4 H2
  go_wp2_with (first
    | (with_reducible refine wpList_load_row rfl 22 (.tmp 7) rfl _ rfl 22 _ _ _ C4.out Try.underlying22 rfl HI.out ?_)
    | (with_reducible refine wpList_store_row rfl 22 (.tmp 6) (.tmp 22) rfl _ _ rfl rfl 22 _ BB4.out HI.out HZ.out HO.out ?_))
  exact bodyPost_ret (v := .agg dm) (results_cell_row rfl _ _ _ 22 _ (0, 0) _ rfl HFX.out Try.underlying22 rfl HI.out) rfl ⟨by rw [HDM.out], HFB.out⟩
end Go.Proofs.Ythjpaligpojlnaa
