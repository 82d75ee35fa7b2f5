/-
  A cipher in memory; what a round needs; bytes as columns and back; the steps.
-/
import Derived.Test.YthjpaligpojlnaaAesF
import Derived.Test.YthjpaligpojlnaaCtrA
namespace Go.Proofs.Ythjpaligpojlnaa
open Go.RowKit Go
set_option linter.unusedVariables false
attribute [local irreducible] Gf.inv Gf.tm Gf.pw Gf.spread Gf.sub Gf.boxAt Gf.bk Gf.rm Gf.bit
/-- block g is a cipher of N rounds with the schedule ks -/
structure Cip (w : World) (g N : Nat) (ks : List Nat) : Prop where
  box : BoxC w g
  rounds : w.cell? ⟨g, 512, none⟩ = some (.int .i64 (N : Int))
  keys : ∀ j, j < 240 → w.cell? ⟨g, 513 + j, none⟩ = some (.int .u8 ((ks.getD j 0 : Nat) : Int))
  byte : ∀ j, ks.getD j 0 < 256
  some_ : 1 ≤ N ∧ N ≤ 14
section
variable {w w' : World} {g N : Nat} {ks : List Nat}
theorem Cip.lt (h : Cip w g N ks) : g < w.heap.size := h.box.1
theorem Cip.below {B : Nat} (h : Cip w g N ks) (hb : Below B w w') (hg : g < B) : Cip w' g N ks :=
  ⟨h.box.below hb hg, (hb.cell (p := ⟨g, 512, none⟩) hg).trans h.rounds, fun j hj => (hb.cell (p := ⟨g, 513 + j, none⟩) hg).trans (h.keys j hj), h.byte, h.some_⟩
theorem Cip.next (h : Cip w g N ks) (hb : Below w.heap.size w w') : Cip w' g N ks := h.below hb h.lt
theorem Cip.drew (h : Cip w g N ks) : Cip w.drew g N ks := ⟨h.box, h.rounds, h.keys, h.byte, h.some_⟩
theorem Cip.key (h : Cip w g N ks) {k : Nat} (hk : k ≤ 14) : KeyC w g (513 + k * 16) (Aes.rk ks k) :=
  ⟨h.lt, fun i hi => by
    have := h.keys (k * 16 + i) (by omega)
    rw [← Nat.add_assoc] at this
    rw [this]
    unfold Aes.rk
    rw [Nat.mul_comm], fun i => h.byte _⟩
end
abbrev zst : Array Value := rowV (fun _ => u8 0) 16
theorem zst_size (cs : Array Value) (h : cs.size = 16) : zst.size = cs.size := by rw [h]; exact rowV_size _ _
set_option maxHeartbeats 1000000 in
theorem round_any (g k : Nat) (hk : k ≤ 14) (w : World) :
    Calls Try.prog 86 #[.pointer (some ⟨g, 0, none⟩), .int .i64 (k : Int)] w fun e w' => e = .returned (rndV g g (513 + k * 16)) ∧ Below w.heap.size w w' := by
  have hk1 : (k : Int) < 15 := by omega
  have hx := heap_alloc_new w (.cells #[.pointer none, .pointer none] 152)
  have hb : Below w.heap.size w (w.alloc (.cells #[.pointer none, .pointer none] 152)) := (Below.refl _ _).alloc (Nat.le_refl _) _
  have c0 : (w.alloc (.cells #[.pointer none, .pointer none] 152)).cell? ⟨w.heap.size, 0, none⟩ = some (.pointer none) := blk_cell hx 0
  have c1 : (w.alloc (.cells #[.pointer none, .pointer none] 152)).cell? ⟨w.heap.size, 1, none⟩ = some (.pointer none) := blk_cell hx 1
  have f0 := blk_free hx 0
  have f1 := blk_free hx 1
  have HB := Lib.hid (fun (q : Nat) u v => (((⟨hb.os, hb.tape, hb.output, hb.size, hb.block⟩ : Below w.heap.size w ((w.alloc (.cells #[.pointer none, .pointer none] 152)).drewN q)).setCell (p := ⟨w.heap.size, 0, none⟩) (Nat.le_refl _) u).setCell (p := ⟨w.heap.size, 1, none⟩) (Nat.le_refl _) v))
  clear hb hx
  go_enter Try.func86, Try.ntmps86
  go_wp2
  go_region
  go_wp2
  exact bodyPost_ret (v := rndV g g (513 + k * 16)) (results_cell_row rfl _ _ _ 152 _ (0, 0) _ rfl (heap_alloc_new w _) Try.underlying152 rfl (by kernel_rfl)) rfl ⟨rfl, ((Below.refl _ _).alloc (Nat.le_refl _) _).drew⟩
theorem index16 (l : List Nat) {k : Nat} (hk : k < 16) (W : World) : (Instr.index 22 (.agg (rowV (bF l) 16)) (.int .i64 (k : Int))).run Try.prog W = .ok (.int .u8 ((l.getD k 0 : Nat) : Int)) W :=
  run_index_arr 22 5 16 _ k _ W Try.underlying22 plain8 cells8 info8 hk (rowV_at _ hk)
def ClRel (w : World) (g1 g2 g3 : Nat) (l : List Nat) (t : TypeId) (v : Value) (wr : World) : Prop :=
  ∃ k : Nat, v = .int .i64 (k : Int) ∧ k ≤ 16 ∧ Below w.heap.size w wr ∧ Row wr g1 t (bF l) 16 ∧ Row wr g3 75 (fun i => u8 (if i < k then l.getD i 0 else 0)) 16 ∧ Row wr g2 75 (fun _ => u8 0) 16
set_option maxHeartbeats 1000000 in
set_option maxRecDepth 100000 in
theorem columns_any (l : List Nat) (w : World) :
    Calls Try.prog 84 #[.agg (rowV (bF l) 16)] w fun e w' => e = .returned (.agg (rowV (bF l) 16)) ∧ Below w.heap.size w w' := by
  have hz := zero_st
  have e1 : ∀ o, (w.alloc o).heap.size = w.heap.size + 1 := fun o => by simp
  have e2 : ∀ o o', ((w.alloc o).alloc o').heap.size = w.heap.size + 1 + 1 := fun o o' => by simp
  have b1 := blk_alloc (blk_alloc (heap_alloc_new w (.cells (rowV (bF l) 16) 22)) (.cells (rowV (fun _ => u8 0) 16) 75)) (.cells (rowV (fun _ => u8 0) 16) 75)
  have b2 := heap_alloc_new (w.alloc (.cells (rowV (bF l) 16) 22)) (.cells (rowV (fun _ => u8 0) 16) 75)
  rw [e1] at b2
  have b2' := blk_alloc b2 (.cells (rowV (fun _ => u8 0) 16) 75)
  have b3 := heap_alloc_new ((w.alloc (.cells (rowV (bF l) 16) 22)).alloc (.cells (rowV (fun _ => u8 0) 16) 75)) (.cells (rowV (fun _ => u8 0) 16) 75)
  rw [e2] at b3
  have hb : Below w.heap.size w (((w.alloc (.cells (rowV (bF l) 16) 22)).alloc (.cells (rowV (fun _ => u8 0) 16) 75)).alloc (.cells (rowV (fun _ => u8 0) 16) 75)) :=
    (((Below.refl _ _).alloc (Nat.le_refl _) _).alloc (by rw [e1]; omega) _).alloc (by rw [e2]; omega) _
  have H1 := Lib.hid b1
  have H0 : Hid (ClRel w w.heap.size (w.heap.size + 1) (w.heap.size + 1 + 1) l 22 (.int .i64 0) (((w.alloc (.cells (rowV (bF l) 16) 22)).alloc (.cells (rowV (fun _ => u8 0) 16) 75)).alloc (.cells (rowV (fun _ => u8 0) 16) 75))) := Lib.hid
    ⟨0, rfl, by omega, hb, b1, Row.congr (show Row _ (w.heap.size + 1 + 1) 75 (fun _ => u8 0) 16 from b3) (fun i hi => by rw [if_neg (by omega)]), b2'⟩
  clear e1 e2 b1 b2 b2' b3 hb
  have HI := Lib.hid (info16 l)
  go_enter Try.func84, Try.ntmps84
  go_wp2_with (with_reducible refine wpList_load_row rfl 22 (.tmp 1) rfl _ rfl 22 _ _ _ H1.out Try.underlying22 rfl HI.out ?_)
  generalize ((w.alloc (.cells (rowV (bF l) 16) 22)).alloc (.cells (rowV (fun _ => u8 0) 16) 75)).alloc (.cells (rowV (fun _ => u8 0) 16) 75) = W at *
  clear hz H1
  go_loopw [7] (fun v wr => ClRel w w.heap.size (w.heap.size + 1) (w.heap.size + 1 + 1) l 22 v wr) (fun v _ => (16 - intOf v).toNat)
  case atStart => exact H0.out
  case round =>
    obtain ⟨k, rfl, hk, hb, h1, h3, h2⟩ := hrel
    have HB := Lib.hid hb
    have H1 := Lib.hid h1
    have H2 := Lib.hid h2
    have H3 := Lib.hid h3
    clear hb h1 h2 h3 H0
    by_cases hlt : k < 16
    · have hi := fun W => index16 l hlt W
      obtain ⟨c, hc⟩ : ∃ c, c = k / 4 := ⟨_, rfl⟩
      obtain ⟨r, hr⟩ : ∃ r, r = k % 4 := ⟨_, rfl⟩
      have hkr : k = c * 4 + r := by omega
      have hc4 : c < 4 := by omega
      have hr4 : r < 4 := by omega
      have q1 : (k : Int) / 4 = (c : Int) := by omega
      have q2 : (k : Int) % 4 = (r : Int) := by omega
      have k1 : wr.cell? ⟨w.heap.size + 1 + 1, c * 4 + r, none⟩ = some (.int .u8 ((0 : Nat) : Int)) := by
        rw [← hkr]
        exact (H3.out.cell hlt).trans (by rw [if_neg (by omega)]; rfl)
      have k2 : wr.frozen? ⟨w.heap.size + 1 + 1, c * 4 + r, none⟩ = false := H3.out.free _
      have HN : Hid (ClRel w w.heap.size (w.heap.size + 1) (w.heap.size + 1 + 1) l 22 (.int .i64 ((k : Int) + 1)) (wr.setCell ⟨w.heap.size + 1 + 1, c * 4 + r, none⟩ (.int .u8 ((l.getD k 0 : Nat) : Int)))) := Lib.hid (by
        rw [← hkr]
        refine ⟨k + 1, rfl, by omega, HB.out.setCell (by show w.heap.size ≤ w.heap.size + 1 + 1; omega) _, Row.far H1.out (by show w.heap.size ≠ w.heap.size + 1 + 1; omega) _, Row.congr (Row.set_ H3.out k _) (fun i hi => ?_), Row.far H2.out (by show w.heap.size + 1 ≠ w.heap.size + 1 + 1; omega) _⟩
        by_cases e : i = k
        · subst e; rw [if_pos rfl, if_pos (by omega)]; rfl
        · rw [if_neg e]
          by_cases h : i < k
          · rw [if_pos h, if_pos (by omega)]
          · rw [if_neg h, if_neg (by omega)])
      generalize l.getD k 0 = x at *
      clear HB H1 H2 H3 hc hr hkr
      go_wp2
      go_roundw
      case rel => exact HN.out
      case measure => simp [intOf]; omega
    · obtain rfl : k = 16 := by omega
      have h3' : Row wr (w.heap.size + 1 + 1) 75 (bF l) 16 := Row.congr H3.out fun i hi => by rw [if_pos hi]; rfl
      have C3 : Hid (wr.heap[w.heap.size + 1 + 1]? = some (.cells (rowV (bF l) 16) 75 (0, 0))) := Lib.hid h3'
      have C2 : Hid (wr.heap[w.heap.size + 1]? = some (.cells zst 75 (0, 0))) := Lib.hid H2.out
      have HFX := Lib.hid (setRow_heap wr _ _ (rowV (bF l) 16) _ _ C2.out)
      have HFB := Lib.hid (below_setRow (g := w.heap.size + 1) HB.out (by omega) (rowV (bF l) 16))
      have HI2 := Lib.hid (info_st fun i => l.getD i 0)
      have HO := Lib.hid (one_row l 16)
      have HZ : Hid (zst.size = (rowV (bF l) 16).size) := Lib.hid (zst_size _ (rowV_size _ _))
      have HI3 : Hid ((Try.prog.info? 75).map (·.size) = some (rowV (bF l) 16).size) := Lib.hid HI2.out
      clear h3' H1 H2 H3 HB HI2
      obtain ⟨dm, hdm⟩ : ∃ dm, dm = rowV (bF l) 16 := ⟨_, rfl⟩
      rw [← hdm] at C3 HFX HFB HI3 HO HZ
      have HDM := Lib.hid hdm
      clear hdm
      go_wp2_with (first
        | (with_reducible refine wpList_load_row rfl 75 (.tmp 3) rfl _ rfl 75 _ _ _ C3.out Try.underlying75 rfl HI3.out ?_)
        | (with_reducible refine wpList_store_row rfl 75 (.tmp 2) (.tmp 19) rfl _ _ rfl rfl 75 _ C2.out HI3.out HZ.out HO.out ?_))
      exact bodyPost_ret (v := .agg dm) (results_cell_row rfl _ _ _ 75 _ (0, 0) _ rfl HFX.out Try.underlying75 rfl HI3.out) rfl ⟨by rw [HDM.out], HFB.out⟩
def ByRel (w : World) (g1 g2 g3 : Nat) (l : List Nat) (v : Value) (wr : World) : Prop :=
  ∃ k : Nat, v = .int .i64 (k : Int) ∧ k ≤ 16 ∧ Below w.heap.size w wr ∧ Row wr g1 75 (bF l) 16 ∧ Row wr g3 22 (fun i => u8 (if i < k then l.getD i 0 else 0)) 16 ∧ Row wr g2 22 (bF z16) 16
set_option maxHeartbeats 1000000 in
set_option maxRecDepth 100000 in
theorem bytes_any (l : List Nat) (w : World) :
    Calls Try.prog 91 #[.agg (rowV (bF l) 16)] w fun e w' => e = .returned (.agg (rowV (bF l) 16)) ∧ Below w.heap.size w w' := by
  have hz := zero16
  have e1 : ∀ o, (w.alloc o).heap.size = w.heap.size + 1 := fun o => by simp
  have e2 : ∀ o o', ((w.alloc o).alloc o').heap.size = w.heap.size + 1 + 1 := fun o o' => by simp
  have b1 := blk_alloc (blk_alloc (heap_alloc_new w (.cells (rowV (bF l) 16) 75)) (.cells (rowV (bF z16) 16) 22)) (.cells (rowV (bF z16) 16) 22)
  have b2 := heap_alloc_new (w.alloc (.cells (rowV (bF l) 16) 75)) (.cells (rowV (bF z16) 16) 22)
  rw [e1] at b2
  have b2' := blk_alloc b2 (.cells (rowV (bF z16) 16) 22)
  have b3 := heap_alloc_new ((w.alloc (.cells (rowV (bF l) 16) 75)).alloc (.cells (rowV (bF z16) 16) 22)) (.cells (rowV (bF z16) 16) 22)
  rw [e2] at b3
  have hb : Below w.heap.size w (((w.alloc (.cells (rowV (bF l) 16) 75)).alloc (.cells (rowV (bF z16) 16) 22)).alloc (.cells (rowV (bF z16) 16) 22)) :=
    (((Below.refl _ _).alloc (Nat.le_refl _) _).alloc (by rw [e1]; omega) _).alloc (by rw [e2]; omega) _
  have H0 : Hid (ByRel w w.heap.size (w.heap.size + 1) (w.heap.size + 1 + 1) l (.int .i64 0) (((w.alloc (.cells (rowV (bF l) 16) 75)).alloc (.cells (rowV (bF z16) 16) 22)).alloc (.cells (rowV (bF z16) 16) 22))) := Lib.hid
    ⟨0, rfl, by omega, hb, b1, Row.congr (show Row _ (w.heap.size + 1 + 1) 22 (bF z16) 16 from b3) (fun i hi => by
      rw [if_neg (by omega)]
      unfold bF z16
      rw [List.getD_eq_getElem?_getD, List.getElem?_replicate, if_pos hi]; rfl), b2'⟩
  clear e1 e2 b1 b2 b2' b3 hb
  go_enter Try.func91, Try.ntmps91
  go_wp2
  generalize ((w.alloc (.cells (rowV (bF l) 16) 75)).alloc (.cells (rowV (bF z16) 16) 22)).alloc (.cells (rowV (bF z16) 16) 22) = W at *
  clear hz
  go_loopw [5] (fun v wr => ByRel w w.heap.size (w.heap.size + 1) (w.heap.size + 1 + 1) l v wr) (fun v _ => (16 - intOf v).toNat)
  case atStart => exact H0.out
  case round =>
    obtain ⟨k, rfl, hk, hb, h1, h3, h2⟩ := hrel
    have HB := Lib.hid hb
    have H1 := Lib.hid h1
    have H2 := Lib.hid h2
    have H3 := Lib.hid h3
    clear hb h1 h2 h3 H0
    by_cases hlt : k < 16
    · obtain ⟨c, hc⟩ : ∃ c, c = k / 4 := ⟨_, rfl⟩
      obtain ⟨r, hr⟩ : ∃ r, r = k % 4 := ⟨_, rfl⟩
      have hkr : k = c * 4 + r := by omega
      have hc4 : c < 4 := by omega
      have hr4 : r < 4 := by omega
      have q1 : (k : Int) / 4 = (c : Int) := by omega
      have q2 : (k : Int) % 4 = (r : Int) := by omega
      have k0 : wr.cell? ⟨w.heap.size, c * 4 + r, none⟩ = some (.int .u8 ((l.getD k 0 : Nat) : Int)) := by
        rw [← hkr]
        exact H1.out.cell hlt
      have k1 : wr.cell? ⟨w.heap.size + 1 + 1, k, none⟩ = some (.int .u8 ((0 : Nat) : Int)) := (H3.out.cell hlt).trans (by rw [if_neg (by omega)]; rfl)
      have k2 : wr.frozen? ⟨w.heap.size + 1 + 1, k, none⟩ = false := H3.out.free _
      have HN : Hid (ByRel w w.heap.size (w.heap.size + 1) (w.heap.size + 1 + 1) l (.int .i64 ((k : Int) + 1)) (wr.setCell ⟨w.heap.size + 1 + 1, k, none⟩ (.int .u8 ((l.getD k 0 : Nat) : Int)))) := Lib.hid (by
        refine ⟨k + 1, rfl, by omega, HB.out.setCell (by show w.heap.size ≤ w.heap.size + 1 + 1; omega) _, Row.far H1.out (by show w.heap.size ≠ w.heap.size + 1 + 1; omega) _, Row.congr (Row.set_ H3.out k _) (fun i hi => ?_), Row.far H2.out (by show w.heap.size + 1 ≠ w.heap.size + 1 + 1; omega) _⟩
        by_cases e : i = k
        · subst e; rw [if_pos rfl, if_pos (by omega)]; rfl
        · rw [if_neg e]
          by_cases h : i < k
          · rw [if_pos h, if_pos (by omega)]
          · rw [if_neg h, if_neg (by omega)])
      generalize l.getD k 0 = x at *
      clear HB H1 H2 H3 hc hr hkr
      go_wp2
      go_roundw
      case rel => exact HN.out
      case measure => simp [intOf]; omega
    · obtain rfl : k = 16 := by omega
      have h3' : Row wr (w.heap.size + 1 + 1) 22 (bF l) 16 := Row.congr H3.out fun i hi => by rw [if_pos hi]; rfl
      have C3 : Hid (wr.heap[w.heap.size + 1 + 1]? = some (.cells (rowV (bF l) 16) 22 (0, 0))) := Lib.hid h3'
      have C2 : Hid (wr.heap[w.heap.size + 1]? = some (.cells (rowV (bF z16) 16) 22 (0, 0))) := Lib.hid H2.out
      have HFX := Lib.hid (setRow_heap wr _ _ (rowV (bF l) 16) _ _ C2.out)
      have HFB := Lib.hid (below_setRow (g := w.heap.size + 1) HB.out (by omega) (rowV (bF l) 16))
      have HO := Lib.hid (one_row l 16)
      have HZ : Hid ((rowV (bF z16) 16).size = (rowV (bF l) 16).size) := Lib.hid (by rw [rowV_size, rowV_size])
      have HI3 := Lib.hid (info16 l)
      clear h3' H1 H2 H3 HB
      obtain ⟨dm, hdm⟩ : ∃ dm, dm = rowV (bF l) 16 := ⟨_, rfl⟩
      rw [← hdm] at C3 HFX HFB HI3 HO HZ
      have HDM := Lib.hid hdm
      clear hdm
      go_wp2_with (first
        | (with_reducible refine wpList_load_row rfl 22 (.tmp 3) rfl _ rfl 22 _ _ _ C3.out Try.underlying22 rfl HI3.out ?_)
        | (with_reducible refine wpList_store_row rfl 22 (.tmp 2) (.tmp 18) rfl _ _ rfl rfl 22 _ C2.out HI3.out HZ.out HO.out ?_))
      exact bodyPost_ret (v := .agg dm) (results_cell_row rfl _ _ _ 22 _ (0, 0) _ rfl HFX.out Try.underlying22 rfl HI3.out) rfl ⟨by rw [HDM.out], HFB.out⟩
end Go.Proofs.Ythjpaligpojlnaa
