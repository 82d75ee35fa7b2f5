/-
  logf: LogfApart's walk.
-/
import Derived.Test.YtojedpmahoacoaaLgQ
namespace Go.Proofs.Ytojedpmahoacoaa
open Go.RowKit Go
set_option linter.unusedVariables false
set_option linter.unusedSimpArgs false
set_option maxRecDepth 100000
set_option maxHeartbeats 8000000 in
theorem logfApart_any (p t : Int) (ca : Nat) (A : Option Addr) (n c : Nat) (ea : List (Int × List Nat)) (cb : Nat) (A' : Option Addr) (n' c' : Nat) (eb : List (Int × List Nat)) (w : World) (hca : ca < 2 ^ 64) (hcb : cb < 2 ^ 64) (hv : EsV w A n ea) (hz : EsZ w A n) (hn : n ≤ 9223372036854775807) (hv' : EsV w A' n' eb) (hz' : EsZ w A' n') (hn' : n' ≤ 9223372036854775807) :
    Calls Try.prog 6 #[.agg #[.int .i64 p, .int .i64 t], .agg #[.int .u64 (ca : Int), .slice A n c], .agg #[.int .u64 (cb : Int), .slice A' n' c']] w fun e w' => e = .returned (.bool true) ∧ Below w.heap.size w w' := by
  obtain ⟨Wg, hWg⟩ : ∃ Wg, Wg = w.alloc (.cells #[.int .i64 p, .int .i64 t] 23) := ⟨_, rfl⟩
  obtain ⟨Wa, hWa⟩ : ∃ Wa, Wa = Wg.alloc (.cells #[.int .u64 (ca : Int), .slice A n c] 27) := ⟨_, rfl⟩
  obtain ⟨W1, hW⟩ : ∃ W1, W1 = Wa.alloc (.cells #[.int .u64 (cb : Int), .slice A' n' c'] 27) := ⟨_, rfl⟩
  have sg : Wg.heap.size = w.heap.size + 1 := by rw [hWg]; simp
  have sa : Wa.heap.size = w.heap.size + 1 + 1 := by rw [hWa]; simp [sg]
  have bg : Below w.heap.size w Wg := by rw [hWg]; exact (Below.refl _ _).alloc (Nat.le_refl _) _
  have ba : Below Wg.heap.size Wg Wa := by rw [hWa]; exact (Below.refl _ _).alloc (Nat.le_refl _) _
  have b1 : Below Wa.heap.size Wa W1 := by rw [hW]; exact (Below.refl _ _).alloc (Nat.le_refl _) _
  have bg1 : Below Wg.heap.size Wg W1 := ba.trans (b1.mono ba.size)
  have hb1 : Below w.heap.size w W1 := bg.trans (bg1.mono bg.size)
  have hx1g : Wg.heap[w.heap.size]? = some (.cells #[.int .i64 p, .int .i64 t] 23 (0, 0)) := by rw [hWg]; exact heap_alloc_new w _
  have hx1 : W1.heap[w.heap.size]? = some (.cells #[.int .i64 p, .int .i64 t] 23 (0, 0)) := (bg1.block _ (by rw [sg]; omega)).trans hx1g
  have hx2a : Wa.heap[w.heap.size + 1]? = some (.cells #[.int .u64 (ca : Int), .slice A n c] 27 (0, 0)) := by rw [hWa, ← sg]; exact heap_alloc_new Wg _
  have hx2 : W1.heap[w.heap.size + 1]? = some (.cells #[.int .u64 (ca : Int), .slice A n c] 27 (0, 0)) := (b1.block _ (by rw [sa]; omega)).trans hx2a
  have hx3 : W1.heap[w.heap.size + 1 + 1]? = some (.cells #[.int .u64 (cb : Int), .slice A' n' c'] 27 (0, 0)) := by rw [hW, ← sa]; exact heap_alloc_new Wa _
  have HCA : Hid (∀ W, Below w.heap.size w W → Calls Try.prog 7 #[.agg #[.int .u64 (ca : Int), .slice A n c], .bool true] W (CutTo W ca (cutL true ea))) := Lib.hid (fun W h => cut_any ca true A n c ea W (hv.below h) (hz.below hv h) hn)
  have HCB : Hid (∀ W, Below w.heap.size w W → Calls Try.prog 7 #[.agg #[.int .u64 (cb : Int), .slice A' n' c'], .bool true] W (CutTo W cb (cutL true eb))) := Lib.hid (fun W h => cut_any cb true A' n' c' eb W (hv'.below h) (hz'.below hv' h) hn')
  have HNA := Lib.hid (cutL_len true ea)
  have HNB := Lib.hid (cutL_len true eb)
  have HDA := Lib.hid (cutL_d true ea)
  have HDB := Lib.hid (cutL_d true eb)
  have HB1 := Lib.hid hb1
  have HBG1 := Lib.hid bg1
  have HBG := Lib.hid bg
  have HSG := Lib.hid sg
  have HX1 := Lib.hid hx1
  have HX2 := Lib.hid hx2
  have HX3 := Lib.hid hx3
  have HW : Hid (W1 = ((w.alloc (.cells #[.int .i64 p, .int .i64 t] 23)).alloc (.cells #[.int .u64 (ca : Int), .slice A n c] 27)).alloc (.cells #[.int .u64 (cb : Int), .slice A' n' c'] 27)) := Lib.hid (by rw [hW, hWa, hWg])
  have HI : Hid ((Try.prog.info? 23).map (·.size) = some (#[Value.int .i64 p, Value.int .i64 t] : Array Value).size) := Lib.hid (info_geo2 p t)
  clear hb1 hx1 hx2 hx3 hx1g hx2a hW hWg hWa bg ba b1 bg1 sg sa hv hz hn hv' hz' hn'
  clear Wa
  generalize cutL true ea = xa at *
  generalize cutL true eb = xb at *
  have HK1 : Hid (∀ W, Below W1.heap.size W1 W → W.cell? ⟨w.heap.size + 1, 0, none⟩ = some (.int .u64 (ca : Int)) ∧ W.cell? ⟨w.heap.size + 1, 1, none⟩ = some (.slice A n c) ∧ W.cell? ⟨w.heap.size + 1 + 1, 0, none⟩ = some (.int .u64 (cb : Int)) ∧ W.cell? ⟨w.heap.size + 1 + 1, 1, none⟩ = some (.slice A' n' c') ∧ Below W1.heap.size W1 W) := Lib.hid (fun W h => by
    have h2 := (h.block _ (blk_lt HX2.out)).trans HX2.out
    have h3 := (h.block _ (blk_lt HX3.out)).trans HX3.out
    exact ⟨blk_cell h2 0, blk_cell h2 1, blk_cell h3 0, blk_cell h3 1, h⟩)
  go_enter Try.func6, Try.ntmps6
  go_wp2_with fail
  rw [← HW.out]
  clear HW
  refine wp_region_F (S := fun (W : World) => W.cell? ⟨w.heap.size + 1, 0, none⟩ = some (.int .u64 (ca : Int)) ∧ W.cell? ⟨w.heap.size + 1, 1, none⟩ = some (.slice A n c) ∧ W.cell? ⟨w.heap.size + 1 + 1, 0, none⟩ = some (.int .u64 (cb : Int)) ∧ W.cell? ⟨w.heap.size + 1 + 1, 1, none⟩ = some (.slice A' n' c') ∧ Below W1.heap.size W1 W) [4, 5] (by kernel_rfl) (HK1.out _ ((Below.refl _ _).drew)) (fun hHeld => ?_)
  refine wpAnyG_take (i := 0) (oi := _) (v := ?_) rfl (by kernel_rfl) (by kernel_rfl) (by kernel_rfl) (by kernel_rfl) (by kernel_rfl) (fun _ _ _ h => h) (Or.inl ⟨by rfl, ?_⟩) (by assumption) ?_
  rotate_left 1
  · intro w hSw
    (try dsimp only at hSw)
    (first | (go_simp; done) | (go_simp; with_reducible rfl))
  (try simp only [Act.put, List.getElem_toArray, List.getElem_cons_succ, List.getElem_cons_zero, List.setIfInBounds_toArray, List.set_cons_zero, List.set_cons_succ])
  refine wpAnyG_take (i := 2) (oi := _) (v := ?_) rfl (by kernel_rfl) (by kernel_rfl) (by kernel_rfl) (by kernel_rfl) (by kernel_rfl) (fun _ _ _ h => h) (Or.inl ⟨by rfl, ?_⟩) (by assumption) ?_
  rotate_left 1
  · intro w hSw
    (try dsimp only at hSw)
    (first | (go_simp; done) | (go_simp; with_reducible rfl))
  (try simp only [Act.put, List.getElem_toArray, List.getElem_cons_succ, List.getElem_cons_zero, List.setIfInBounds_toArray, List.set_cons_zero, List.set_cons_succ])
  refine wpAnyF_ready (rs := [1]) (by kernel_rfl) (by simp) ?_
  refine AllReadyF.cons (o := _) rfl (fun K hK => ?_) AllReadyF.nil
  go_simp
  (go_at_call 7)
  refine (HCA.out _ (HB1.out.drew)).mono ?_
  rintro e v1 ⟨A1, c1, rfl, hb1, hv1, hz1⟩
  have HBa : Hid (Below W1.heap.size W1 v1) := Lib.hid ((After.drew W1).trans hb1)
  have HOA : Hid (LgOk v1 A1 xa) := Lib.hid ⟨hv1, hz1, HNA.out, HDA.out⟩
  clear hb1 hv1 hz1
  refine hK.out _ _ (HK1.out _ HBa.out) (fun hHeld1 => ?_)
  clear hK K
  (try simp only [Act.put, List.getElem_toArray, List.getElem_cons_succ, List.getElem_cons_zero, List.setIfInBounds_toArray, List.set_cons_zero, List.set_cons_succ])
  refine wpAnyF_ready (rs := [3]) (by kernel_rfl) (by simp) ?_
  refine AllReadyF.cons (o := _) rfl (fun K hK => ?_) AllReadyF.nil
  go_simp
  (go_at_call 7)
  refine (HCB.out _ (HB1.out.trans (HBa.out.mono HB1.out.size))).mono ?_
  rintro e v3 ⟨A3, c3, rfl, hb3, hv3, hz3⟩
  have HBb : Hid (Below W1.heap.size W1 v3) := Lib.hid (HBa.out.trans (hb3.mono HBa.out.size))
  have HOA3 := Lib.hid (HOA.out.below hb3)
  have HOB : Hid (LgOk v3 A3 xb) := Lib.hid ⟨hv3, hz3, HNB.out, HDB.out⟩
  clear hb3 hv3 hz3
  refine hK.out _ _ (HK1.out _ HBb.out) (fun hHeld3 => ?_)
  clear hK K
  (try simp only [Act.put, List.getElem_toArray, List.getElem_cons_succ, List.getElem_cons_zero, List.setIfInBounds_toArray, List.set_cons_zero, List.set_cons_succ])
  have h2 := (HBb.out.block _ (blk_lt HX2.out)).trans HX2.out
  have h3 := (HBb.out.block _ (blk_lt HX3.out)).trans HX3.out
  have HY2 := Lib.hid h2
  have HY3 := Lib.hid h3
  have fA0 := blk_free h2 0
  have fA1 := blk_free h2 1
  have fB0 := blk_free h3 0
  have fB1 := blk_free h3 1
  have hA0 : v3.cell? ⟨w.heap.size + 1, 0, none⟩ = some (.int .u64 (ca : Int)) := blk_cell h2 0
  have hA1 : v3.cell? ⟨w.heap.size + 1, 1, none⟩ = some (.slice A n c) := blk_cell h2 1
  have hB0 : v3.cell? ⟨w.heap.size + 1 + 1, 0, none⟩ = some (.int .u64 (cb : Int)) := blk_cell h3 0
  have hB1 : v3.cell? ⟨w.heap.size + 1 + 1, 1, none⟩ = some (.slice A' n' c') := blk_cell h3 1
  clear h2 h3
  refine wpAnyF_ready (rs := [4]) (by kernel_rfl) (by simp) ?_
  refine AllReadyF.last (o := _) rfl (by kernel_rfl) (fun K hK => ?_) AllReadyF.nil
  go_simp
  refine hK.out _ _ ?_
  clear hK K
  (try simp only [Act.put, List.getElem_toArray, List.getElem_cons_succ, List.getElem_cons_zero, List.setIfInBounds_toArray, List.set_cons_zero, List.set_cons_succ])
  refine wpAnyF_ready (rs := [5]) (by kernel_rfl) (by simp) ?_
  refine AllReadyF.last (o := _) rfl (by kernel_rfl) (fun K hK => ?_) AllReadyF.nil
  go_simp
  refine hK.out _ _ ?_
  clear hK K
  (try simp only [Act.put, List.getElem_toArray, List.getElem_cons_succ, List.getElem_cons_zero, List.setIfInBounds_toArray, List.set_cons_zero, List.set_cons_succ])
  refine wpAnyF_done (by kernel_rfl) ?_ _
  obtain ⟨W2, hW2⟩ : ∃ W2, W2 = (((v3.setCell ⟨w.heap.size + 1, 0, none⟩ (.int .u64 (ca : Int))).setCell ⟨w.heap.size + 1, 1, none⟩ (.slice A1 xa.length c1)).setCell ⟨w.heap.size + 1 + 1, 0, none⟩ (.int .u64 (cb : Int))).setCell ⟨w.heap.size + 1 + 1, 1, none⟩ (.slice A3 xb.length c3) := ⟨_, rfl⟩
  obtain ⟨hb2, hy2, hy3, hoa, hob⟩ := boxes_put (w := Wg) (g := w.heap.size + 1) HSG.out (HBG1.out.trans (HBb.out.mono HBG1.out.size)) HY2.out HY3.out HOA3.out HOB.out W2 hW2
  have hy1 := (hb2.block w.heap.size (by rw [HSG.out]; omega)).trans (((HBG1.out.block w.heap.size (by rw [HSG.out]; omega)).symm).trans HX1.out)
  have HB2 : Hid (Below w.heap.size w W2) := Lib.hid (HBG.out.trans (hb2.mono HBG.out.size))
  rw [← hW2]
  have HZ1 := Lib.hid hy1
  have HZ2 := Lib.hid hy2
  have HZ3 := Lib.hid hy3
  have HQA := Lib.hid hoa
  have HQB := Lib.hid hob
  clear hW2 hb2 hy1 hy2 hy3 hoa hob hHeld hHeld1 hHeld3 HY2 HY3 HX1 HX2 HX3 HBa HBb HOA HOA3 HOB HK1 HB1 HCA HCB HNA HNB HDA HDB fA0 fA1 fB0 fB1 hA0 hA1 hB0 hB1 HBG1 HBG HSG
  clear v1 v3 W1 Wg
  have HK2 : Hid (∀ W, Below W2.heap.size W2 W → W.cell? ⟨w.heap.size, 0, none⟩ = some (.int .i64 p) ∧ W.cell? ⟨w.heap.size, 1, none⟩ = some (.int .i64 t) ∧ W.cell? ⟨w.heap.size + 1, 0, none⟩ = some (.int .u64 (ca : Int)) ∧ W.cell? ⟨w.heap.size + 1, 1, none⟩ = some (.slice A1 xa.length c1) ∧ W.cell? ⟨w.heap.size + 1 + 1, 0, none⟩ = some (.int .u64 (cb : Int)) ∧ W.cell? ⟨w.heap.size + 1 + 1, 1, none⟩ = some (.slice A3 xb.length c3) ∧ Below W2.heap.size W2 W) := Lib.hid (fun W h => by
    have h1 := (h.block _ (blk_lt HZ1.out)).trans HZ1.out
    have h2 := (h.block _ (blk_lt HZ2.out)).trans HZ2.out
    have h3 := (h.block _ (blk_lt HZ3.out)).trans HZ3.out
    exact ⟨blk_cell h1 0, blk_cell h1 1, blk_cell h2 0, blk_cell h2 1, blk_cell h3 0, blk_cell h3 1, h⟩)
  go_wp2_with fail
  have HUA := Lib.hid hca
  have HUB := Lib.hid hcb
  clear hca hcb
  refine wp_region_F (S := fun (W : World) => W.cell? ⟨w.heap.size, 0, none⟩ = some (.int .i64 p) ∧ W.cell? ⟨w.heap.size, 1, none⟩ = some (.int .i64 t) ∧ W.cell? ⟨w.heap.size + 1, 0, none⟩ = some (.int .u64 (ca : Int)) ∧ W.cell? ⟨w.heap.size + 1, 1, none⟩ = some (.slice A1 xa.length c1) ∧ W.cell? ⟨w.heap.size + 1 + 1, 0, none⟩ = some (.int .u64 (cb : Int)) ∧ W.cell? ⟨w.heap.size + 1 + 1, 1, none⟩ = some (.slice A3 xb.length c3) ∧ Below W2.heap.size W2 W) [] (by kernel_rfl) (HK2.out _ ((Below.refl W2.heap.size W2).drew)) (fun hHeld => ?_)
  refine wpAnyF_take (i := 0) (oi := _) (v := ?_) rfl (by kernel_rfl) (by kernel_rfl) (by kernel_rfl) (by kernel_rfl) (fun _ _ _ h => h) (Or.inl ⟨by rfl, ?_⟩) (by assumption) ?_
  rotate_left 1
  · intro w hSw
    (try dsimp only at hSw)
    (first | (go_simp; done) | (go_simp; with_reducible rfl))
  (try simp only [Act.put, List.getElem_toArray, List.getElem_cons_succ, List.getElem_cons_zero, List.setIfInBounds_toArray, List.set_cons_zero, List.set_cons_succ])
  refine wpAnyF_take (i := 1) (oi := _) (v := ?_) rfl (by kernel_rfl) (by kernel_rfl) (by kernel_rfl) (by kernel_rfl) (fun _ _ _ h => h) (Or.inl ⟨by rfl, ?_⟩) (by assumption) ?_
  rotate_left 1
  · intro w hSw
    (try dsimp only at hSw)
    (first | (go_simp; done) | (go_simp; with_reducible rfl))
  (try simp only [Act.put, List.getElem_toArray, List.getElem_cons_succ, List.getElem_cons_zero, List.setIfInBounds_toArray, List.set_cons_zero, List.set_cons_succ])
  have HC5d := Lib.hid ((Below.refl W2.heap.size W2).drew)
  refine wpAnyF_ready (rs := [2]) (by kernel_rfl) (by simp) ?_
  refine AllReadyF.cons (o := _) rfl (fun K hK => ?_) AllReadyF.nil
  go_simp
  (go_at_call 9)
  refine (ours_any ca A1 xa.length c1 xa _ (HQA.out.below HC5d.out).v (HQA.out.below HC5d.out).z (by have := HQA.out.n; omega) HQA.out.d).mono ?_
  rintro e v5a ⟨B5, d5, rfl, hb5, hv5⟩
  have HC5a : Hid (Below W2.heap.size W2 v5a) := Lib.hid (HC5d.out.trans (hb5.mono HC5d.out.size))
  have HE5 : Hid (EsV v5a B5 xa.length xa) := Lib.hid hv5
  clear hb5 hv5
  refine hK.out _ _ (HK2.out _ HC5a.out) (fun hHeld5a => ?_)
  clear hK K
  (try simp only [Act.put, List.getElem_toArray, List.getElem_cons_succ, List.getElem_cons_zero, List.setIfInBounds_toArray, List.set_cons_zero, List.set_cons_succ])
  refine wpAnyF_ready (rs := [3]) (by kernel_rfl) (by simp) ?_
  refine AllReadyF.cons (o := _) rfl (fun K hK => ?_) AllReadyF.nil
  go_simp
  (go_at_call 8)
  refine (encode_any p t ca xa.length d5 B5 xa HUA.out (by have := HQA.out.n; omega) _ HE5.out).mono ?_
  rintro e v5 ⟨r5, k5, rfl, hb5, ho5⟩
  have HC5 : Hid (Below W2.heap.size W2 v5) := Lib.hid (HC5a.out.trans (hb5.mono HC5a.out.size))
  have HO5 := Lib.hid ho5
  clear hb5 ho5
  refine hK.out _ _ (HK2.out _ HC5.out) (fun hHeld5 => ?_)
  clear hK K
  (try simp only [Act.put, List.getElem_toArray, List.getElem_cons_succ, List.getElem_cons_zero, List.setIfInBounds_toArray, List.set_cons_zero, List.set_cons_succ])
  refine wpAnyF_take (i := 4) (oi := _) (v := ?_) rfl (by kernel_rfl) (by kernel_rfl) (by kernel_rfl) (by kernel_rfl) (fun _ _ _ h => h) (Or.inl ⟨by rfl, ?_⟩) (by assumption) ?_
  rotate_left 1
  · intro w hSw
    (try dsimp only at hSw)
    (first | (go_simp; done) | (go_simp; with_reducible rfl))
  (try simp only [Act.put, List.getElem_toArray, List.getElem_cons_succ, List.getElem_cons_zero, List.setIfInBounds_toArray, List.set_cons_zero, List.set_cons_succ])
  refine wpAnyF_take (i := 5) (oi := _) (v := ?_) rfl (by kernel_rfl) (by kernel_rfl) (by kernel_rfl) (by kernel_rfl) (fun _ _ _ h => h) (Or.inl ⟨by rfl, ?_⟩) (by assumption) ?_
  rotate_left 1
  · intro w hSw
    (try dsimp only at hSw)
    (first | (go_simp; done) | (go_simp; with_reducible rfl))
  (try simp only [Act.put, List.getElem_toArray, List.getElem_cons_succ, List.getElem_cons_zero, List.setIfInBounds_toArray, List.set_cons_zero, List.set_cons_succ])
  refine wpAnyF_take (i := 6) (oi := _) (v := ?_) rfl (by kernel_rfl) (by kernel_rfl) (by kernel_rfl) (by kernel_rfl) (fun _ _ _ h => h) (Or.inl ⟨by rfl, ?_⟩) (by assumption) ?_
  rotate_left 1
  · intro w hSw
    (try dsimp only at hSw)
    (first | (go_simp; done) | (go_simp; with_reducible rfl))
  (try simp only [Act.put, List.getElem_toArray, List.getElem_cons_succ, List.getElem_cons_zero, List.setIfInBounds_toArray, List.set_cons_zero, List.set_cons_succ])
  refine wpAnyF_take (i := 7) (oi := _) (v := ?_) rfl (by kernel_rfl) (by kernel_rfl) (by kernel_rfl) (by kernel_rfl) (fun _ _ _ h => h) (Or.inl ⟨by rfl, ?_⟩) (by assumption) ?_
  rotate_left 1
  · intro w hSw
    (try dsimp only at hSw)
    (first | (go_simp; done) | (go_simp; with_reducible rfl))
  (try simp only [Act.put, List.getElem_toArray, List.getElem_cons_succ, List.getElem_cons_zero, List.setIfInBounds_toArray, List.set_cons_zero, List.set_cons_succ])
  refine wpAnyF_take (i := 8) (oi := _) (v := ?_) rfl (by kernel_rfl) (by kernel_rfl) (by kernel_rfl) (by kernel_rfl) (fun _ _ _ h => h) (Or.inl ⟨by rfl, ?_⟩) (by assumption) ?_
  rotate_left 1
  · intro w hSw
    (try dsimp only at hSw)
    (first | (go_simp; done) | (go_simp; with_reducible rfl))
  (try simp only [Act.put, List.getElem_toArray, List.getElem_cons_succ, List.getElem_cons_zero, List.setIfInBounds_toArray, List.set_cons_zero, List.set_cons_succ])
  refine wpAnyF_done (by kernel_rfl) ?_ _
  clear hHeld hHeld5a hHeld5 HE5 HC5a HC5d
  go_wp2_with fail
  refine wp_region_F (S := fun (W : World) => W.cell? ⟨w.heap.size, 0, none⟩ = some (.int .i64 p) ∧ W.cell? ⟨w.heap.size, 1, none⟩ = some (.int .i64 t) ∧ W.cell? ⟨w.heap.size + 1, 0, none⟩ = some (.int .u64 (ca : Int)) ∧ W.cell? ⟨w.heap.size + 1, 1, none⟩ = some (.slice A1 xa.length c1) ∧ W.cell? ⟨w.heap.size + 1 + 1, 0, none⟩ = some (.int .u64 (cb : Int)) ∧ W.cell? ⟨w.heap.size + 1 + 1, 1, none⟩ = some (.slice A3 xb.length c3) ∧ Below W2.heap.size W2 W) [] (by kernel_rfl) (HK2.out _ (HC5.out.drew)) (fun hHq => ?_)
  refine wpAnyF_take (i := 0) (oi := _) (v := ?_) rfl (by kernel_rfl) (by kernel_rfl) (by kernel_rfl) (by kernel_rfl) (fun _ _ _ h => h) (Or.inl ⟨by rfl, ?_⟩) (by assumption) ?_
  rotate_left 1
  · intro w hSw
    (try dsimp only at hSw)
    (first | (go_simp; done) | (go_simp; with_reducible rfl))
  (try simp only [Act.put, List.getElem_toArray, List.getElem_cons_succ, List.getElem_cons_zero, List.setIfInBounds_toArray, List.set_cons_zero, List.set_cons_succ])
  refine wpAnyF_take (i := 1) (oi := _) (v := ?_) rfl (by kernel_rfl) (by kernel_rfl) (by kernel_rfl) (by kernel_rfl) (fun _ _ _ h => h) (Or.inl ⟨by rfl, ?_⟩) (by assumption) ?_
  rotate_left 1
  · intro w hSw
    (try dsimp only at hSw)
    (first | (go_simp; done) | (go_simp; with_reducible rfl))
  (try simp only [Act.put, List.getElem_toArray, List.getElem_cons_succ, List.getElem_cons_zero, List.setIfInBounds_toArray, List.set_cons_zero, List.set_cons_succ])
  have HC6d := Lib.hid (HC5.out.drew)
  refine wpAnyF_ready (rs := [2]) (by kernel_rfl) (by simp) ?_
  refine AllReadyF.cons (o := _) rfl (fun K hK => ?_) AllReadyF.nil
  go_simp
  (go_at_call 9)
  refine (ours_any cb A3 xb.length c3 xb _ (HQB.out.below HC6d.out).v (HQB.out.below HC6d.out).z (by have := HQB.out.n; omega) HQB.out.d).mono ?_
  rintro e v6a ⟨B6, d6, rfl, hb6, hv6⟩
  have HV5a : Hid (Below v5.heap.size v5 v6a) := Lib.hid ((After.drew v5).trans hb6)
  have HC6a : Hid (Below W2.heap.size W2 v6a) := Lib.hid (HC6d.out.trans (hb6.mono HC6d.out.size))
  have HE6 : Hid (EsV v6a B6 xb.length xb) := Lib.hid hv6
  clear hb6 hv6
  refine hK.out _ _ (HK2.out _ HC6a.out) (fun hHq6a => ?_)
  clear hK K
  (try simp only [Act.put, List.getElem_toArray, List.getElem_cons_succ, List.getElem_cons_zero, List.setIfInBounds_toArray, List.set_cons_zero, List.set_cons_succ])
  refine wpAnyF_ready (rs := [3]) (by kernel_rfl) (by simp) ?_
  refine AllReadyF.cons (o := _) rfl (fun K hK => ?_) AllReadyF.nil
  go_simp
  (go_at_call 8)
  refine (encode_any p t cb xb.length d6 B6 xb HUB.out (by have := HQB.out.n; omega) _ HE6.out).mono ?_
  rintro e v6 ⟨r6, k6, rfl, hb6, ho6⟩
  have HV56 : Hid (Below v5.heap.size v5 v6) := Lib.hid (HV5a.out.trans (hb6.mono HV5a.out.size))
  have HC6 : Hid (Below W2.heap.size W2 v6) := Lib.hid (HC6a.out.trans (hb6.mono HC6a.out.size))
  have HO6 := Lib.hid ho6
  clear hb6 ho6
  refine hK.out _ _ (HK2.out _ HC6.out) (fun hHq6 => ?_)
  clear hK K
  (try simp only [Act.put, List.getElem_toArray, List.getElem_cons_succ, List.getElem_cons_zero, List.setIfInBounds_toArray, List.set_cons_zero, List.set_cons_succ])
  refine wpAnyF_take (i := 4) (oi := _) (v := ?_) rfl (by kernel_rfl) (by kernel_rfl) (by kernel_rfl) (by kernel_rfl) (fun _ _ _ h => h) (Or.inl ⟨by rfl, ?_⟩) (by assumption) ?_
  rotate_left 1
  · intro w hSw
    (try dsimp only at hSw)
    (first | (go_simp; done) | (go_simp; with_reducible rfl))
  (try simp only [Act.put, List.getElem_toArray, List.getElem_cons_succ, List.getElem_cons_zero, List.setIfInBounds_toArray, List.set_cons_zero, List.set_cons_succ])
  refine wpAnyF_take (i := 5) (oi := _) (v := ?_) rfl (by kernel_rfl) (by kernel_rfl) (by kernel_rfl) (by kernel_rfl) (fun _ _ _ h => h) (Or.inl ⟨by rfl, ?_⟩) (by assumption) ?_
  rotate_left 1
  · intro w hSw
    (try dsimp only at hSw)
    (first | (go_simp; done) | (go_simp; with_reducible rfl))
  (try simp only [Act.put, List.getElem_toArray, List.getElem_cons_succ, List.getElem_cons_zero, List.setIfInBounds_toArray, List.set_cons_zero, List.set_cons_succ])
  refine wpAnyF_take (i := 6) (oi := _) (v := ?_) rfl (by kernel_rfl) (by kernel_rfl) (by kernel_rfl) (by kernel_rfl) (fun _ _ _ h => h) (Or.inl ⟨by rfl, ?_⟩) (by assumption) ?_
  rotate_left 1
  · intro w hSw
    (try dsimp only at hSw)
    (first | (go_simp; done) | (go_simp; with_reducible rfl))
  (try simp only [Act.put, List.getElem_toArray, List.getElem_cons_succ, List.getElem_cons_zero, List.setIfInBounds_toArray, List.set_cons_zero, List.set_cons_succ])
  refine wpAnyF_take (i := 7) (oi := _) (v := ?_) rfl (by kernel_rfl) (by kernel_rfl) (by kernel_rfl) (by kernel_rfl) (fun _ _ _ h => h) (Or.inl ⟨by rfl, ?_⟩) (by assumption) ?_
  rotate_left 1
  · intro w hSw
    (try dsimp only at hSw)
    (first | (go_simp; done) | (go_simp; with_reducible rfl))
  (try simp only [Act.put, List.getElem_toArray, List.getElem_cons_succ, List.getElem_cons_zero, List.setIfInBounds_toArray, List.set_cons_zero, List.set_cons_succ])
  refine wpAnyF_take (i := 8) (oi := _) (v := ?_) rfl (by kernel_rfl) (by kernel_rfl) (by kernel_rfl) (by kernel_rfl) (fun _ _ _ h => h) (Or.inl ⟨by rfl, ?_⟩) (by assumption) ?_
  rotate_left 1
  · intro w hSw
    (try dsimp only at hSw)
    (first | (go_simp; done) | (go_simp; with_reducible rfl))
  (try simp only [Act.put, List.getElem_toArray, List.getElem_cons_succ, List.getElem_cons_zero, List.setIfInBounds_toArray, List.set_cons_zero, List.set_cons_succ])
  refine wpAnyF_done (by kernel_rfl) ?_ _
  clear hHq hHq6a hHq6 HE6 HC6a HC6d
  rcases HO5.out with ⟨hnA, rfl, rfl⟩ | ⟨hyA, rfl, gx, cx, rfl, hblkA⟩
  · obtain ⟨g0, g1, a0, a1, b0, b1, _⟩ := HK2.out v6 HC6.out
    go_wp2_with fail
    refine (rmay14_any p t ca xa.length c1 A1 xa (by have := HQA.out.n; omega) _ (HQA.out.below HC6.out).v).mono ?_
    rintro e v7 ⟨bb7, rfl, hbb7, hb7⟩
    have HC7 := Lib.hid (HC6.out.trans (hb7.mono HC6.out.size))
    obtain rfl : bb7 = false := by cases bb7 with | false => rfl | true => exact absurd (hbb7.mp rfl) hnA
    clear hbb7 hb7 g0 g1 a0 a1 b0 b1
    obtain ⟨g0, g1, a0, a1, b0, b1, _⟩ := HK2.out v7 HC7.out
    go_wp2_with fail
    refine (awake14_any _).mono ?_
    rintro e v9 ⟨rfl, hb9⟩
    have HC9 := Lib.hid (HC7.out.trans (hb9.mono HC7.out.size))
    clear hb9
    go_wp2
    go_ret
    exact ⟨rfl, HB2.out.trans (HC9.out.mono HB2.out.size)⟩
  rcases HO6.out with ⟨hnB, rfl, rfl⟩ | ⟨hyB, rfl, gy, cy, rfl, hblkB⟩
  · obtain ⟨g0, g1, a0, a1, b0, b1, _⟩ := HK2.out v6 HC6.out
    go_wp2_with fail
    refine (rmay14_any p t ca xa.length c1 A1 xa (by have := HQA.out.n; omega) _ (HQA.out.below HC6.out).v).mono ?_
    rintro e v7 ⟨bb7, rfl, hbb7, hb7⟩
    have HC7 := Lib.hid (HC6.out.trans (hb7.mono HC6.out.size))
    obtain rfl : bb7 = true := hbb7.mpr hyA
    clear hbb7 hb7 g0 g1 a0 a1 b0 b1
    obtain ⟨g0, g1, a0, a1, b0, b1, _⟩ := HK2.out v7 HC7.out
    go_wp2_with fail
    refine (rmay14_any p t cb xb.length c3 A3 xb (by have := HQB.out.n; omega) _ (HQB.out.below HC7.out).v).mono ?_
    rintro e v8 ⟨bb8, rfl, hbb8, hb8⟩
    have HC8 := Lib.hid (HC7.out.trans (hb8.mono HC7.out.size))
    obtain rfl : bb8 = false := by cases bb8 with | false => rfl | true => exact absurd (hbb8.mp rfl) hnB
    clear hbb8 hb8 g0 g1 a0 a1 b0 b1
    obtain ⟨g0, g1, a0, a1, b0, b1, _⟩ := HK2.out v8 HC8.out
    go_wp2_with fail
    refine (awake14_any _).mono ?_
    rintro e v9 ⟨rfl, hb9⟩
    have HC9 := Lib.hid (HC8.out.trans (hb9.mono HC8.out.size))
    clear hb9
    go_wp2
    go_ret
    exact ⟨rfl, HB2.out.trans (HC9.out.mono HB2.out.size)⟩
  obtain ⟨la, hla⟩ : ∃ la, la = xa.length + 1 := ⟨_, rfl⟩
  obtain ⟨lb, hlb⟩ : ∃ lb, lb = xb.length + 1 := ⟨_, rfl⟩
  obtain ⟨LX, hLX⟩ : ∃ LX, LX = blksL ca xa xa.length := ⟨_, rfl⟩
  obtain ⟨LY, hLY⟩ : ∃ LY, LY = blksL cb xb xb.length := ⟨_, rfl⟩
  have HLX : Hid (LX.length = la) := Lib.hid (by rw [hLX, hla, blksL_all]; simp)
  have HLY : Hid (LY.length = lb) := Lib.hid (by rw [hLY, hlb, blksL_all]; simp)
  have HINJ : Hid (LX = LY ↔ ca = cb ∧ xa = xb) := Lib.hid (by rw [hLX, hLY]; exact blks_inj HUA.out HUB.out (mayG_k hyA) (mayG_k hyB) HQA.out.n HQB.out.n)
  have hl9 : la ≤ 31 ∧ lb ≤ 31 := by have := HQA.out.n; have := HQB.out.n; omega
  obtain ⟨dd, hdd⟩ : ∃ dd, dd = decide (ca = cb ∧ xa = xb) := ⟨_, rfl⟩
  have HDD := Lib.hid hdd
  rw [← hLX] at hblkA
  rw [← hLY] at hblkB
  rw [← hla, ← hlb]
  have HBX := Lib.hid (hblkA.below (HV56.out))
  have HBY := Lib.hid hblkB
  clear hla hlb hLX hLY hdd hblkA hblkB hyA hyB HO5 HO6
  go_wp2
  go_loopw [11, 12] (fun sv iv wr => ∃ (k : Nat) (sb : Bool), iv = .int .i64 (k : Int) ∧ sv = .bool sb ∧ (sb = true → la = lb ∧ k ≤ la ∧ ∀ j, j < k → LX.getD j [] = LY.getD j []) ∧ (sb = false → LX ≠ LY) ∧ Below v6.heap.size v6 wr) (fun _ iv _ => (la - intOf iv).toNat)
  case atStart =>
    refine ⟨0, _, rfl, rfl, fun h => ⟨Int.ofNat_inj.mp (by simpa using h), by omega, fun j hj => by omega⟩, fun h e => ?_, Below.refl _ _⟩
    have h1 : la = lb := by rw [← HLX.out, ← HLY.out, e]
    simp [h1] at h
  case round =>
    obtain ⟨k, sb, rfl, rfl, htrue, hfalse, hb⟩ := hrel
    have HT := Lib.hid htrue
    have HF := Lib.hid hfalse
    have HB := Lib.hid hb
    have HW2 : Hid (Below W2.heap.size W2 wr) := Lib.hid (HC6.out.trans (hb.mono HC6.out.size))
    clear htrue hfalse hb
    by_cases hgo : sb = true ∧ k < la
    · obtain ⟨rfl, hlt⟩ := hgo
      obtain ⟨hll, _, hall⟩ := HT.out rfl
      have hlt2 : k < lb := by omega
      have HALL := Lib.hid hall
      have HLL := Lib.hid hll
      obtain ⟨Ax, cxx, p1', q3⟩ := HBX.out.2 k (by rw [HLX.out]; exact hlt)
      obtain ⟨Ay, cyy, p2', r3⟩ := HBY.out.2 k (by rw [HLY.out]; exact hlt2)
      have p1 : wr.drew.cell? ⟨gx, k, none⟩ = some (.slice Ax (LX.getD k []).length cxx) := (HB.out.cell (p := ⟨gx, k, none⟩) HBX.out.1).trans p1'
      have p2 : wr.drew.cell? ⟨gy, k, none⟩ = some (.slice Ay (LY.getD k []).length cyy) := (HB.out.cell (p := ⟨gy, k, none⟩) HBY.out.1).trans p2'
      have hc1 := conv_at (show BS wr.drew v6.heap.size Ax (LX.getD k []).length cxx (LX.getD k []) from q3.below HB.out.drew)
      have hc2 := conv_at (show BS wr.drew v6.heap.size Ay (LY.getD k []).length cyy (LY.getD k []) from r3.below HB.out.drew)
      obtain ⟨sb, hsb⟩ : ∃ sb, sameB (LX.getD k []) (LY.getD k []) = sb := ⟨_, rfl⟩
      have hsb2 : ((str (LX.getD k [])).toList == (str (LY.getD k [])).toList) = sb := hsb
      have HSB : Hid (sb = true ↔ LX.getD k [] = LY.getD k []) := Lib.hid (by rw [← hsb]; exact sameB_iff q3.byte r3.byte)
      have HNX : Hid (∃ (k1 : Nat) (s1 : Bool), Value.int .i64 ((k : Int) + 1) = .int .i64 (k1 : Int) ∧ Value.bool sb = .bool s1 ∧ (s1 = true → la = lb ∧ k1 ≤ la ∧ ∀ j, j < k1 → LX.getD j [] = LY.getD j []) ∧ (s1 = false → LX ≠ LY) ∧ Below v6.heap.size v6 wr.drew) := Lib.hid ⟨k + 1, sb, rfl, rfl, fun h => ⟨HLL.out, by omega, fun j hj => by
        by_cases e : j = k
        · rw [e]; exact HSB.out.mp h
        · exact HALL.out j (by omega)⟩, fun h e => (by
        have := HSB.out.mpr (by rw [e])
        rw [this] at h; cases h), HB.out.drew⟩
      have HBDR := Lib.hid HB.out.drew
      generalize (LX.getD k []).length = nl at *
      generalize (LY.getD k []).length = nl' at *
      generalize str (LX.getD k []) = s1 at *
      generalize str (LY.getD k []) = s2 at *
      clear hsb p1' p2' q3 r3 hall hll HT HF
      go_wp2_with fail
      go_big_region
      go_wp2
      go_roundw
      case rel => exact HNX.out
      case measure => simp [intOf]; omega
    · have hsd : sb = dd := by
        rw [HDD.out]
        cases sb with
        | false => exact (decide_eq_false (fun h => HF.out rfl (HINJ.out.mpr h))).symm
        | true =>
          obtain ⟨h1, h2, h3⟩ := HT.out rfl
          have hk : k = la := by
            rcases Nat.lt_or_ge k la with h | h
            · exact absurd ⟨rfl, h⟩ hgo
            · omega
          refine (decide_eq_true (HINJ.out.mp (List.ext_getElem (by rw [HLX.out, HLY.out, h1]) fun i q1 q2 => ?_))).symm
          have := h3 i (by rw [hk, ← HLX.out]; exact q1)
          simpa [List.getD, List.getElem?_eq_getElem q1, List.getElem?_eq_getElem q2] using this
      subst hsd
      cases sb with
      | false =>
        clear HT HF hgo
        obtain ⟨g0, g1, a0, a1, b0, b1, _⟩ := HK2.out wr HW2.out
        go_wp2_with fail
        refine (rsame_any ca cb A1 A3 xa.length c1 xb.length c3 xa xb _ (HQA.out.below HW2.out).v (HQB.out.below HW2.out).v (by have := HQA.out.n; omega) (by have := HQB.out.n; omega)).mono ?_
        rintro e v7 ⟨he7, hb7⟩
        rw [← HDD.out] at he7
        subst he7
        have HC7 := Lib.hid ((HW2.out).trans (hb7.mono (HW2.out).size))
        clear hb7 g0 g1 a0 a1 b0 b1
        go_wp2_with fail
        refine (awake14_any _).mono ?_
        rintro e v9 ⟨rfl, hb9⟩
        have HC9 := Lib.hid (HC7.out.trans (hb9.mono HC7.out.size))
        clear hb9
        go_wp2
        go_ret
        exact ⟨rfl, HB2.out.trans (HC9.out.mono HB2.out.size)⟩
      | true =>
        have hkl : k = la := by
          obtain ⟨_, h2, _⟩ := HT.out rfl
          rcases Nat.lt_or_ge k la with h | h
          · exact absurd ⟨rfl, h⟩ hgo
          · omega
        subst hkl
        clear HT HF hgo
        obtain ⟨g0, g1, a0, a1, b0, b1, _⟩ := HK2.out wr HW2.out
        go_wp2_with fail
        refine (rsame_any ca cb A1 A3 xa.length c1 xb.length c3 xa xb _ (HQA.out.below HW2.out).v (HQB.out.below HW2.out).v (by have := HQA.out.n; omega) (by have := HQB.out.n; omega)).mono ?_
        rintro e v7 ⟨he7, hb7⟩
        rw [← HDD.out] at he7
        subst he7
        have HC7 := Lib.hid ((HW2.out).trans (hb7.mono (HW2.out).size))
        clear hb7 g0 g1 a0 a1 b0 b1
        go_wp2_with fail
        refine (awake14_any _).mono ?_
        rintro e v9 ⟨rfl, hb9⟩
        have HC9 := Lib.hid (HC7.out.trans (hb9.mono HC7.out.size))
        clear hb9
        go_wp2
        go_ret
        exact ⟨rfl, HB2.out.trans (HC9.out.mono HB2.out.size)⟩
end Go.Proofs.Ytojedpmahoacoaa
