/-
  logf: LogfWrites' walk.
-/
import Derived.Test.YtnalebocfbbpdaaLgYb
namespace Go.Proofs.Ytnalebocfbbpdaa
open Go.RowKit Go Go.Deep
set_option linter.unusedVariables false
set_option linter.unusedSimpArgs false
set_option maxRecDepth 100000
set_option maxHeartbeats 8000000 in
theorem logfWrites_any (p t : Int) (ca : Nat) (A : Option Addr) (n c : Nat) (ea : List (Int × List Nat)) (full : Bool) (cv : Nat) (w : World) (hcv : cv < 256) (hca : ca < 2 ^ 64) (hv : EsV w A n ea) (hz : EsZ w A n) (hn : n ≤ 9223372036854775807) :
    Calls Try.prog 3 #[.agg #[.int .i64 p, .int .i64 t], .agg #[.int .u64 (ca : Int), .slice A n c], .bool full, .int .u8 (cv : Int)] w fun e w' => e = .returned (.bool true) ∧ Below w.heap.size w w' := by
  obtain ⟨W1, hW⟩ : ∃ W1, W1 = (w.alloc (.cells #[.int .i64 p, .int .i64 t] 23)).alloc (.cells #[.int .u64 (ca : Int), .slice A n c] 27) := ⟨_, rfl⟩
  have hb1 : Below w.heap.size w W1 := by rw [hW]; exact ((Below.refl _ _).alloc (Nat.le_refl _) _).alloc (by simp) _
  have hx1 : W1.heap[w.heap.size]? = some (.cells #[.int .i64 p, .int .i64 t] 23 (0, 0)) := by rw [hW]; exact blk_alloc (heap_alloc_new w _) _
  have hx2 : W1.heap[w.heap.size + 1]? = some (.cells #[.int .u64 (ca : Int), .slice A n c] 27 (0, 0)) := by
    have := heap_alloc_new (w.alloc (.cells #[.int .i64 p, .int .i64 t] 23)) (.cells #[.int .u64 (ca : Int), .slice A n c] 27)
    rw [show (w.alloc (.cells #[.int .i64 p, .int .i64 t] 23)).heap.size = w.heap.size + 1 by simp, ← hW] at this
    exact this
  have HCA := Lib.hid (cut_any ca full A n c ea W1 (hv.below hb1) (hz.below hv hb1) hn)
  have HNA := Lib.hid (cutL_len full ea)
  have HDA := Lib.hid (cutL_d full ea)
  have HB1 := Lib.hid hb1
  have HX1 := Lib.hid hx1
  have HX2 := Lib.hid hx2
  have HW := Lib.hid hW
  have HI : Hid ((Try.prog.info? 23).map (·.size) = some (#[Value.int .i64 p, Value.int .i64 t] : Array Value).size) := Lib.hid (info_geo2 p t)
  have HUA := Lib.hid hca
  have HCV := Lib.hid hcv
  have z0 : W1.cell? ⟨w.heap.size + 1, 0, none⟩ = some (.int .u64 (ca : Int)) := blk_cell hx2 0
  have z1 : W1.cell? ⟨w.heap.size + 1, 1, none⟩ = some (.slice A n c) := blk_cell hx2 1
  rw [hW] at z0 z1
  clear hb1 hx1 hx2 hW hv hz hn hca hcv
  generalize cutL full ea = xa at *
  go_enter Try.func3, Try.ntmps3
  go_wp2_with fail
  rw [← HW.out]
  clear z0 z1
  refine HCA.out.mono ?_
  rintro e v1 ⟨A1, c1, rfl, hb2, hv1, hz1⟩
  have HBa : Hid (Below W1.heap.size W1 v1) := Lib.hid hb2
  have HOA : Hid (LgOk v1 A1 xa) := Lib.hid ⟨hv1, hz1, HNA.out, HDA.out⟩
  have hq2 := (hb2.block _ (blk_lt HX2.out)).trans HX2.out
  have HY2 := Lib.hid hq2
  have y0 : v1.cell? ⟨w.heap.size + 1, 0, none⟩ = some (.int .u64 (ca : Int)) := blk_cell hq2 0
  have y1 : v1.cell? ⟨w.heap.size + 1, 1, none⟩ = some (.slice A n c) := blk_cell hq2 1
  have y2 : v1.frozen? ⟨w.heap.size + 1, 0, none⟩ = false := blk_free hq2 0
  have y3 : v1.frozen? ⟨w.heap.size + 1, 1, none⟩ = false := blk_free hq2 1
  clear hb2 hv1 hz1 hq2
  go_wp2_with fail
  obtain ⟨W2, hW2⟩ : ∃ W2, W2 = (v1.setCell ⟨w.heap.size + 1, 0, none⟩ (.int .u64 (ca : Int))).setCell ⟨w.heap.size + 1, 1, none⟩ (.slice A1 xa.length c1) := ⟨_, rfl⟩
  have hk : ∀ k, k ≠ w.heap.size + 1 → W2.heap[k]? = v1.heap[k]? := fun k hk => by rw [hW2]; exact (Below.heap_setCell _ _ _ k hk).trans (Below.heap_setCell _ _ _ k hk)
  have HQA : Hid (LgOk W2 A1 xa) := Lib.hid (HOA.out.box (x := ca) HY2.out hk (by rw [hW2, size_set, size_set]))
  have HZ2 : Hid (W2.heap[w.heap.size + 1]? = some (.cells #[.int .u64 (ca : Int), .slice A1 xa.length c1] 27 (0, 0))) := Lib.hid (by
    rw [hW2]
    have h := blk_set (blk_set HY2.out 0 (.int .u64 (ca : Int))) 1 (.slice A1 xa.length c1)
    simpa using h)
  have HZ1 : Hid (W2.heap[w.heap.size]? = some (.cells #[.int .i64 p, .int .i64 t] 23 (0, 0))) := Lib.hid ((hk _ (by omega)).trans ((HBa.out.block _ (blk_lt HX1.out)).trans HX1.out))
  have HB2 : Hid (Below w.heap.size w W2) := Lib.hid (by rw [hW2]; exact ((HB1.out.trans (HBa.out.mono HB1.out.size)).setCell (p := ⟨w.heap.size + 1, 0, none⟩) (by show w.heap.size ≤ w.heap.size + 1; omega) _).setCell (p := ⟨w.heap.size + 1, 1, none⟩) (by show w.heap.size ≤ w.heap.size + 1; omega) _)
  rw [← hW2]
  clear hW2 hk y0 y1 y2 y3 HY2 HOA HBa HX1 HX2 HB1 HW HCA HNA HDA
  clear v1 W1
  have HK2 : Hid (∀ W, Below W2.heap.size W2 W → W.cell? ⟨w.heap.size, 0, none⟩ = some (.int .i64 p) ∧ W.cell? ⟨w.heap.size, 1, none⟩ = some (.int .i64 t) ∧ W.cell? ⟨w.heap.size + 1, 0, none⟩ = some (.int .u64 (ca : Int)) ∧ W.cell? ⟨w.heap.size + 1, 1, none⟩ = some (.slice A1 xa.length c1) ∧ Below W2.heap.size W2 W) := Lib.hid (fun W h => by
    have h1 := (h.block _ (blk_lt HZ1.out)).trans HZ1.out
    have h2 := (h.block _ (blk_lt HZ2.out)).trans HZ2.out
    exact ⟨blk_cell h1 0, blk_cell h1 1, blk_cell h2 0, blk_cell h2 1, h⟩)
  refine wp_region_F (S := fun (W : World) => W.cell? ⟨w.heap.size, 0, none⟩ = some (.int .i64 p) ∧ W.cell? ⟨w.heap.size, 1, none⟩ = some (.int .i64 t) ∧ W.cell? ⟨w.heap.size + 1, 0, none⟩ = some (.int .u64 (ca : Int)) ∧ W.cell? ⟨w.heap.size + 1, 1, none⟩ = some (.slice A1 xa.length c1) ∧ Below W2.heap.size W2 W) [] (by kernel_rfl) (HK2.out _ ((Below.refl W2.heap.size W2).drew)) (fun hHeld => ?_)
  refine wpAnyF_take (i := 0) (oi := _) (v := ?_) rfl (by kernel_rfl) (by kernel_rfl) (by kernel_rfl) (by kernel_rfl) (fun _ _ _ h => h) (Or.inl ⟨by rfl, ?_⟩) (by assumption) ?_
  rotate_left 1
  · intro w hSw
    (try dsimp only at hSw)
    (first | (go_simp; done) | (go_simp; with_reducible rfl))
  (try simp only [Act.put, List.getElem_toArray, List.getElem_cons_succ, List.getElem_cons_zero, List.setIfInBounds_toArray, List.set_cons_zero, List.set_cons_succ])
  refine wpAnyF_take (i := 1) (oi := _) (v := ?_) rfl (by kernel_rfl) (by kernel_rfl) (by kernel_rfl) (by kernel_rfl) (fun _ _ _ h => h) (Or.inl ⟨by rfl, ?_⟩) (by assumption) ?_
  rotate_left 1
  · intro w hSw
    (try dsimp only at hSw)
    (first | (go_simp; done) | (go_simp; with_reducible rfl))
  (try simp only [Act.put, List.getElem_toArray, List.getElem_cons_succ, List.getElem_cons_zero, List.setIfInBounds_toArray, List.set_cons_zero, List.set_cons_succ])
  have HC5d := Lib.hid ((Below.refl W2.heap.size W2).drew)
  refine wpAnyF_ready (rs := [2]) (by kernel_rfl) (by simp) ?_
  refine AllReadyF.cons (o := _) rfl (fun K hK => ?_) AllReadyF.nil
  go_simp
  (go_at_call 7)
  refine (ours_any ca A1 xa.length c1 xa _ (HQA.out.below HC5d.out).v (HQA.out.below HC5d.out).z (by have := HQA.out.n; omega) HQA.out.d).mono ?_
  rintro e v5a ⟨B5, d5, rfl, hb5, hv5⟩
  have HC5a : Hid (Below W2.heap.size W2 v5a) := Lib.hid (HC5d.out.trans (hb5.mono HC5d.out.size))
  have HE5 : Hid (EsV v5a B5 xa.length xa) := Lib.hid hv5
  clear hb5 hv5
  refine hK.out _ _ (HK2.out _ HC5a.out) (fun hHeld5a => ?_)
  clear hK K
  (try simp only [Act.put, List.getElem_toArray, List.getElem_cons_succ, List.getElem_cons_zero, List.setIfInBounds_toArray, List.set_cons_zero, List.set_cons_succ])
  refine wpAnyF_ready (rs := [3]) (by kernel_rfl) (by simp) ?_
  refine AllReadyF.cons (o := _) rfl (fun K hK => ?_) AllReadyF.nil
  go_simp
  (go_at_call 6)
  refine (encode_any p t ca xa.length d5 B5 xa HUA.out (by have := HQA.out.n; omega) _ HE5.out).mono ?_
  rintro e v5 ⟨r5, k5, rfl, hb5, ho5⟩
  have HC5 : Hid (Below W2.heap.size W2 v5) := Lib.hid (HC5a.out.trans (hb5.mono HC5a.out.size))
  have HO5 := Lib.hid ho5
  clear hb5 ho5
  refine hK.out _ _ (HK2.out _ HC5.out) (fun hHeld5 => ?_)
  clear hK K
  (try simp only [Act.put, List.getElem_toArray, List.getElem_cons_succ, List.getElem_cons_zero, List.setIfInBounds_toArray, List.set_cons_zero, List.set_cons_succ])
  refine wpAnyF_take (i := 4) (oi := _) (v := ?_) rfl (by kernel_rfl) (by kernel_rfl) (by kernel_rfl) (by kernel_rfl) (fun _ _ _ h => h) (Or.inl ⟨by rfl, ?_⟩) (by assumption) ?_
  rotate_left 1
  · intro w hSw
    (try dsimp only at hSw)
    (first | (go_simp; done) | (go_simp; with_reducible rfl))
  (try simp only [Act.put, List.getElem_toArray, List.getElem_cons_succ, List.getElem_cons_zero, List.setIfInBounds_toArray, List.set_cons_zero, List.set_cons_succ])
  refine wpAnyF_take (i := 5) (oi := _) (v := ?_) rfl (by kernel_rfl) (by kernel_rfl) (by kernel_rfl) (by kernel_rfl) (fun _ _ _ h => h) (Or.inl ⟨by rfl, ?_⟩) (by assumption) ?_
  rotate_left 1
  · intro w hSw
    (try dsimp only at hSw)
    (first | (go_simp; done) | (go_simp; with_reducible rfl))
  (try simp only [Act.put, List.getElem_toArray, List.getElem_cons_succ, List.getElem_cons_zero, List.setIfInBounds_toArray, List.set_cons_zero, List.set_cons_succ])
  refine wpAnyF_take (i := 6) (oi := _) (v := ?_) rfl (by kernel_rfl) (by kernel_rfl) (by kernel_rfl) (by kernel_rfl) (fun _ _ _ h => h) (Or.inl ⟨by rfl, ?_⟩) (by assumption) ?_
  rotate_left 1
  · intro w hSw
    (try dsimp only at hSw)
    (first | (go_simp; done) | (go_simp; with_reducible rfl))
  (try simp only [Act.put, List.getElem_toArray, List.getElem_cons_succ, List.getElem_cons_zero, List.setIfInBounds_toArray, List.set_cons_zero, List.set_cons_succ])
  refine wpAnyF_take (i := 7) (oi := _) (v := ?_) rfl (by kernel_rfl) (by kernel_rfl) (by kernel_rfl) (by kernel_rfl) (fun _ _ _ h => h) (Or.inl ⟨by rfl, ?_⟩) (by assumption) ?_
  rotate_left 1
  · intro w hSw
    (try dsimp only at hSw)
    (first | (go_simp; done) | (go_simp; with_reducible rfl))
  (try simp only [Act.put, List.getElem_toArray, List.getElem_cons_succ, List.getElem_cons_zero, List.setIfInBounds_toArray, List.set_cons_zero, List.set_cons_succ])
  refine wpAnyF_take (i := 8) (oi := _) (v := ?_) rfl (by kernel_rfl) (by kernel_rfl) (by kernel_rfl) (by kernel_rfl) (fun _ _ _ h => h) (Or.inl ⟨by rfl, ?_⟩) (by assumption) ?_
  rotate_left 1
  · intro w hSw
    (try dsimp only at hSw)
    (first | (go_simp; done) | (go_simp; with_reducible rfl))
  (try simp only [Act.put, List.getElem_toArray, List.getElem_cons_succ, List.getElem_cons_zero, List.setIfInBounds_toArray, List.set_cons_zero, List.set_cons_succ])
  refine wpAnyF_done (by kernel_rfl) ?_ _
  clear hHeld hHeld5a hHeld5 HE5 HC5a HC5d
  go_wp2_with fail
  rcases HO5.out with ⟨hM, rfl, rfl⟩ | ⟨hM, rfl, gx, cx, rfl, hblkA⟩
  · have hne2 : (((xa.length : Nat) : Int) + 1 != 1 + ((xa.length : Nat) : Int)) = false := by rw [bne_eq_false_iff_eq]; omega
    have hx30 := HQA.out.n
    have hw1 : IntKind.i64.wrap (1 + ((xa.length : Nat) : Int)) = 1 + ((xa.length : Nat) : Int) := by unfold IntKind.wrap; simp [IntKind.signed, IntKind.bits]; omega
    refine wp_region_F (S := fun (W : World) => W.cell? ⟨w.heap.size, 0, none⟩ = some (.int .i64 p) ∧ W.cell? ⟨w.heap.size, 1, none⟩ = some (.int .i64 t) ∧ W.cell? ⟨w.heap.size + 1, 0, none⟩ = some (.int .u64 (ca : Int)) ∧ W.cell? ⟨w.heap.size + 1, 1, none⟩ = some (.slice A1 xa.length c1) ∧ Below W2.heap.size W2 W) [] (by kernel_rfl) (HK2.out _ (HC5.out.drew)) (fun hHeld => ?_)
    refine wpAnyF_take (i := 0) (oi := _) (v := ?_) rfl (by kernel_rfl) (by kernel_rfl) (by kernel_rfl) (by kernel_rfl) (fun _ _ _ h => h) (Or.inl ⟨by rfl, ?_⟩) (by assumption) ?_
    rotate_left 1
    · intro w hSw
      (try dsimp only at hSw)
      (first | (go_simp; done) | (go_simp; with_reducible rfl))
    (try simp only [Act.put, List.getElem_toArray, List.getElem_cons_succ, List.getElem_cons_zero, List.setIfInBounds_toArray, List.set_cons_zero, List.set_cons_succ])
    refine wpAnyF_take (i := 1) (oi := _) (v := ?_) rfl (by kernel_rfl) (by kernel_rfl) (by kernel_rfl) (by kernel_rfl) (fun _ _ _ h => h) (Or.inl ⟨by rfl, ?_⟩) (by assumption) ?_
    rotate_left 1
    · intro w hSw
      (try dsimp only at hSw)
      (first | (go_simp; done) | (go_simp; with_reducible rfl))
    (try simp only [Act.put, List.getElem_toArray, List.getElem_cons_succ, List.getElem_cons_zero, List.setIfInBounds_toArray, List.set_cons_zero, List.set_cons_succ])
    refine wpAnyF_take (i := 4) (oi := _) (v := ?_) rfl (by kernel_rfl) (by kernel_rfl) (by kernel_rfl) (by kernel_rfl) (fun _ _ _ h => h) (Or.inl ⟨by rfl, ?_⟩) (by assumption) ?_
    rotate_left 1
    · intro w hSw
      (try dsimp only at hSw)
      (first | (go_simp; done) | (go_simp; with_reducible rfl))
    (try simp only [Act.put, List.getElem_toArray, List.getElem_cons_succ, List.getElem_cons_zero, List.setIfInBounds_toArray, List.set_cons_zero, List.set_cons_succ])
    refine wpAnyF_take (i := 5) (oi := _) (v := ?_) rfl (by kernel_rfl) (by kernel_rfl) (by kernel_rfl) (by kernel_rfl) (fun _ _ _ h => h) (Or.inl ⟨by rfl, ?_⟩) (by assumption) ?_
    rotate_left 1
    · intro w hSw
      (try dsimp only at hSw)
      (first | (go_simp; done) | (go_simp; with_reducible rfl))
    (try simp only [Act.put, List.getElem_toArray, List.getElem_cons_succ, List.getElem_cons_zero, List.setIfInBounds_toArray, List.set_cons_zero, List.set_cons_succ])
    have HCd := Lib.hid HC5.out.drew
    have HVd : Hid (Below v5.heap.size v5 v5.drew) := Lib.hid ((Below.refl _ _).drew)
    refine wpAnyF_ready (rs := [2]) (by kernel_rfl) (by simp) ?_
    refine AllReadyF.cons (o := _) rfl (fun K hK => ?_) AllReadyF.nil
    go_simp
    (go_at_call 7)
    refine (ours_any ca A1 xa.length c1 xa _ (HQA.out.below HCd.out).v (HQA.out.below HCd.out).z (by have := HQA.out.n; omega) HQA.out.d).mono ?_
    rintro e v7 ⟨B7, d7, rfl, hb7, hv7⟩
    have HC7 : Hid (Below W2.heap.size W2 v7) := Lib.hid (HCd.out.trans (hb7.mono HCd.out.size))
    have HV7 := Lib.hid (HVd.out.trans (hb7.mono HVd.out.size))
    have HE7 := Lib.hid hv7
    clear hb7 hv7
    refine hK.out _ _ (HK2.out _ HC7.out) (fun hHeld7 => ?_)
    clear hK K
    (try simp only [Act.put, List.getElem_toArray, List.getElem_cons_succ, List.getElem_cons_zero, List.setIfInBounds_toArray, List.set_cons_zero, List.set_cons_succ])
    refine wpAnyF_ready (rs := [3]) (by kernel_rfl) (by simp) ?_
    refine AllReadyF.cons (o := _) rfl (fun K hK => ?_) AllReadyF.nil
    go_simp
    (go_at_call 8)
    refine (lmay_any p t ca xa.length d7 B7 xa (by have := HQA.out.n; omega) _ HE7.out).mono ?_
    rintro e v8 ⟨bb, rfl, hbb, hb8⟩
    obtain rfl : bb = false := by cases bb with | false => rfl | true => exact absurd (hbb.mp rfl) hM
    have HC8 := Lib.hid (HC7.out.trans (hb8.mono HC7.out.size))
    have HV8 := Lib.hid (HV7.out.trans (hb8.mono HV7.out.size))
    clear hbb hb8
    refine hK.out _ _ (HK2.out _ HC8.out) (fun hHeld8 => ?_)
    clear hK K
    (try simp only [Act.put, List.getElem_toArray, List.getElem_cons_succ, List.getElem_cons_zero, List.setIfInBounds_toArray, List.set_cons_zero, List.set_cons_succ])
    refine wpAnyF_ready (rs := [6]) (by kernel_rfl) (by simp) ?_
    refine AllReadyF.cons (o := _) rfl (fun K hK => ?_) AllReadyF.nil
    go_simp
    (go_at_call 9)
    refine (rmay14_any p t ca xa.length c1 A1 xa (by have := HQA.out.n; omega) _ (HQA.out.below HC8.out).v).mono ?_
    rintro e v9 ⟨bb, rfl, hbb, hb9⟩
    obtain rfl : bb = false := by cases bb with | false => rfl | true => exact absurd (hbb.mp rfl) hM
    have HC9 := Lib.hid (HC8.out.trans (hb9.mono HC8.out.size))
    have HV9 := Lib.hid (HV8.out.trans (hb9.mono HV8.out.size))
    clear hbb hb9
    refine hK.out _ _ (HK2.out _ HC9.out) (fun hHeld9 => ?_)
    clear hK K
    (try simp only [Act.put, List.getElem_toArray, List.getElem_cons_succ, List.getElem_cons_zero, List.setIfInBounds_toArray, List.set_cons_zero, List.set_cons_succ])
    refine wpAnyF_take (i := 7) (oi := _) (v := ?_) rfl (by kernel_rfl) (by kernel_rfl) (by kernel_rfl) (by kernel_rfl) (fun _ _ _ h => h) (Or.inl ⟨by rfl, ?_⟩) (by assumption) ?_
    rotate_left 1
    · intro w hSw
      (try dsimp only at hSw)
      (first | (go_simp; done) | (go_simp; with_reducible rfl))
    (try simp only [Act.put, List.getElem_toArray, List.getElem_cons_succ, List.getElem_cons_zero, List.setIfInBounds_toArray, List.set_cons_zero, List.set_cons_succ])
    refine wpAnyF_take (i := 8) (oi := _) (v := ?_) rfl (by kernel_rfl) (by kernel_rfl) (by kernel_rfl) (by kernel_rfl) (fun _ _ _ h => h) (Or.inl ⟨by rfl, ?_⟩) (by assumption) ?_
    rotate_left 1
    · intro w hSw
      (try dsimp only at hSw)
      (first | (go_simp; done) | (go_simp; with_reducible rfl))
    (try simp only [Act.put, List.getElem_toArray, List.getElem_cons_succ, List.getElem_cons_zero, List.setIfInBounds_toArray, List.set_cons_zero, List.set_cons_succ])
    refine wpAnyF_take (i := 9) (oi := _) (v := ?_) rfl (by kernel_rfl) (by kernel_rfl) (by kernel_rfl) (by kernel_rfl) (fun _ _ _ h => h) (Or.inl ⟨by rfl, ?_⟩) (by assumption) ?_
    rotate_left 1
    · intro w hSw
      (try dsimp only at hSw)
      (first | (go_simp; done) | (go_simp; with_reducible rfl))
    (try simp only [Act.put, List.getElem_toArray, List.getElem_cons_succ, List.getElem_cons_zero, List.setIfInBounds_toArray, List.set_cons_zero, List.set_cons_succ])
    refine wpAnyF_take (i := 12) (oi := _) (v := ?_) rfl (by kernel_rfl) (by kernel_rfl) (by kernel_rfl) (by kernel_rfl) (fun _ _ _ h => h) (Or.inl ⟨by rfl, ?_⟩) (by assumption) ?_
    rotate_left 1
    · intro w hSw
      (try dsimp only at hSw)
      (first | (go_simp; done) | (go_simp; with_reducible rfl))
    (try simp only [Act.put, List.getElem_toArray, List.getElem_cons_succ, List.getElem_cons_zero, List.setIfInBounds_toArray, List.set_cons_zero, List.set_cons_succ])
    refine wpAnyF_take (i := 13) (oi := _) (v := ?_) rfl (by kernel_rfl) (by kernel_rfl) (by kernel_rfl) (by kernel_rfl) (fun _ _ _ h => h) (Or.inl ⟨by rfl, ?_⟩) (by assumption) ?_
    rotate_left 1
    · intro w hSw
      (try dsimp only at hSw)
      (first | (go_simp; done) | (go_simp; with_reducible rfl))
    (try simp only [Act.put, List.getElem_toArray, List.getElem_cons_succ, List.getElem_cons_zero, List.setIfInBounds_toArray, List.set_cons_zero, List.set_cons_succ])
    refine wpAnyF_take (i := 14) (oi := _) (v := ?_) rfl (by kernel_rfl) (by kernel_rfl) (by kernel_rfl) (by kernel_rfl) (fun _ _ _ h => h) (Or.inl ⟨by rfl, ?_⟩) (by assumption) ?_
    rotate_left 1
    · intro w hSw
      (try dsimp only at hSw)
      (first | (go_simp; done) | (go_simp; with_reducible rfl))
    (try simp only [Act.put, List.getElem_toArray, List.getElem_cons_succ, List.getElem_cons_zero, List.setIfInBounds_toArray, List.set_cons_zero, List.set_cons_succ])
    refine wpAnyF_take (i := 15) (oi := _) (v := ?_) rfl (by kernel_rfl) (by kernel_rfl) (by kernel_rfl) (by kernel_rfl) (fun _ _ _ h => h) (Or.inl ⟨by rfl, ?_⟩) (by assumption) ?_
    rotate_left 1
    · intro w hSw
      (try dsimp only at hSw)
      (first | (go_simp; done) | (go_simp; with_reducible rfl))
    (try simp only [Act.put, List.getElem_toArray, List.getElem_cons_succ, List.getElem_cons_zero, List.setIfInBounds_toArray, List.set_cons_zero, List.set_cons_succ])
    refine wpAnyF_ready (rs := [10]) (by kernel_rfl) (by simp) ?_
    refine AllReadyF.cons (o := _) rfl (fun K hK => ?_) AllReadyF.nil
    go_simp
    (go_at_call 7)
    refine (ours_any ca A1 xa.length c1 xa _ (HQA.out.below HC9.out).v (HQA.out.below HC9.out).z (by have := HQA.out.n; omega) HQA.out.d).mono ?_
    rintro e v10 ⟨B10, d10, rfl, hb10, hv10⟩
    have HC10 : Hid (Below W2.heap.size W2 v10) := Lib.hid (HC9.out.trans (hb10.mono HC9.out.size))
    have HV10 := Lib.hid (HV9.out.trans (hb10.mono HV9.out.size))
    have HE10 := Lib.hid hv10
    clear hb10 hv10
    refine hK.out _ _ (HK2.out _ HC10.out) (fun hHeld10 => ?_)
    clear hK K
    (try simp only [Act.put, List.getElem_toArray, List.getElem_cons_succ, List.getElem_cons_zero, List.setIfInBounds_toArray, List.set_cons_zero, List.set_cons_succ])
    refine wpAnyF_ready (rs := [11]) (by kernel_rfl) (by simp) ?_
    refine AllReadyF.cons (o := _) rfl (fun K hK => ?_) AllReadyF.nil
    go_simp
    (go_at_call 10)
    refine (lsize_any ca xa.length d10 B10 (by have := HQA.out.n; omega) _).mono ?_
    rintro e v11 ⟨rfl, hb11⟩
    have HC11 := Lib.hid (HC10.out.trans (hb11.mono HC10.out.size))
    have HV11 := Lib.hid (HV10.out.trans (hb11.mono HV10.out.size))
    clear hb11
    refine hK.out _ _ (HK2.out _ HC11.out) (fun hHeld11 => ?_)
    clear hK K
    (try simp only [Act.put, List.getElem_toArray, List.getElem_cons_succ, List.getElem_cons_zero, List.setIfInBounds_toArray, List.set_cons_zero, List.set_cons_succ])
    refine wpAnyF_take (i := 16) (oi := _) (v := ?_) rfl (by kernel_rfl) (by kernel_rfl) (by kernel_rfl) (by kernel_rfl) (fun _ _ _ h => h) (Or.inl ⟨by rfl, ?_⟩) (by assumption) ?_
    rotate_left 1
    · intro w hSw
      (try dsimp only at hSw)
      (first | (go_simp; done) | (go_simp; with_reducible rfl))
    (try simp only [Act.put, List.getElem_toArray, List.getElem_cons_succ, List.getElem_cons_zero, List.setIfInBounds_toArray, List.set_cons_zero, List.set_cons_succ])
    refine wpAnyF_take (i := 17) (oi := _) (v := ?_) rfl (by kernel_rfl) (by kernel_rfl) (by kernel_rfl) (by kernel_rfl) (fun _ _ _ h => h) (Or.inl ⟨by rfl, ?_⟩) (by assumption) ?_
    rotate_left 1
    · intro w hSw
      (try dsimp only at hSw)
      (first | (go_simp; done) | (go_simp; with_reducible rfl))
    (try simp only [Act.put, List.getElem_toArray, List.getElem_cons_succ, List.getElem_cons_zero, List.setIfInBounds_toArray, List.set_cons_zero, List.set_cons_succ])
    refine wpAnyF_done (by kernel_rfl) ?_ _
    clear hHeld hHeld7 hHeld8 hHeld9 hHeld10 hHeld11
    obtain ⟨g0, g1, a0, a1, _⟩ := HK2.out v11 HC11.out
    go_wp2_with fail
    refine (rmay14_any p t ca xa.length c1 A1 xa (by have := HQA.out.n; omega) _ (HQA.out.below HC11.out).v).mono ?_
    rintro e v12 ⟨bb, rfl, hbb, hb12⟩
    obtain rfl : bb = false := by cases bb with | false => rfl | true => exact absurd (hbb.mp rfl) hM
    have HC12 := Lib.hid (HC11.out.trans (hb12.mono HC11.out.size))
    have HV12 := Lib.hid (HV11.out.trans (hb12.mono HV11.out.size))
    clear hbb hb12 g0 g1 a0 a1
    go_wp2_with fail
    refine (awake14_any _).mono ?_
    rintro e v9 ⟨rfl, hb9⟩
    have HC9 := Lib.hid (HC12.out.trans (hb9.mono HC12.out.size))
    clear hb9
    go_wp2
    go_ret
    exact ⟨rfl, HB2.out.trans (HC9.out.mono HB2.out.size)⟩
  · have hne2 : (((xa.length : Nat) : Int) + 1 != 1 + ((xa.length : Nat) : Int)) = false := by rw [bne_eq_false_iff_eq]; omega
    have hx30 := HQA.out.n
    have hw1 : IntKind.i64.wrap (1 + ((xa.length : Nat) : Int)) = 1 + ((xa.length : Nat) : Int) := by unfold IntKind.wrap; simp [IntKind.signed, IntKind.bits]; omega
    refine wp_region_F (S := fun (W : World) => W.cell? ⟨w.heap.size, 0, none⟩ = some (.int .i64 p) ∧ W.cell? ⟨w.heap.size, 1, none⟩ = some (.int .i64 t) ∧ W.cell? ⟨w.heap.size + 1, 0, none⟩ = some (.int .u64 (ca : Int)) ∧ W.cell? ⟨w.heap.size + 1, 1, none⟩ = some (.slice A1 xa.length c1) ∧ Below W2.heap.size W2 W) [] (by kernel_rfl) (HK2.out _ (HC5.out.drew)) (fun hHeld => ?_)
    refine wpAnyF_take (i := 0) (oi := _) (v := ?_) rfl (by kernel_rfl) (by kernel_rfl) (by kernel_rfl) (by kernel_rfl) (fun _ _ _ h => h) (Or.inl ⟨by rfl, ?_⟩) (by assumption) ?_
    rotate_left 1
    · intro w hSw
      (try dsimp only at hSw)
      (first | (go_simp; done) | (go_simp; with_reducible rfl))
    (try simp only [Act.put, List.getElem_toArray, List.getElem_cons_succ, List.getElem_cons_zero, List.setIfInBounds_toArray, List.set_cons_zero, List.set_cons_succ])
    refine wpAnyF_take (i := 1) (oi := _) (v := ?_) rfl (by kernel_rfl) (by kernel_rfl) (by kernel_rfl) (by kernel_rfl) (fun _ _ _ h => h) (Or.inl ⟨by rfl, ?_⟩) (by assumption) ?_
    rotate_left 1
    · intro w hSw
      (try dsimp only at hSw)
      (first | (go_simp; done) | (go_simp; with_reducible rfl))
    (try simp only [Act.put, List.getElem_toArray, List.getElem_cons_succ, List.getElem_cons_zero, List.setIfInBounds_toArray, List.set_cons_zero, List.set_cons_succ])
    refine wpAnyF_take (i := 4) (oi := _) (v := ?_) rfl (by kernel_rfl) (by kernel_rfl) (by kernel_rfl) (by kernel_rfl) (fun _ _ _ h => h) (Or.inl ⟨by rfl, ?_⟩) (by assumption) ?_
    rotate_left 1
    · intro w hSw
      (try dsimp only at hSw)
      (first | (go_simp; done) | (go_simp; with_reducible rfl))
    (try simp only [Act.put, List.getElem_toArray, List.getElem_cons_succ, List.getElem_cons_zero, List.setIfInBounds_toArray, List.set_cons_zero, List.set_cons_succ])
    refine wpAnyF_take (i := 5) (oi := _) (v := ?_) rfl (by kernel_rfl) (by kernel_rfl) (by kernel_rfl) (by kernel_rfl) (fun _ _ _ h => h) (Or.inl ⟨by rfl, ?_⟩) (by assumption) ?_
    rotate_left 1
    · intro w hSw
      (try dsimp only at hSw)
      (first | (go_simp; done) | (go_simp; with_reducible rfl))
    (try simp only [Act.put, List.getElem_toArray, List.getElem_cons_succ, List.getElem_cons_zero, List.setIfInBounds_toArray, List.set_cons_zero, List.set_cons_succ])
    have HCd := Lib.hid HC5.out.drew
    have HVd : Hid (Below v5.heap.size v5 v5.drew) := Lib.hid ((Below.refl _ _).drew)
    refine wpAnyF_ready (rs := [2]) (by kernel_rfl) (by simp) ?_
    refine AllReadyF.cons (o := _) rfl (fun K hK => ?_) AllReadyF.nil
    go_simp
    (go_at_call 7)
    refine (ours_any ca A1 xa.length c1 xa _ (HQA.out.below HCd.out).v (HQA.out.below HCd.out).z (by have := HQA.out.n; omega) HQA.out.d).mono ?_
    rintro e v7 ⟨B7, d7, rfl, hb7, hv7⟩
    have HC7 : Hid (Below W2.heap.size W2 v7) := Lib.hid (HCd.out.trans (hb7.mono HCd.out.size))
    have HV7 := Lib.hid (HVd.out.trans (hb7.mono HVd.out.size))
    have HE7 := Lib.hid hv7
    clear hb7 hv7
    refine hK.out _ _ (HK2.out _ HC7.out) (fun hHeld7 => ?_)
    clear hK K
    (try simp only [Act.put, List.getElem_toArray, List.getElem_cons_succ, List.getElem_cons_zero, List.setIfInBounds_toArray, List.set_cons_zero, List.set_cons_succ])
    refine wpAnyF_ready (rs := [3]) (by kernel_rfl) (by simp) ?_
    refine AllReadyF.cons (o := _) rfl (fun K hK => ?_) AllReadyF.nil
    go_simp
    (go_at_call 8)
    refine (lmay_any p t ca xa.length d7 B7 xa (by have := HQA.out.n; omega) _ HE7.out).mono ?_
    rintro e v8 ⟨bb, rfl, hbb, hb8⟩
    obtain rfl : bb = true := hbb.mpr hM
    have HC8 := Lib.hid (HC7.out.trans (hb8.mono HC7.out.size))
    have HV8 := Lib.hid (HV7.out.trans (hb8.mono HV7.out.size))
    clear hbb hb8
    refine hK.out _ _ (HK2.out _ HC8.out) (fun hHeld8 => ?_)
    clear hK K
    (try simp only [Act.put, List.getElem_toArray, List.getElem_cons_succ, List.getElem_cons_zero, List.setIfInBounds_toArray, List.set_cons_zero, List.set_cons_succ])
    refine wpAnyF_ready (rs := [6]) (by kernel_rfl) (by simp) ?_
    refine AllReadyF.cons (o := _) rfl (fun K hK => ?_) AllReadyF.nil
    go_simp
    (go_at_call 9)
    refine (rmay14_any p t ca xa.length c1 A1 xa (by have := HQA.out.n; omega) _ (HQA.out.below HC8.out).v).mono ?_
    rintro e v9 ⟨bb, rfl, hbb, hb9⟩
    obtain rfl : bb = true := hbb.mpr hM
    have HC9 := Lib.hid (HC8.out.trans (hb9.mono HC8.out.size))
    have HV9 := Lib.hid (HV8.out.trans (hb9.mono HV8.out.size))
    clear hbb hb9
    refine hK.out _ _ (HK2.out _ HC9.out) (fun hHeld9 => ?_)
    clear hK K
    (try simp only [Act.put, List.getElem_toArray, List.getElem_cons_succ, List.getElem_cons_zero, List.setIfInBounds_toArray, List.set_cons_zero, List.set_cons_succ])
    refine wpAnyF_take (i := 7) (oi := _) (v := ?_) rfl (by kernel_rfl) (by kernel_rfl) (by kernel_rfl) (by kernel_rfl) (fun _ _ _ h => h) (Or.inl ⟨by rfl, ?_⟩) (by assumption) ?_
    rotate_left 1
    · intro w hSw
      (try dsimp only at hSw)
      (first | (go_simp; done) | (go_simp; with_reducible rfl))
    (try simp only [Act.put, List.getElem_toArray, List.getElem_cons_succ, List.getElem_cons_zero, List.setIfInBounds_toArray, List.set_cons_zero, List.set_cons_succ])
    refine wpAnyF_take (i := 8) (oi := _) (v := ?_) rfl (by kernel_rfl) (by kernel_rfl) (by kernel_rfl) (by kernel_rfl) (fun _ _ _ h => h) (Or.inl ⟨by rfl, ?_⟩) (by assumption) ?_
    rotate_left 1
    · intro w hSw
      (try dsimp only at hSw)
      (first | (go_simp; done) | (go_simp; with_reducible rfl))
    (try simp only [Act.put, List.getElem_toArray, List.getElem_cons_succ, List.getElem_cons_zero, List.setIfInBounds_toArray, List.set_cons_zero, List.set_cons_succ])
    refine wpAnyF_take (i := 9) (oi := _) (v := ?_) rfl (by kernel_rfl) (by kernel_rfl) (by kernel_rfl) (by kernel_rfl) (fun _ _ _ h => h) (Or.inl ⟨by rfl, ?_⟩) (by assumption) ?_
    rotate_left 1
    · intro w hSw
      (try dsimp only at hSw)
      (first | (go_simp; done) | (go_simp; with_reducible rfl))
    (try simp only [Act.put, List.getElem_toArray, List.getElem_cons_succ, List.getElem_cons_zero, List.setIfInBounds_toArray, List.set_cons_zero, List.set_cons_succ])
    refine wpAnyF_take (i := 12) (oi := _) (v := ?_) rfl (by kernel_rfl) (by kernel_rfl) (by kernel_rfl) (by kernel_rfl) (fun _ _ _ h => h) (Or.inl ⟨by rfl, ?_⟩) (by assumption) ?_
    rotate_left 1
    · intro w hSw
      (try dsimp only at hSw)
      (first | (go_simp; done) | (go_simp; with_reducible rfl))
    (try simp only [Act.put, List.getElem_toArray, List.getElem_cons_succ, List.getElem_cons_zero, List.setIfInBounds_toArray, List.set_cons_zero, List.set_cons_succ])
    refine wpAnyF_take (i := 13) (oi := _) (v := ?_) rfl (by kernel_rfl) (by kernel_rfl) (by kernel_rfl) (by kernel_rfl) (fun _ _ _ h => h) (Or.inl ⟨by rfl, ?_⟩) (by assumption) ?_
    rotate_left 1
    · intro w hSw
      (try dsimp only at hSw)
      (first | (go_simp; done) | (go_simp; with_reducible rfl))
    (try simp only [Act.put, List.getElem_toArray, List.getElem_cons_succ, List.getElem_cons_zero, List.setIfInBounds_toArray, List.set_cons_zero, List.set_cons_succ])
    refine wpAnyF_take (i := 14) (oi := _) (v := ?_) rfl (by kernel_rfl) (by kernel_rfl) (by kernel_rfl) (by kernel_rfl) (fun _ _ _ h => h) (Or.inl ⟨by rfl, ?_⟩) (by assumption) ?_
    rotate_left 1
    · intro w hSw
      (try dsimp only at hSw)
      (first | (go_simp; done) | (go_simp; with_reducible rfl))
    (try simp only [Act.put, List.getElem_toArray, List.getElem_cons_succ, List.getElem_cons_zero, List.setIfInBounds_toArray, List.set_cons_zero, List.set_cons_succ])
    refine wpAnyF_take (i := 15) (oi := _) (v := ?_) rfl (by kernel_rfl) (by kernel_rfl) (by kernel_rfl) (by kernel_rfl) (fun _ _ _ h => h) (Or.inl ⟨by rfl, ?_⟩) (by assumption) ?_
    rotate_left 1
    · intro w hSw
      (try dsimp only at hSw)
      (first | (go_simp; done) | (go_simp; with_reducible rfl))
    (try simp only [Act.put, List.getElem_toArray, List.getElem_cons_succ, List.getElem_cons_zero, List.setIfInBounds_toArray, List.set_cons_zero, List.set_cons_succ])
    refine wpAnyF_ready (rs := [10]) (by kernel_rfl) (by simp) ?_
    refine AllReadyF.cons (o := _) rfl (fun K hK => ?_) AllReadyF.nil
    go_simp
    (go_at_call 7)
    refine (ours_any ca A1 xa.length c1 xa _ (HQA.out.below HC9.out).v (HQA.out.below HC9.out).z (by have := HQA.out.n; omega) HQA.out.d).mono ?_
    rintro e v10 ⟨B10, d10, rfl, hb10, hv10⟩
    have HC10 : Hid (Below W2.heap.size W2 v10) := Lib.hid (HC9.out.trans (hb10.mono HC9.out.size))
    have HV10 := Lib.hid (HV9.out.trans (hb10.mono HV9.out.size))
    have HE10 := Lib.hid hv10
    clear hb10 hv10
    refine hK.out _ _ (HK2.out _ HC10.out) (fun hHeld10 => ?_)
    clear hK K
    (try simp only [Act.put, List.getElem_toArray, List.getElem_cons_succ, List.getElem_cons_zero, List.setIfInBounds_toArray, List.set_cons_zero, List.set_cons_succ])
    refine wpAnyF_ready (rs := [11]) (by kernel_rfl) (by simp) ?_
    refine AllReadyF.cons (o := _) rfl (fun K hK => ?_) AllReadyF.nil
    go_simp
    (go_at_call 10)
    refine (lsize_any ca xa.length d10 B10 (by have := HQA.out.n; omega) _).mono ?_
    rintro e v11 ⟨rfl, hb11⟩
    have HC11 := Lib.hid (HC10.out.trans (hb11.mono HC10.out.size))
    have HV11 := Lib.hid (HV10.out.trans (hb11.mono HV10.out.size))
    clear hb11
    refine hK.out _ _ (HK2.out _ HC11.out) (fun hHeld11 => ?_)
    clear hK K
    (try simp only [Act.put, List.getElem_toArray, List.getElem_cons_succ, List.getElem_cons_zero, List.setIfInBounds_toArray, List.set_cons_zero, List.set_cons_succ])
    refine wpAnyF_take (i := 16) (oi := _) (v := ?_) rfl (by kernel_rfl) (by kernel_rfl) (by kernel_rfl) (by kernel_rfl) (fun _ _ _ h => h) (Or.inl ⟨by rfl, ?_⟩) (by assumption) ?_
    rotate_left 1
    · intro w hSw
      (try dsimp only at hSw)
      (first | (go_simp; done) | (go_simp; with_reducible rfl))
    (try simp only [Act.put, List.getElem_toArray, List.getElem_cons_succ, List.getElem_cons_zero, List.setIfInBounds_toArray, List.set_cons_zero, List.set_cons_succ])
    refine wpAnyF_take (i := 17) (oi := _) (v := ?_) rfl (by kernel_rfl) (by kernel_rfl) (by kernel_rfl) (by kernel_rfl) (fun _ _ _ h => h) (Or.inl ⟨by rfl, ?_⟩) (by assumption) ?_
    rotate_left 1
    · intro w hSw
      (try dsimp only at hSw)
      (first | (go_simp; done) | (go_simp; with_reducible rfl))
    (try simp only [Act.put, List.getElem_toArray, List.getElem_cons_succ, List.getElem_cons_zero, List.setIfInBounds_toArray, List.set_cons_zero, List.set_cons_succ])
    refine wpAnyF_done (by kernel_rfl) ?_ _
    clear hHeld hHeld7 hHeld8 hHeld9 hHeld10 hHeld11
    obtain ⟨g0, g1, a0, a1, _⟩ := HK2.out v11 HC11.out
    go_wp2_with fail
    refine (rmay14_any p t ca xa.length c1 A1 xa (by have := HQA.out.n; omega) _ (HQA.out.below HC11.out).v).mono ?_
    rintro e v12 ⟨bb, rfl, hbb, hb12⟩
    obtain rfl : bb = true := hbb.mpr hM
    have HC12 := Lib.hid (HC11.out.trans (hb12.mono HC11.out.size))
    have HV12 := Lib.hid (HV11.out.trans (hb12.mono HV11.out.size))
    clear hbb hb12 g0 g1 a0 a1
    obtain ⟨g0, g1, a0, a1, _⟩ := HK2.out v12 HC12.out
    go_wp2_with fail
    refine (rencode14_any ca xa.length c1 A1 xa HUA.out (mayG_k hM) (by have := HQA.out.n; omega) _ (HQA.out.below HC12.out).v).mono ?_
    rintro e v13 ⟨gy, cy, rfl, hblkY, hb13⟩
    have HC13 := Lib.hid (HC12.out.trans (hb13.mono HC12.out.size))
    have HV13 := Lib.hid (HV12.out.trans (hb13.mono HV12.out.size))
    obtain ⟨la, hla⟩ : ∃ la, la = xa.length + 1 := ⟨_, rfl⟩
    obtain ⟨LX, hLX⟩ : ∃ LX, LX = blksL ca xa xa.length := ⟨_, rfl⟩
    have HLX : Hid (LX.length = la) := Lib.hid (by rw [hLX, hla, blksL_all]; simp)
    have HLE := Lib.hid hLX
    have HLA := Lib.hid hla
    have hl9 : la ≤ 31 := by have := HQA.out.n; omega
    rw [← hLX] at hblkA hblkY
    rw [← hla]
    have HBX := Lib.hid (hblkA.below HV13.out)
    have HBY := Lib.hid hblkY
    clear hla hLX hblkA hblkY hb13 HO5 g0 g1 a0 a1 hne2 hw1 hx30
    go_wp2
    go_loopw [70] (fun iv wr => ∃ k : Nat, iv = .int .i64 (k : Int) ∧ k ≤ la ∧ Below v13.heap.size v13 wr) (fun iv _ => (la - intOf iv).toNat)
    case atStart => exact ⟨0, rfl, by omega, Below.refl _ _⟩
    case round =>
      obtain ⟨k, rfl, hk, hb⟩ := hrel
      have HB := Lib.hid hb
      clear hb
      by_cases hlt : k < la
      · obtain ⟨Ax, cxx, p1', q3⟩ := HBX.out.2 k (by rw [HLX.out]; exact hlt)
        obtain ⟨Ay, cyy, p2', r3⟩ := HBY.out.2 k (by rw [HLX.out]; exact hlt)
        have p1 : wr.drew.cell? ⟨gx, k, none⟩ = some (.slice Ax (LX.getD k []).length cxx) := (HB.out.cell (p := ⟨gx, k, none⟩) HBX.out.1).trans p1'
        have p2 : wr.drew.cell? ⟨gy, k, none⟩ = some (.slice Ay (LX.getD k []).length cyy) := (HB.out.cell (p := ⟨gy, k, none⟩) HBY.out.1).trans p2'
        have hc1 := conv_at (show BS wr.drew v13.heap.size Ax (LX.getD k []).length cxx (LX.getD k []) from q3.below HB.out.drew)
        have hc2 := conv_at (show BS wr.drew v13.heap.size Ay (LX.getD k []).length cyy (LX.getD k []) from r3.below HB.out.drew)
        have HBDR := Lib.hid HB.out.drew
        generalize (LX.getD k []).length = nl at *
        generalize str (LX.getD k []) = s1 at *
        clear p1' p2' q3 r3
        go_wp2_with fail
        go_big_region
        go_wp2
        go_roundw
        case rel => exact ⟨k + 1, by simp, by omega, HBDR.out⟩
        case measure => simp [intOf]; omega
      · obtain rfl : k = la := by omega
        have HCw : Hid (Below W2.heap.size W2 wr) := Lib.hid (HC13.out.trans (HB.out.mono HC13.out.size))
        obtain ⟨g0, g1, a0, a1, hb_⟩ := HK2.out wr HCw.out
        clear hb_
        go_wp2_with fail
        obtain ⟨pn, hpn⟩ : ∃ q : Nat, p = (q : Int) := ⟨p.toNat, by have := hM.1; unfold Geo.May at this; omega⟩
        obtain ⟨tn, htn⟩ : ∃ q : Nat, t = (q : Int) := ⟨t.toNat, by have := hM.1; unfold Geo.May at this; omega⟩
        subst hpn htn
        have HMG := Lib.hid hM
        have ht24 : tn ≤ 24 := by have := hM.1; unfold Geo.May at this; omega
        have hxt : xa.length ≤ tn := by have := hM.2.2.1; omega
        have HFA : Hid (∀ W, Below v13.heap.size v13 W → Calls Try.prog 14 #[.agg #[.int .i64 (pn : Int), .int .i64 (tn : Int)], .slice (some ⟨gx, 0, none⟩) k cx, .int .u8 (cv : Int)] W (FilTo W LX (fullL [cv]) tn)) := Lib.hid (fun W h => filled_any pn tn cv gx k cx LX ht24 HCV.out HLX.out (by have := HLA.out; omega) (by have := HLA.out; omega) (fun i hi => by rw [HLE.out] at hi ⊢; rw [blks_256 HMG.out ca i hi]; omega) W (HBX.out.below h))
        have HFL : Hid (LX ++ List.replicate (tn + 1 - LX.length) (fullL [cv]) = filB ca xa (fullL [cv]) tn) := Lib.hid (by rw [HLE.out]; rfl)
        have HPA : Hid (∀ (W : World) (g cap : Nat), tn + 1 ≤ cap → cap ≤ 9223372036854775807 → Blk W g (filB ca xa (fullL [cv]) tn) → Calls Try.prog 13 #[.agg #[.int .i64 (pn : Int), .int .i64 (tn : Int)], .slice (some ⟨g, 0, none⟩) (tn + 1) cap] W (fun e w' => ∃ A cp, e = .returned (.tuple #[.agg #[.int .u64 (ca : Int), .slice A xa.length cp], .int .i64 0]) ∧ Below W.heap.size W w' ∧ LgOk w' A xa)) := Lib.hid (fun W g cap h1 h2 hb => (parse14_any pn tn g cap (filB ca xa (fullL [cv]) tn) HMG.out.1 (filB_len hxt) h1 h2 (filB_256 HMG.out ca tn _ (full_len _)) W hb).mono (fun e w' h => parse_back HMG.out HUA.out h))
        have HK16 : Hid (∀ W, Below v13.heap.size v13 W → W.cell? ⟨w.heap.size, 0, none⟩ = some (.int .i64 (pn : Int)) ∧ W.cell? ⟨w.heap.size, 1, none⟩ = some (.int .i64 (tn : Int))) := Lib.hid (fun W h => by
          obtain ⟨g0, g1, _⟩ := HK2.out W (HC13.out.trans (h.mono HC13.out.size))
          exact ⟨g0, g1⟩)
        generalize fullL [cv] = fc at *
        generalize filB ca xa fc tn = FL at *
        have hxn := HQA.out.n
        clear hM hxt ht24 HLA hl9 g0 g1 a0 a1 HBY hk hlt
        refine wp_region_F (S := fun (W : World) => W.cell? ⟨w.heap.size, 0, none⟩ = some (.int .i64 (pn : Int)) ∧ W.cell? ⟨w.heap.size, 1, none⟩ = some (.int .i64 (tn : Int))) [] (by kernel_rfl) (HK16.out _ HB.out.drew) (fun hHeld => ?_)
        refine wpAnyF_take (i := 0) (oi := _) (v := ?_) rfl (by kernel_rfl) (by kernel_rfl) (by kernel_rfl) (by kernel_rfl) (fun _ _ _ h => h) (Or.inl ⟨by rfl, ?_⟩) (by assumption) ?_
        rotate_left 1
        · intro w hSw
          (try dsimp only at hSw)
          (first | (go_simp; done) | (go_simp; with_reducible rfl))
        (try simp only [Act.put, List.getElem_toArray, List.getElem_cons_succ, List.getElem_cons_zero, List.setIfInBounds_toArray, List.set_cons_zero, List.set_cons_succ])
        refine wpAnyF_take (i := 1) (oi := _) (v := ?_) rfl (by kernel_rfl) (by kernel_rfl) (by kernel_rfl) (by kernel_rfl) (fun _ _ _ h => h) (Or.inl ⟨by rfl, ?_⟩) (by assumption) ?_
        rotate_left 1
        · intro w hSw
          (try dsimp only at hSw)
          (first | (go_simp; done) | (go_simp; with_reducible rfl))
        (try simp only [Act.put, List.getElem_toArray, List.getElem_cons_succ, List.getElem_cons_zero, List.setIfInBounds_toArray, List.set_cons_zero, List.set_cons_succ])
        refine wpAnyF_take (i := 2) (oi := _) (v := ?_) rfl (by kernel_rfl) (by kernel_rfl) (by kernel_rfl) (by kernel_rfl) (fun _ _ _ h => h) (Or.inl ⟨by rfl, ?_⟩) (by assumption) ?_
        rotate_left 1
        · intro w hSw
          (try dsimp only at hSw)
          (first | (go_simp; done) | (go_simp; with_reducible rfl))
        (try simp only [Act.put, List.getElem_toArray, List.getElem_cons_succ, List.getElem_cons_zero, List.setIfInBounds_toArray, List.set_cons_zero, List.set_cons_succ])
        refine wpAnyF_take (i := 3) (oi := _) (v := ?_) rfl (by kernel_rfl) (by kernel_rfl) (by kernel_rfl) (by kernel_rfl) (fun _ _ _ h => h) (Or.inl ⟨by rfl, ?_⟩) (by assumption) ?_
        rotate_left 1
        · intro w hSw
          (try dsimp only at hSw)
          (first | (go_simp; done) | (go_simp; with_reducible rfl))
        (try simp only [Act.put, List.getElem_toArray, List.getElem_cons_succ, List.getElem_cons_zero, List.setIfInBounds_toArray, List.set_cons_zero, List.set_cons_succ])
        refine wpAnyF_ready (rs := [4, 9]) (by kernel_rfl) (by simp) ?_
        refine AllReadyF.cons (o := _) rfl (fun K hK => ?_) (AllReadyF.cons (o := _) rfl (fun K hK => ?_) AllReadyF.nil)
        · go_simp
          (go_at_call 14)
          refine (HFA.out wr.drew (HB.out.drew)).mono ?_
          rintro e y4 ⟨gF, cF, rfl, hblk4, hb4, hc1, hc2, hgn, hcur⟩
          rw [HFL.out] at hblk4
          have HF4 := Lib.hid hblk4
          have HD4 : Hid (Below v13.heap.size v13 y4) := Lib.hid ((HB.out.drew).trans (hb4.mono (HB.out.drew).size))
          have HE4 := Lib.hid hb4
          have HC1 := Lib.hid hc1
          have HC2 := Lib.hid hc2
          clear hblk4 hb4 hc1 hc2 hgn hcur
          refine hK.out _ _ (HK16.out _ HD4.out) (fun hHeld4 => ?_)
          clear hK K
          (try simp only [Act.put, List.getElem_toArray, List.getElem_cons_succ, List.getElem_cons_zero, List.setIfInBounds_toArray, List.set_cons_zero, List.set_cons_succ])
          refine wpAnyF_ready (rs := [5, 9]) (by kernel_rfl) (by simp) ?_
          refine AllReadyF.cons (o := _) rfl (fun K hK => ?_) (AllReadyF.cons (o := _) rfl (fun K hK => ?_) AllReadyF.nil)
          · go_simp
            (go_at_call 13)
            refine (HPA.out y4 gF cF HC1.out HC2.out (HF4.out)).mono ?_
            rintro e y5 ⟨A5, c5, rfl, hb5, hq5⟩
            have HD5 : Hid (Below v13.heap.size v13 y5) := Lib.hid ((HD4.out).trans (hb5.mono (HD4.out).size))
            have HE5 := Lib.hid hb5
            have HQ5 := Lib.hid hq5
            clear hb5 hq5
            refine hK.out _ _ (HK16.out _ HD5.out) (fun hHeld5 => ?_)
            clear hK K
            (try simp only [Act.put, List.getElem_toArray, List.getElem_cons_succ, List.getElem_cons_zero, List.setIfInBounds_toArray, List.set_cons_zero, List.set_cons_succ])
            refine wpAnyF_take (i := 6) (oi := _) (v := ?_) rfl (by kernel_rfl) (by kernel_rfl) (by kernel_rfl) (by kernel_rfl) (fun _ _ _ h => h) (Or.inl ⟨by rfl, ?_⟩) (by assumption) ?_
            rotate_left 1
            · intro w hSw
              (try dsimp only at hSw)
              (first | (go_simp; done) | (go_simp; with_reducible rfl))
            (try simp only [Act.put, List.getElem_toArray, List.getElem_cons_succ, List.getElem_cons_zero, List.setIfInBounds_toArray, List.set_cons_zero, List.set_cons_succ])
            refine wpAnyF_take (i := 7) (oi := _) (v := ?_) rfl (by kernel_rfl) (by kernel_rfl) (by kernel_rfl) (by kernel_rfl) (fun _ _ _ h => h) (Or.inl ⟨by rfl, ?_⟩) (by assumption) ?_
            rotate_left 1
            · intro w hSw
              (try dsimp only at hSw)
              (first | (go_simp; done) | (go_simp; with_reducible rfl))
            (try simp only [Act.put, List.getElem_toArray, List.getElem_cons_succ, List.getElem_cons_zero, List.setIfInBounds_toArray, List.set_cons_zero, List.set_cons_succ])
            refine wpAnyF_take (i := 8) (oi := _) (v := ?_) rfl (by kernel_rfl) (by kernel_rfl) (by kernel_rfl) (by kernel_rfl) (fun _ _ _ h => h) (Or.inl ⟨by rfl, ?_⟩) (by assumption) ?_
            rotate_left 1
            · intro w hSw
              (try dsimp only at hSw)
              (first | (go_simp; done) | (go_simp; with_reducible rfl))
            (try simp only [Act.put, List.getElem_toArray, List.getElem_cons_succ, List.getElem_cons_zero, List.setIfInBounds_toArray, List.set_cons_zero, List.set_cons_succ])
            have hX9 : ((y5).alloc (.cells #[.int .u64 0, .slice none 0 0] 35)).heap[(y5).heap.size]? = some (.cells #[.int .u64 0, .slice none 0 0] 35 (0, 0)) := heap_alloc_new (y5) (.cells #[.int .u64 0, .slice none 0 0] 35)
            have hA9 : Below (y5).heap.size (y5) ((y5).alloc (.cells #[.int .u64 0, .slice none 0 0] 35)) := (Below.refl _ _).alloc (Nat.le_refl _) _
            have HZ9 : Hid (Below (y5).heap.size (y5) ((y5).alloc (.cells #[.int .u64 0, .slice none 0 0] 35))) := Lib.hid hA9
            have HA9 : Hid (Below v13.heap.size v13 ((y5).alloc (.cells #[.int .u64 0, .slice none 0 0] 35))) := Lib.hid ((HD5.out).trans (hA9.mono (HD5.out).size))
            have HX9 := Lib.hid hX9
            clear hX9 hA9
            refine wpAnyF_ready (rs := [9]) (by kernel_rfl) (by simp) ?_
            refine AllReadyF.cons (o := _) rfl (fun K hK => ?_) AllReadyF.nil
            go_simp
            refine hK.out _ _ (HK16.out _ HA9.out) (fun hHeld9 => ?_)
            clear hK K
            (try simp only [Act.put, List.getElem_toArray, List.getElem_cons_succ, List.getElem_cons_zero, List.setIfInBounds_toArray, List.set_cons_zero, List.set_cons_succ])
            have HQ9 : Hid (LgOk (y5.alloc (.cells #[.int .u64 0, .slice none 0 0] 35)) A5 xa) := Lib.hid (HQ5.out.below HZ9.out)
            generalize y5.alloc (.cells #[.int .u64 0, .slice none 0 0] 35) = y9 at *
            obtain ⟨b, hb⟩ : ∃ b, b = y5.heap.size := ⟨_, rfl⟩
            have HBb : Hid (v13.heap.size ≤ b) := Lib.hid (by rw [hb]; exact HD5.out.size)
            rw [← hb] at HX9 ⊢
            clear hb
            have q6 : y9.cell? ⟨b, 0, none⟩ = some (.int .u64 0) := blk_cell HX9.out 0
            have q7 : y9.cell? ⟨b, 1, none⟩ = some (.slice none 0 0) := blk_cell HX9.out 1
            have q8 : y9.frozen? ⟨b, 0, none⟩ = false := blk_free HX9.out 0
            have q9 : y9.frozen? ⟨b, 1, none⟩ = false := blk_free HX9.out 1
            have HDF0 : Hid (Below v13.heap.size v13 ((y9.setCell ⟨b, 0, none⟩ (.int .u64 (ca : Int))).setCell ⟨b, 1, none⟩ (.slice A5 xa.length c5))) := Lib.hid ((HA9.out.setCell (p := ⟨b, 0, none⟩) HBb.out _).setCell (p := ⟨b, 1, none⟩) HBb.out _)
            have HQF0 : Hid (LgOk ((y9.setCell ⟨b, 0, none⟩ (.int .u64 (ca : Int))).setCell ⟨b, 1, none⟩ (.slice A5 xa.length c5)) A5 xa) := Lib.hid ((HQ9.out).box (x := 0) HX9.out (fun k hk => (Below.heap_setCell _ _ _ k hk).trans (Below.heap_setCell _ _ _ k hk)) (by rw [size_set, size_set]))
            have HXF0 : Hid (((y9.setCell ⟨b, 0, none⟩ (.int .u64 (ca : Int))).setCell ⟨b, 1, none⟩ (.slice A5 xa.length c5)).heap[b]? = some (.cells #[.int .u64 (ca : Int), .slice A5 xa.length c5] 35 (0, 0))) := Lib.hid (by
              have h := blk_set (blk_set HX9.out 0 (.int .u64 (ca : Int))) 1 (.slice A5 xa.length c5)
              simpa using h)
            refine wpAnyF_ready (rs := [10]) (by kernel_rfl) (by simp) ?_
            refine AllReadyF.cons (o := _) rfl (fun K hK => ?_) AllReadyF.nil
            go_simp
            refine hK.out _ _ (HK16.out _ HDF0.out) (fun hHeld10 => ?_)
            clear hK K
            (try simp only [Act.put, List.getElem_toArray, List.getElem_cons_succ, List.getElem_cons_zero, List.setIfInBounds_toArray, List.set_cons_zero, List.set_cons_succ])
            refine wpAnyF_take (i := 11) (oi := _) (v := ?_) rfl (by kernel_rfl) (by kernel_rfl) (by kernel_rfl) (by kernel_rfl) (fun _ _ _ h => h) (Or.inl ⟨by rfl, ?_⟩) (by assumption) ?_
            rotate_left 1
            · intro w hSw
              (try dsimp only at hSw)
              (first | (go_simp; done) | (go_simp; with_reducible rfl))
            (try simp only [Act.put, List.getElem_toArray, List.getElem_cons_succ, List.getElem_cons_zero, List.setIfInBounds_toArray, List.set_cons_zero, List.set_cons_succ])
            refine wpAnyF_done (by kernel_rfl) ?_ _
            obtain ⟨WF, hWF⟩ : ∃ WF, WF = ((y9.setCell ⟨b, 0, none⟩ (.int .u64 (ca : Int))).setCell ⟨b, 1, none⟩ (.slice A5 xa.length c5)) := ⟨_, rfl⟩
            rw [← hWF] at HDF0 HQF0 HXF0
            rw [← hWF]
            have HQF := Lib.hid HQF0.out
            have HXF := Lib.hid HXF0.out
            have HW2 : Hid (Below W2.heap.size W2 WF) := Lib.hid (HC13.out.trans (HDF0.out.mono HC13.out.size))
            clear hWF q6 q7 q8 q9 HDF0 HQF0 HXF0 hHeld hHeld4 hHeld5 hHeld9 hHeld10
            have HK17 : Hid (∀ W, Below WF.heap.size WF W → W.cell? ⟨b, 0, none⟩ = some (.int .u64 (ca : Int)) ∧ W.cell? ⟨b, 1, none⟩ = some (.slice A5 xa.length c5) ∧ W.cell? ⟨w.heap.size + 1, 0, none⟩ = some (.int .u64 (ca : Int)) ∧ W.cell? ⟨w.heap.size + 1, 1, none⟩ = some (.slice A1 xa.length c1)) := Lib.hid (fun W h => by
              obtain ⟨_, _, a0, a1, _⟩ := HK2.out W (HW2.out.trans (h.mono HW2.out.size))
              have hb := (h.block _ (blk_lt HXF.out)).trans HXF.out
              exact ⟨blk_cell hb 0, blk_cell hb 1, a0, a1⟩)
            go_wp2_with fail
            refine wp_region_F (S := fun (W : World) => W.cell? ⟨b, 0, none⟩ = some (.int .u64 (ca : Int)) ∧ W.cell? ⟨b, 1, none⟩ = some (.slice A5 xa.length c5) ∧ W.cell? ⟨w.heap.size + 1, 0, none⟩ = some (.int .u64 (ca : Int)) ∧ W.cell? ⟨w.heap.size + 1, 1, none⟩ = some (.slice A1 xa.length c1)) [] (by kernel_rfl) (HK17.out _ ((Below.refl _ _).drew)) (fun hHeld => ?_)
            refine wpAnyF_take (i := 0) (oi := _) (v := ?_) rfl (by kernel_rfl) (by kernel_rfl) (by kernel_rfl) (by kernel_rfl) (fun _ _ _ h => h) (Or.inl ⟨by rfl, ?_⟩) (by assumption) ?_
            rotate_left 1
            · intro w hSw
              (try dsimp only at hSw)
              (first | (go_simp; done) | (go_simp; with_reducible rfl))
            (try simp only [Act.put, List.getElem_toArray, List.getElem_cons_succ, List.getElem_cons_zero, List.setIfInBounds_toArray, List.set_cons_zero, List.set_cons_succ])
            refine wpAnyF_take (i := 1) (oi := _) (v := ?_) rfl (by kernel_rfl) (by kernel_rfl) (by kernel_rfl) (by kernel_rfl) (fun _ _ _ h => h) (Or.inl ⟨by rfl, ?_⟩) (by assumption) ?_
            rotate_left 1
            · intro w hSw
              (try dsimp only at hSw)
              (first | (go_simp; done) | (go_simp; with_reducible rfl))
            (try simp only [Act.put, List.getElem_toArray, List.getElem_cons_succ, List.getElem_cons_zero, List.setIfInBounds_toArray, List.set_cons_zero, List.set_cons_succ])
            refine wpAnyF_take (i := 2) (oi := _) (v := ?_) rfl (by kernel_rfl) (by kernel_rfl) (by kernel_rfl) (by kernel_rfl) (fun _ _ _ h => h) (Or.inl ⟨by rfl, ?_⟩) (by assumption) ?_
            rotate_left 1
            · intro w hSw
              (try dsimp only at hSw)
              (first | (go_simp; done) | (go_simp; with_reducible rfl))
            (try simp only [Act.put, List.getElem_toArray, List.getElem_cons_succ, List.getElem_cons_zero, List.setIfInBounds_toArray, List.set_cons_zero, List.set_cons_succ])
            refine wpAnyF_take (i := 3) (oi := _) (v := ?_) rfl (by kernel_rfl) (by kernel_rfl) (by kernel_rfl) (by kernel_rfl) (fun _ _ _ h => h) (Or.inl ⟨by rfl, ?_⟩) (by assumption) ?_
            rotate_left 1
            · intro w hSw
              (try dsimp only at hSw)
              (first | (go_simp; done) | (go_simp; with_reducible rfl))
            (try simp only [Act.put, List.getElem_toArray, List.getElem_cons_succ, List.getElem_cons_zero, List.setIfInBounds_toArray, List.set_cons_zero, List.set_cons_succ])
            refine wpAnyF_take (i := 5) (oi := _) (v := ?_) rfl (by kernel_rfl) (by kernel_rfl) (by kernel_rfl) (by kernel_rfl) (fun _ _ _ h => h) (Or.inl ⟨by rfl, ?_⟩) (by assumption) ?_
            rotate_left 1
            · intro w hSw
              (try dsimp only at hSw)
              (first | (go_simp; done) | (go_simp; with_reducible rfl))
            (try simp only [Act.put, List.getElem_toArray, List.getElem_cons_succ, List.getElem_cons_zero, List.setIfInBounds_toArray, List.set_cons_zero, List.set_cons_succ])
            refine wpAnyF_ready (rs := [4]) (by kernel_rfl) (by simp) ?_
            refine AllReadyF.cons (o := _) rfl (fun K hK => ?_) AllReadyF.nil
            go_simp
            (go_at_call 16)
            refine (plain14_any ca A5 xa.length c5 xa _ (HQF.out.below (Below.refl WF.heap.size WF).drew).v (HQF.out.below (Below.refl WF.heap.size WF).drew).z (by omega)).mono ?_
            rintro e u4 ⟨A7, c7, rfl, hbu4, hvu, hzu⟩
            have HU4 := Lib.hid (((Below.refl WF.heap.size WF).drew).trans (hbu4.mono ((Below.refl WF.heap.size WF).drew).size))
            have HV4 := Lib.hid hvu
            clear hbu4 hvu hzu
            refine hK.out _ _ (HK17.out _ HU4.out) (fun hHeld4 => ?_)
            clear hK K
            (try simp only [Act.put, List.getElem_toArray, List.getElem_cons_succ, List.getElem_cons_zero, List.setIfInBounds_toArray, List.set_cons_zero, List.set_cons_succ])
            refine wpAnyF_ready (rs := [6]) (by kernel_rfl) (by simp) ?_
            refine AllReadyF.cons (o := _) rfl (fun K hK => ?_) AllReadyF.nil
            go_simp
            (go_at_call 15)
            refine (rsame_any ca ca A7 A1 xa.length c7 xa.length c1 xa xa _ HV4.out ((HQA.out.below (HW2.out.trans (HU4.out.mono HW2.out.size))).v) (by omega) (by omega)).mono ?_
            rintro e u6 ⟨he6, hbu6⟩
            obtain rfl : e = .returned (.bool true) := by rw [he6]; simp
            have HU6 := Lib.hid (HU4.out.trans (hbu6.mono HU4.out.size))
            clear hbu6 he6
            refine hK.out _ _ (HK17.out _ HU6.out) (fun hHeld6 => ?_)
            clear hK K
            (try simp only [Act.put, List.getElem_toArray, List.getElem_cons_succ, List.getElem_cons_zero, List.setIfInBounds_toArray, List.set_cons_zero, List.set_cons_succ])
            refine wpAnyF_take (i := 7) (oi := _) (v := ?_) rfl (by kernel_rfl) (by kernel_rfl) (by kernel_rfl) (by kernel_rfl) (fun _ _ _ h => h) (Or.inl ⟨by rfl, ?_⟩) (by assumption) ?_
            rotate_left 1
            · intro w hSw
              (try dsimp only at hSw)
              (first | (go_simp; done) | (go_simp; with_reducible rfl))
            (try simp only [Act.put, List.getElem_toArray, List.getElem_cons_succ, List.getElem_cons_zero, List.setIfInBounds_toArray, List.set_cons_zero, List.set_cons_succ])
            refine wpAnyF_take (i := 8) (oi := _) (v := ?_) rfl (by kernel_rfl) (by kernel_rfl) (by kernel_rfl) (by kernel_rfl) (fun _ _ _ h => h) (Or.inl ⟨by rfl, ?_⟩) (by assumption) ?_
            rotate_left 1
            · intro w hSw
              (try dsimp only at hSw)
              (first | (go_simp; done) | (go_simp; with_reducible rfl))
            (try simp only [Act.put, List.getElem_toArray, List.getElem_cons_succ, List.getElem_cons_zero, List.setIfInBounds_toArray, List.set_cons_zero, List.set_cons_succ])
            refine wpAnyF_ready (rs := [9]) (by kernel_rfl) (by simp) ?_
            refine AllReadyF.cons (o := _) rfl (fun K hK => ?_) AllReadyF.nil
            go_simp
            (go_at_call 11)
            refine (awake14_any _).mono ?_
            rintro e u9 ⟨rfl, hbu9⟩
            have HU9 := Lib.hid (HU6.out.trans (hbu9.mono HU6.out.size))
            clear hbu9
            refine hK.out _ _ (HK17.out _ HU9.out) (fun hHeld9 => ?_)
            clear hK K
            (try simp only [Act.put, List.getElem_toArray, List.getElem_cons_succ, List.getElem_cons_zero, List.setIfInBounds_toArray, List.set_cons_zero, List.set_cons_succ])
            refine wpAnyF_take (i := 10) (oi := _) (v := ?_) rfl (by kernel_rfl) (by kernel_rfl) (by kernel_rfl) (by kernel_rfl) (fun _ _ _ h => h) (Or.inl ⟨by rfl, ?_⟩) (by assumption) ?_
            rotate_left 1
            · intro w hSw
              (try dsimp only at hSw)
              (first | (go_simp; done) | (go_simp; with_reducible rfl))
            (try simp only [Act.put, List.getElem_toArray, List.getElem_cons_succ, List.getElem_cons_zero, List.setIfInBounds_toArray, List.set_cons_zero, List.set_cons_succ])
            refine wpAnyF_take (i := 11) (oi := _) (v := ?_) rfl (by kernel_rfl) (by kernel_rfl) (by kernel_rfl) (by kernel_rfl) (fun _ _ _ h => h) (Or.inl ⟨by rfl, ?_⟩) (by assumption) ?_
            rotate_left 1
            · intro w hSw
              (try dsimp only at hSw)
              (first | (go_simp; done) | (go_simp; with_reducible rfl))
            (try simp only [Act.put, List.getElem_toArray, List.getElem_cons_succ, List.getElem_cons_zero, List.setIfInBounds_toArray, List.set_cons_zero, List.set_cons_succ])
            refine wpAnyF_done (by kernel_rfl) ?_ _
            clear hHeld hHeld4 hHeld6 hHeld9
            go_wp2
            go_ret
            exact ⟨rfl, HB2.out.trans ((HW2.out.trans (HU9.out.mono HW2.out.size)).mono HB2.out.size)⟩
          · have hX9 : ((y4).alloc (.cells #[.int .u64 0, .slice none 0 0] 35)).heap[(y4).heap.size]? = some (.cells #[.int .u64 0, .slice none 0 0] 35 (0, 0)) := heap_alloc_new (y4) (.cells #[.int .u64 0, .slice none 0 0] 35)
            have hA9 : Below (y4).heap.size (y4) ((y4).alloc (.cells #[.int .u64 0, .slice none 0 0] 35)) := (Below.refl _ _).alloc (Nat.le_refl _) _
            have HZ9 : Hid (Below (y4).heap.size (y4) ((y4).alloc (.cells #[.int .u64 0, .slice none 0 0] 35))) := Lib.hid hA9
            have HA9 : Hid (Below v13.heap.size v13 ((y4).alloc (.cells #[.int .u64 0, .slice none 0 0] 35))) := Lib.hid ((HD4.out).trans (hA9.mono (HD4.out).size))
            have HX9 := Lib.hid hX9
            clear hX9 hA9
            go_simp
            refine hK.out _ _ (HK16.out _ HA9.out) (fun hHeld9 => ?_)
            clear hK K
            (try simp only [Act.put, List.getElem_toArray, List.getElem_cons_succ, List.getElem_cons_zero, List.setIfInBounds_toArray, List.set_cons_zero, List.set_cons_succ])
            have HF9 : Hid (Blk (y4.alloc (.cells #[.int .u64 0, .slice none 0 0] 35)) gF FL) := Lib.hid (HF4.out.below HZ9.out)
            generalize y4.alloc (.cells #[.int .u64 0, .slice none 0 0] 35) = y9 at *
            obtain ⟨b, hb⟩ : ∃ b, b = y4.heap.size := ⟨_, rfl⟩
            have HBb : Hid (v13.heap.size ≤ b) := Lib.hid (by rw [hb]; exact HD4.out.size)
            rw [← hb] at HX9 ⊢
            clear hb
            have HLT : Hid (b < y9.heap.size) := Lib.hid (blk_lt HX9.out)
            refine wpAnyF_ready (rs := [5]) (by kernel_rfl) (by simp) ?_
            refine AllReadyF.cons (o := _) rfl (fun K hK => ?_) AllReadyF.nil
            go_simp
            (go_at_call 13)
            refine (HPA.out y9 gF cF HC1.out HC2.out (HF9.out)).mono ?_
            rintro e y5 ⟨A5, c5, rfl, hb5, hq5⟩
            have HD5 : Hid (Below v13.heap.size v13 y5) := Lib.hid ((HA9.out).trans (hb5.mono (HA9.out).size))
            have HE5 := Lib.hid hb5
            have HQ5 := Lib.hid hq5
            clear hb5 hq5
            refine hK.out _ _ (HK16.out _ HD5.out) (fun hHeld5 => ?_)
            clear hK K
            (try simp only [Act.put, List.getElem_toArray, List.getElem_cons_succ, List.getElem_cons_zero, List.setIfInBounds_toArray, List.set_cons_zero, List.set_cons_succ])
            refine wpAnyF_take (i := 6) (oi := _) (v := ?_) rfl (by kernel_rfl) (by kernel_rfl) (by kernel_rfl) (by kernel_rfl) (fun _ _ _ h => h) (Or.inl ⟨by rfl, ?_⟩) (by assumption) ?_
            rotate_left 1
            · intro w hSw
              (try dsimp only at hSw)
              (first | (go_simp; done) | (go_simp; with_reducible rfl))
            (try simp only [Act.put, List.getElem_toArray, List.getElem_cons_succ, List.getElem_cons_zero, List.setIfInBounds_toArray, List.set_cons_zero, List.set_cons_succ])
            refine wpAnyF_take (i := 7) (oi := _) (v := ?_) rfl (by kernel_rfl) (by kernel_rfl) (by kernel_rfl) (by kernel_rfl) (fun _ _ _ h => h) (Or.inl ⟨by rfl, ?_⟩) (by assumption) ?_
            rotate_left 1
            · intro w hSw
              (try dsimp only at hSw)
              (first | (go_simp; done) | (go_simp; with_reducible rfl))
            (try simp only [Act.put, List.getElem_toArray, List.getElem_cons_succ, List.getElem_cons_zero, List.setIfInBounds_toArray, List.set_cons_zero, List.set_cons_succ])
            refine wpAnyF_take (i := 8) (oi := _) (v := ?_) rfl (by kernel_rfl) (by kernel_rfl) (by kernel_rfl) (by kernel_rfl) (fun _ _ _ h => h) (Or.inl ⟨by rfl, ?_⟩) (by assumption) ?_
            rotate_left 1
            · intro w hSw
              (try dsimp only at hSw)
              (first | (go_simp; done) | (go_simp; with_reducible rfl))
            (try simp only [Act.put, List.getElem_toArray, List.getElem_cons_succ, List.getElem_cons_zero, List.setIfInBounds_toArray, List.set_cons_zero, List.set_cons_succ])
            have HX5 := Lib.hid ((HE5.out.block b HLT.out).trans HX9.out)
            have q6 : y5.cell? ⟨b, 0, none⟩ = some (.int .u64 0) := blk_cell HX5.out 0
            have q7 : y5.cell? ⟨b, 1, none⟩ = some (.slice none 0 0) := blk_cell HX5.out 1
            have q8 : y5.frozen? ⟨b, 0, none⟩ = false := blk_free HX5.out 0
            have q9 : y5.frozen? ⟨b, 1, none⟩ = false := blk_free HX5.out 1
            have HDF0 : Hid (Below v13.heap.size v13 ((y5.setCell ⟨b, 0, none⟩ (.int .u64 (ca : Int))).setCell ⟨b, 1, none⟩ (.slice A5 xa.length c5))) := Lib.hid ((HD5.out.setCell (p := ⟨b, 0, none⟩) HBb.out _).setCell (p := ⟨b, 1, none⟩) HBb.out _)
            have HQF0 : Hid (LgOk ((y5.setCell ⟨b, 0, none⟩ (.int .u64 (ca : Int))).setCell ⟨b, 1, none⟩ (.slice A5 xa.length c5)) A5 xa) := Lib.hid ((HQ5.out).box (x := 0) HX5.out (fun k hk => (Below.heap_setCell _ _ _ k hk).trans (Below.heap_setCell _ _ _ k hk)) (by rw [size_set, size_set]))
            have HXF0 : Hid (((y5.setCell ⟨b, 0, none⟩ (.int .u64 (ca : Int))).setCell ⟨b, 1, none⟩ (.slice A5 xa.length c5)).heap[b]? = some (.cells #[.int .u64 (ca : Int), .slice A5 xa.length c5] 35 (0, 0))) := Lib.hid (by
              have h := blk_set (blk_set HX5.out 0 (.int .u64 (ca : Int))) 1 (.slice A5 xa.length c5)
              simpa using h)
            refine wpAnyF_ready (rs := [10]) (by kernel_rfl) (by simp) ?_
            refine AllReadyF.cons (o := _) rfl (fun K hK => ?_) AllReadyF.nil
            go_simp
            refine hK.out _ _ (HK16.out _ HDF0.out) (fun hHeld10 => ?_)
            clear hK K
            (try simp only [Act.put, List.getElem_toArray, List.getElem_cons_succ, List.getElem_cons_zero, List.setIfInBounds_toArray, List.set_cons_zero, List.set_cons_succ])
            refine wpAnyF_take (i := 11) (oi := _) (v := ?_) rfl (by kernel_rfl) (by kernel_rfl) (by kernel_rfl) (by kernel_rfl) (fun _ _ _ h => h) (Or.inl ⟨by rfl, ?_⟩) (by assumption) ?_
            rotate_left 1
            · intro w hSw
              (try dsimp only at hSw)
              (first | (go_simp; done) | (go_simp; with_reducible rfl))
            (try simp only [Act.put, List.getElem_toArray, List.getElem_cons_succ, List.getElem_cons_zero, List.setIfInBounds_toArray, List.set_cons_zero, List.set_cons_succ])
            refine wpAnyF_done (by kernel_rfl) ?_ _
            obtain ⟨WF, hWF⟩ : ∃ WF, WF = ((y5.setCell ⟨b, 0, none⟩ (.int .u64 (ca : Int))).setCell ⟨b, 1, none⟩ (.slice A5 xa.length c5)) := ⟨_, rfl⟩
            rw [← hWF] at HDF0 HQF0 HXF0
            rw [← hWF]
            have HQF := Lib.hid HQF0.out
            have HXF := Lib.hid HXF0.out
            have HW2 : Hid (Below W2.heap.size W2 WF) := Lib.hid (HC13.out.trans (HDF0.out.mono HC13.out.size))
            clear hWF q6 q7 q8 q9 HDF0 HQF0 HXF0 hHeld hHeld4 hHeld5 hHeld9 hHeld10
            have HK17 : Hid (∀ W, Below WF.heap.size WF W → W.cell? ⟨b, 0, none⟩ = some (.int .u64 (ca : Int)) ∧ W.cell? ⟨b, 1, none⟩ = some (.slice A5 xa.length c5) ∧ W.cell? ⟨w.heap.size + 1, 0, none⟩ = some (.int .u64 (ca : Int)) ∧ W.cell? ⟨w.heap.size + 1, 1, none⟩ = some (.slice A1 xa.length c1)) := Lib.hid (fun W h => by
              obtain ⟨_, _, a0, a1, _⟩ := HK2.out W (HW2.out.trans (h.mono HW2.out.size))
              have hb := (h.block _ (blk_lt HXF.out)).trans HXF.out
              exact ⟨blk_cell hb 0, blk_cell hb 1, a0, a1⟩)
            go_wp2_with fail
            refine wp_region_F (S := fun (W : World) => W.cell? ⟨b, 0, none⟩ = some (.int .u64 (ca : Int)) ∧ W.cell? ⟨b, 1, none⟩ = some (.slice A5 xa.length c5) ∧ W.cell? ⟨w.heap.size + 1, 0, none⟩ = some (.int .u64 (ca : Int)) ∧ W.cell? ⟨w.heap.size + 1, 1, none⟩ = some (.slice A1 xa.length c1)) [] (by kernel_rfl) (HK17.out _ ((Below.refl _ _).drew)) (fun hHeld => ?_)
            refine wpAnyF_take (i := 0) (oi := _) (v := ?_) rfl (by kernel_rfl) (by kernel_rfl) (by kernel_rfl) (by kernel_rfl) (fun _ _ _ h => h) (Or.inl ⟨by rfl, ?_⟩) (by assumption) ?_
            rotate_left 1
            · intro w hSw
              (try dsimp only at hSw)
              (first | (go_simp; done) | (go_simp; with_reducible rfl))
            (try simp only [Act.put, List.getElem_toArray, List.getElem_cons_succ, List.getElem_cons_zero, List.setIfInBounds_toArray, List.set_cons_zero, List.set_cons_succ])
            refine wpAnyF_take (i := 1) (oi := _) (v := ?_) rfl (by kernel_rfl) (by kernel_rfl) (by kernel_rfl) (by kernel_rfl) (fun _ _ _ h => h) (Or.inl ⟨by rfl, ?_⟩) (by assumption) ?_
            rotate_left 1
            · intro w hSw
              (try dsimp only at hSw)
              (first | (go_simp; done) | (go_simp; with_reducible rfl))
            (try simp only [Act.put, List.getElem_toArray, List.getElem_cons_succ, List.getElem_cons_zero, List.setIfInBounds_toArray, List.set_cons_zero, List.set_cons_succ])
            refine wpAnyF_take (i := 2) (oi := _) (v := ?_) rfl (by kernel_rfl) (by kernel_rfl) (by kernel_rfl) (by kernel_rfl) (fun _ _ _ h => h) (Or.inl ⟨by rfl, ?_⟩) (by assumption) ?_
            rotate_left 1
            · intro w hSw
              (try dsimp only at hSw)
              (first | (go_simp; done) | (go_simp; with_reducible rfl))
            (try simp only [Act.put, List.getElem_toArray, List.getElem_cons_succ, List.getElem_cons_zero, List.setIfInBounds_toArray, List.set_cons_zero, List.set_cons_succ])
            refine wpAnyF_take (i := 3) (oi := _) (v := ?_) rfl (by kernel_rfl) (by kernel_rfl) (by kernel_rfl) (by kernel_rfl) (fun _ _ _ h => h) (Or.inl ⟨by rfl, ?_⟩) (by assumption) ?_
            rotate_left 1
            · intro w hSw
              (try dsimp only at hSw)
              (first | (go_simp; done) | (go_simp; with_reducible rfl))
            (try simp only [Act.put, List.getElem_toArray, List.getElem_cons_succ, List.getElem_cons_zero, List.setIfInBounds_toArray, List.set_cons_zero, List.set_cons_succ])
            refine wpAnyF_take (i := 5) (oi := _) (v := ?_) rfl (by kernel_rfl) (by kernel_rfl) (by kernel_rfl) (by kernel_rfl) (fun _ _ _ h => h) (Or.inl ⟨by rfl, ?_⟩) (by assumption) ?_
            rotate_left 1
            · intro w hSw
              (try dsimp only at hSw)
              (first | (go_simp; done) | (go_simp; with_reducible rfl))
            (try simp only [Act.put, List.getElem_toArray, List.getElem_cons_succ, List.getElem_cons_zero, List.setIfInBounds_toArray, List.set_cons_zero, List.set_cons_succ])
            refine wpAnyF_ready (rs := [4]) (by kernel_rfl) (by simp) ?_
            refine AllReadyF.cons (o := _) rfl (fun K hK => ?_) AllReadyF.nil
            go_simp
            (go_at_call 16)
            refine (plain14_any ca A5 xa.length c5 xa _ (HQF.out.below (Below.refl WF.heap.size WF).drew).v (HQF.out.below (Below.refl WF.heap.size WF).drew).z (by omega)).mono ?_
            rintro e u4 ⟨A7, c7, rfl, hbu4, hvu, hzu⟩
            have HU4 := Lib.hid (((Below.refl WF.heap.size WF).drew).trans (hbu4.mono ((Below.refl WF.heap.size WF).drew).size))
            have HV4 := Lib.hid hvu
            clear hbu4 hvu hzu
            refine hK.out _ _ (HK17.out _ HU4.out) (fun hHeld4 => ?_)
            clear hK K
            (try simp only [Act.put, List.getElem_toArray, List.getElem_cons_succ, List.getElem_cons_zero, List.setIfInBounds_toArray, List.set_cons_zero, List.set_cons_succ])
            refine wpAnyF_ready (rs := [6]) (by kernel_rfl) (by simp) ?_
            refine AllReadyF.cons (o := _) rfl (fun K hK => ?_) AllReadyF.nil
            go_simp
            (go_at_call 15)
            refine (rsame_any ca ca A7 A1 xa.length c7 xa.length c1 xa xa _ HV4.out ((HQA.out.below (HW2.out.trans (HU4.out.mono HW2.out.size))).v) (by omega) (by omega)).mono ?_
            rintro e u6 ⟨he6, hbu6⟩
            obtain rfl : e = .returned (.bool true) := by rw [he6]; simp
            have HU6 := Lib.hid (HU4.out.trans (hbu6.mono HU4.out.size))
            clear hbu6 he6
            refine hK.out _ _ (HK17.out _ HU6.out) (fun hHeld6 => ?_)
            clear hK K
            (try simp only [Act.put, List.getElem_toArray, List.getElem_cons_succ, List.getElem_cons_zero, List.setIfInBounds_toArray, List.set_cons_zero, List.set_cons_succ])
            refine wpAnyF_take (i := 7) (oi := _) (v := ?_) rfl (by kernel_rfl) (by kernel_rfl) (by kernel_rfl) (by kernel_rfl) (fun _ _ _ h => h) (Or.inl ⟨by rfl, ?_⟩) (by assumption) ?_
            rotate_left 1
            · intro w hSw
              (try dsimp only at hSw)
              (first | (go_simp; done) | (go_simp; with_reducible rfl))
            (try simp only [Act.put, List.getElem_toArray, List.getElem_cons_succ, List.getElem_cons_zero, List.setIfInBounds_toArray, List.set_cons_zero, List.set_cons_succ])
            refine wpAnyF_take (i := 8) (oi := _) (v := ?_) rfl (by kernel_rfl) (by kernel_rfl) (by kernel_rfl) (by kernel_rfl) (fun _ _ _ h => h) (Or.inl ⟨by rfl, ?_⟩) (by assumption) ?_
            rotate_left 1
            · intro w hSw
              (try dsimp only at hSw)
              (first | (go_simp; done) | (go_simp; with_reducible rfl))
            (try simp only [Act.put, List.getElem_toArray, List.getElem_cons_succ, List.getElem_cons_zero, List.setIfInBounds_toArray, List.set_cons_zero, List.set_cons_succ])
            refine wpAnyF_ready (rs := [9]) (by kernel_rfl) (by simp) ?_
            refine AllReadyF.cons (o := _) rfl (fun K hK => ?_) AllReadyF.nil
            go_simp
            (go_at_call 11)
            refine (awake14_any _).mono ?_
            rintro e u9 ⟨rfl, hbu9⟩
            have HU9 := Lib.hid (HU6.out.trans (hbu9.mono HU6.out.size))
            clear hbu9
            refine hK.out _ _ (HK17.out _ HU9.out) (fun hHeld9 => ?_)
            clear hK K
            (try simp only [Act.put, List.getElem_toArray, List.getElem_cons_succ, List.getElem_cons_zero, List.setIfInBounds_toArray, List.set_cons_zero, List.set_cons_succ])
            refine wpAnyF_take (i := 10) (oi := _) (v := ?_) rfl (by kernel_rfl) (by kernel_rfl) (by kernel_rfl) (by kernel_rfl) (fun _ _ _ h => h) (Or.inl ⟨by rfl, ?_⟩) (by assumption) ?_
            rotate_left 1
            · intro w hSw
              (try dsimp only at hSw)
              (first | (go_simp; done) | (go_simp; with_reducible rfl))
            (try simp only [Act.put, List.getElem_toArray, List.getElem_cons_succ, List.getElem_cons_zero, List.setIfInBounds_toArray, List.set_cons_zero, List.set_cons_succ])
            refine wpAnyF_take (i := 11) (oi := _) (v := ?_) rfl (by kernel_rfl) (by kernel_rfl) (by kernel_rfl) (by kernel_rfl) (fun _ _ _ h => h) (Or.inl ⟨by rfl, ?_⟩) (by assumption) ?_
            rotate_left 1
            · intro w hSw
              (try dsimp only at hSw)
              (first | (go_simp; done) | (go_simp; with_reducible rfl))
            (try simp only [Act.put, List.getElem_toArray, List.getElem_cons_succ, List.getElem_cons_zero, List.setIfInBounds_toArray, List.set_cons_zero, List.set_cons_succ])
            refine wpAnyF_done (by kernel_rfl) ?_ _
            clear hHeld hHeld4 hHeld6 hHeld9
            go_wp2
            go_ret
            exact ⟨rfl, HB2.out.trans ((HW2.out.trans (HU9.out.mono HW2.out.size)).mono HB2.out.size)⟩
        · have hX9 : (wr.alloc (.cells #[.int .u64 0, .slice none 0 0] 35)).drew.heap[wr.heap.size]? = some (.cells #[.int .u64 0, .slice none 0 0] 35 (0, 0)) := heap_alloc_new wr (.cells #[.int .u64 0, .slice none 0 0] 35)
          have HA9 : Hid (Below v13.heap.size v13 (wr.alloc (.cells #[.int .u64 0, .slice none 0 0] 35)).drew) := Lib.hid (HB.out.trans ((((Below.refl wr.heap.size wr).alloc (Nat.le_refl _) (.cells #[.int .u64 0, .slice none 0 0] 35)).drew).mono HB.out.size))
          have HX9 := Lib.hid hX9
          clear hX9
          go_simp
          refine hK.out _ _ (HK16.out _ HA9.out) (fun hHeld9 => ?_)
          clear hK K
          (try simp only [Act.put, List.getElem_toArray, List.getElem_cons_succ, List.getElem_cons_zero, List.setIfInBounds_toArray, List.set_cons_zero, List.set_cons_succ])
          generalize (wr.alloc (.cells #[.int .u64 0, .slice none 0 0] 35)).drew = y9 at *
          obtain ⟨b, hb⟩ : ∃ b, b = wr.heap.size := ⟨_, rfl⟩
          have HBb : Hid (v13.heap.size ≤ b) := Lib.hid (by rw [hb]; exact HB.out.size)
          rw [← hb] at HX9 ⊢
          clear hb
          have HLT : Hid (b < y9.heap.size) := Lib.hid (blk_lt HX9.out)
          refine wpAnyF_ready (rs := [4]) (by kernel_rfl) (by simp) ?_
          refine AllReadyF.cons (o := _) rfl (fun K hK => ?_) AllReadyF.nil
          go_simp
          (go_at_call 14)
          refine (HFA.out y9 (HA9.out)).mono ?_
          rintro e y4 ⟨gF, cF, rfl, hblk4, hb4, hc1, hc2, hgn, hcur⟩
          rw [HFL.out] at hblk4
          have HF4 := Lib.hid hblk4
          have HD4 : Hid (Below v13.heap.size v13 y4) := Lib.hid ((HA9.out).trans (hb4.mono (HA9.out).size))
          have HE4 := Lib.hid hb4
          have HC1 := Lib.hid hc1
          have HC2 := Lib.hid hc2
          clear hblk4 hb4 hc1 hc2 hgn hcur
          refine hK.out _ _ (HK16.out _ HD4.out) (fun hHeld4 => ?_)
          clear hK K
          (try simp only [Act.put, List.getElem_toArray, List.getElem_cons_succ, List.getElem_cons_zero, List.setIfInBounds_toArray, List.set_cons_zero, List.set_cons_succ])
          refine wpAnyF_ready (rs := [5]) (by kernel_rfl) (by simp) ?_
          refine AllReadyF.cons (o := _) rfl (fun K hK => ?_) AllReadyF.nil
          go_simp
          (go_at_call 13)
          refine (HPA.out y4 gF cF HC1.out HC2.out (HF4.out)).mono ?_
          rintro e y5 ⟨A5, c5, rfl, hb5, hq5⟩
          have HD5 : Hid (Below v13.heap.size v13 y5) := Lib.hid ((HD4.out).trans (hb5.mono (HD4.out).size))
          have HE5 := Lib.hid hb5
          have HQ5 := Lib.hid hq5
          clear hb5 hq5
          refine hK.out _ _ (HK16.out _ HD5.out) (fun hHeld5 => ?_)
          clear hK K
          (try simp only [Act.put, List.getElem_toArray, List.getElem_cons_succ, List.getElem_cons_zero, List.setIfInBounds_toArray, List.set_cons_zero, List.set_cons_succ])
          refine wpAnyF_take (i := 6) (oi := _) (v := ?_) rfl (by kernel_rfl) (by kernel_rfl) (by kernel_rfl) (by kernel_rfl) (fun _ _ _ h => h) (Or.inl ⟨by rfl, ?_⟩) (by assumption) ?_
          rotate_left 1
          · intro w hSw
            (try dsimp only at hSw)
            (first | (go_simp; done) | (go_simp; with_reducible rfl))
          (try simp only [Act.put, List.getElem_toArray, List.getElem_cons_succ, List.getElem_cons_zero, List.setIfInBounds_toArray, List.set_cons_zero, List.set_cons_succ])
          refine wpAnyF_take (i := 7) (oi := _) (v := ?_) rfl (by kernel_rfl) (by kernel_rfl) (by kernel_rfl) (by kernel_rfl) (fun _ _ _ h => h) (Or.inl ⟨by rfl, ?_⟩) (by assumption) ?_
          rotate_left 1
          · intro w hSw
            (try dsimp only at hSw)
            (first | (go_simp; done) | (go_simp; with_reducible rfl))
          (try simp only [Act.put, List.getElem_toArray, List.getElem_cons_succ, List.getElem_cons_zero, List.setIfInBounds_toArray, List.set_cons_zero, List.set_cons_succ])
          refine wpAnyF_take (i := 8) (oi := _) (v := ?_) rfl (by kernel_rfl) (by kernel_rfl) (by kernel_rfl) (by kernel_rfl) (fun _ _ _ h => h) (Or.inl ⟨by rfl, ?_⟩) (by assumption) ?_
          rotate_left 1
          · intro w hSw
            (try dsimp only at hSw)
            (first | (go_simp; done) | (go_simp; with_reducible rfl))
          (try simp only [Act.put, List.getElem_toArray, List.getElem_cons_succ, List.getElem_cons_zero, List.setIfInBounds_toArray, List.set_cons_zero, List.set_cons_succ])
          have HX5 := Lib.hid ((HE5.out.block b (Nat.lt_of_lt_of_le HLT.out HE4.out.size)).trans ((HE4.out.block b HLT.out).trans HX9.out))
          have q6 : y5.cell? ⟨b, 0, none⟩ = some (.int .u64 0) := blk_cell HX5.out 0
          have q7 : y5.cell? ⟨b, 1, none⟩ = some (.slice none 0 0) := blk_cell HX5.out 1
          have q8 : y5.frozen? ⟨b, 0, none⟩ = false := blk_free HX5.out 0
          have q9 : y5.frozen? ⟨b, 1, none⟩ = false := blk_free HX5.out 1
          have HDF0 : Hid (Below v13.heap.size v13 ((y5.setCell ⟨b, 0, none⟩ (.int .u64 (ca : Int))).setCell ⟨b, 1, none⟩ (.slice A5 xa.length c5))) := Lib.hid ((HD5.out.setCell (p := ⟨b, 0, none⟩) HBb.out _).setCell (p := ⟨b, 1, none⟩) HBb.out _)
          have HQF0 : Hid (LgOk ((y5.setCell ⟨b, 0, none⟩ (.int .u64 (ca : Int))).setCell ⟨b, 1, none⟩ (.slice A5 xa.length c5)) A5 xa) := Lib.hid ((HQ5.out).box (x := 0) HX5.out (fun k hk => (Below.heap_setCell _ _ _ k hk).trans (Below.heap_setCell _ _ _ k hk)) (by rw [size_set, size_set]))
          have HXF0 : Hid (((y5.setCell ⟨b, 0, none⟩ (.int .u64 (ca : Int))).setCell ⟨b, 1, none⟩ (.slice A5 xa.length c5)).heap[b]? = some (.cells #[.int .u64 (ca : Int), .slice A5 xa.length c5] 35 (0, 0))) := Lib.hid (by
            have h := blk_set (blk_set HX5.out 0 (.int .u64 (ca : Int))) 1 (.slice A5 xa.length c5)
            simpa using h)
          refine wpAnyF_ready (rs := [10]) (by kernel_rfl) (by simp) ?_
          refine AllReadyF.cons (o := _) rfl (fun K hK => ?_) AllReadyF.nil
          go_simp
          refine hK.out _ _ (HK16.out _ HDF0.out) (fun hHeld10 => ?_)
          clear hK K
          (try simp only [Act.put, List.getElem_toArray, List.getElem_cons_succ, List.getElem_cons_zero, List.setIfInBounds_toArray, List.set_cons_zero, List.set_cons_succ])
          refine wpAnyF_take (i := 11) (oi := _) (v := ?_) rfl (by kernel_rfl) (by kernel_rfl) (by kernel_rfl) (by kernel_rfl) (fun _ _ _ h => h) (Or.inl ⟨by rfl, ?_⟩) (by assumption) ?_
          rotate_left 1
          · intro w hSw
            (try dsimp only at hSw)
            (first | (go_simp; done) | (go_simp; with_reducible rfl))
          (try simp only [Act.put, List.getElem_toArray, List.getElem_cons_succ, List.getElem_cons_zero, List.setIfInBounds_toArray, List.set_cons_zero, List.set_cons_succ])
          refine wpAnyF_done (by kernel_rfl) ?_ _
          obtain ⟨WF, hWF⟩ : ∃ WF, WF = ((y5.setCell ⟨b, 0, none⟩ (.int .u64 (ca : Int))).setCell ⟨b, 1, none⟩ (.slice A5 xa.length c5)) := ⟨_, rfl⟩
          rw [← hWF] at HDF0 HQF0 HXF0
          rw [← hWF]
          have HQF := Lib.hid HQF0.out
          have HXF := Lib.hid HXF0.out
          have HW2 : Hid (Below W2.heap.size W2 WF) := Lib.hid (HC13.out.trans (HDF0.out.mono HC13.out.size))
          clear hWF q6 q7 q8 q9 HDF0 HQF0 HXF0 hHeld hHeld4 hHeld5 hHeld9 hHeld10
          have HK17 : Hid (∀ W, Below WF.heap.size WF W → W.cell? ⟨b, 0, none⟩ = some (.int .u64 (ca : Int)) ∧ W.cell? ⟨b, 1, none⟩ = some (.slice A5 xa.length c5) ∧ W.cell? ⟨w.heap.size + 1, 0, none⟩ = some (.int .u64 (ca : Int)) ∧ W.cell? ⟨w.heap.size + 1, 1, none⟩ = some (.slice A1 xa.length c1)) := Lib.hid (fun W h => by
            obtain ⟨_, _, a0, a1, _⟩ := HK2.out W (HW2.out.trans (h.mono HW2.out.size))
            have hb := (h.block _ (blk_lt HXF.out)).trans HXF.out
            exact ⟨blk_cell hb 0, blk_cell hb 1, a0, a1⟩)
          go_wp2_with fail
          refine wp_region_F (S := fun (W : World) => W.cell? ⟨b, 0, none⟩ = some (.int .u64 (ca : Int)) ∧ W.cell? ⟨b, 1, none⟩ = some (.slice A5 xa.length c5) ∧ W.cell? ⟨w.heap.size + 1, 0, none⟩ = some (.int .u64 (ca : Int)) ∧ W.cell? ⟨w.heap.size + 1, 1, none⟩ = some (.slice A1 xa.length c1)) [] (by kernel_rfl) (HK17.out _ ((Below.refl _ _).drew)) (fun hHeld => ?_)
          refine wpAnyF_take (i := 0) (oi := _) (v := ?_) rfl (by kernel_rfl) (by kernel_rfl) (by kernel_rfl) (by kernel_rfl) (fun _ _ _ h => h) (Or.inl ⟨by rfl, ?_⟩) (by assumption) ?_
          rotate_left 1
          · intro w hSw
            (try dsimp only at hSw)
            (first | (go_simp; done) | (go_simp; with_reducible rfl))
          (try simp only [Act.put, List.getElem_toArray, List.getElem_cons_succ, List.getElem_cons_zero, List.setIfInBounds_toArray, List.set_cons_zero, List.set_cons_succ])
          refine wpAnyF_take (i := 1) (oi := _) (v := ?_) rfl (by kernel_rfl) (by kernel_rfl) (by kernel_rfl) (by kernel_rfl) (fun _ _ _ h => h) (Or.inl ⟨by rfl, ?_⟩) (by assumption) ?_
          rotate_left 1
          · intro w hSw
            (try dsimp only at hSw)
            (first | (go_simp; done) | (go_simp; with_reducible rfl))
          (try simp only [Act.put, List.getElem_toArray, List.getElem_cons_succ, List.getElem_cons_zero, List.setIfInBounds_toArray, List.set_cons_zero, List.set_cons_succ])
          refine wpAnyF_take (i := 2) (oi := _) (v := ?_) rfl (by kernel_rfl) (by kernel_rfl) (by kernel_rfl) (by kernel_rfl) (fun _ _ _ h => h) (Or.inl ⟨by rfl, ?_⟩) (by assumption) ?_
          rotate_left 1
          · intro w hSw
            (try dsimp only at hSw)
            (first | (go_simp; done) | (go_simp; with_reducible rfl))
          (try simp only [Act.put, List.getElem_toArray, List.getElem_cons_succ, List.getElem_cons_zero, List.setIfInBounds_toArray, List.set_cons_zero, List.set_cons_succ])
          refine wpAnyF_take (i := 3) (oi := _) (v := ?_) rfl (by kernel_rfl) (by kernel_rfl) (by kernel_rfl) (by kernel_rfl) (fun _ _ _ h => h) (Or.inl ⟨by rfl, ?_⟩) (by assumption) ?_
          rotate_left 1
          · intro w hSw
            (try dsimp only at hSw)
            (first | (go_simp; done) | (go_simp; with_reducible rfl))
          (try simp only [Act.put, List.getElem_toArray, List.getElem_cons_succ, List.getElem_cons_zero, List.setIfInBounds_toArray, List.set_cons_zero, List.set_cons_succ])
          refine wpAnyF_take (i := 5) (oi := _) (v := ?_) rfl (by kernel_rfl) (by kernel_rfl) (by kernel_rfl) (by kernel_rfl) (fun _ _ _ h => h) (Or.inl ⟨by rfl, ?_⟩) (by assumption) ?_
          rotate_left 1
          · intro w hSw
            (try dsimp only at hSw)
            (first | (go_simp; done) | (go_simp; with_reducible rfl))
          (try simp only [Act.put, List.getElem_toArray, List.getElem_cons_succ, List.getElem_cons_zero, List.setIfInBounds_toArray, List.set_cons_zero, List.set_cons_succ])
          refine wpAnyF_ready (rs := [4]) (by kernel_rfl) (by simp) ?_
          refine AllReadyF.cons (o := _) rfl (fun K hK => ?_) AllReadyF.nil
          go_simp
          (go_at_call 16)
          refine (plain14_any ca A5 xa.length c5 xa _ (HQF.out.below (Below.refl WF.heap.size WF).drew).v (HQF.out.below (Below.refl WF.heap.size WF).drew).z (by omega)).mono ?_
          rintro e u4 ⟨A7, c7, rfl, hbu4, hvu, hzu⟩
          have HU4 := Lib.hid (((Below.refl WF.heap.size WF).drew).trans (hbu4.mono ((Below.refl WF.heap.size WF).drew).size))
          have HV4 := Lib.hid hvu
          clear hbu4 hvu hzu
          refine hK.out _ _ (HK17.out _ HU4.out) (fun hHeld4 => ?_)
          clear hK K
          (try simp only [Act.put, List.getElem_toArray, List.getElem_cons_succ, List.getElem_cons_zero, List.setIfInBounds_toArray, List.set_cons_zero, List.set_cons_succ])
          refine wpAnyF_ready (rs := [6]) (by kernel_rfl) (by simp) ?_
          refine AllReadyF.cons (o := _) rfl (fun K hK => ?_) AllReadyF.nil
          go_simp
          (go_at_call 15)
          refine (rsame_any ca ca A7 A1 xa.length c7 xa.length c1 xa xa _ HV4.out ((HQA.out.below (HW2.out.trans (HU4.out.mono HW2.out.size))).v) (by omega) (by omega)).mono ?_
          rintro e u6 ⟨he6, hbu6⟩
          obtain rfl : e = .returned (.bool true) := by rw [he6]; simp
          have HU6 := Lib.hid (HU4.out.trans (hbu6.mono HU4.out.size))
          clear hbu6 he6
          refine hK.out _ _ (HK17.out _ HU6.out) (fun hHeld6 => ?_)
          clear hK K
          (try simp only [Act.put, List.getElem_toArray, List.getElem_cons_succ, List.getElem_cons_zero, List.setIfInBounds_toArray, List.set_cons_zero, List.set_cons_succ])
          refine wpAnyF_take (i := 7) (oi := _) (v := ?_) rfl (by kernel_rfl) (by kernel_rfl) (by kernel_rfl) (by kernel_rfl) (fun _ _ _ h => h) (Or.inl ⟨by rfl, ?_⟩) (by assumption) ?_
          rotate_left 1
          · intro w hSw
            (try dsimp only at hSw)
            (first | (go_simp; done) | (go_simp; with_reducible rfl))
          (try simp only [Act.put, List.getElem_toArray, List.getElem_cons_succ, List.getElem_cons_zero, List.setIfInBounds_toArray, List.set_cons_zero, List.set_cons_succ])
          refine wpAnyF_take (i := 8) (oi := _) (v := ?_) rfl (by kernel_rfl) (by kernel_rfl) (by kernel_rfl) (by kernel_rfl) (fun _ _ _ h => h) (Or.inl ⟨by rfl, ?_⟩) (by assumption) ?_
          rotate_left 1
          · intro w hSw
            (try dsimp only at hSw)
            (first | (go_simp; done) | (go_simp; with_reducible rfl))
          (try simp only [Act.put, List.getElem_toArray, List.getElem_cons_succ, List.getElem_cons_zero, List.setIfInBounds_toArray, List.set_cons_zero, List.set_cons_succ])
          refine wpAnyF_ready (rs := [9]) (by kernel_rfl) (by simp) ?_
          refine AllReadyF.cons (o := _) rfl (fun K hK => ?_) AllReadyF.nil
          go_simp
          (go_at_call 11)
          refine (awake14_any _).mono ?_
          rintro e u9 ⟨rfl, hbu9⟩
          have HU9 := Lib.hid (HU6.out.trans (hbu9.mono HU6.out.size))
          clear hbu9
          refine hK.out _ _ (HK17.out _ HU9.out) (fun hHeld9 => ?_)
          clear hK K
          (try simp only [Act.put, List.getElem_toArray, List.getElem_cons_succ, List.getElem_cons_zero, List.setIfInBounds_toArray, List.set_cons_zero, List.set_cons_succ])
          refine wpAnyF_take (i := 10) (oi := _) (v := ?_) rfl (by kernel_rfl) (by kernel_rfl) (by kernel_rfl) (by kernel_rfl) (fun _ _ _ h => h) (Or.inl ⟨by rfl, ?_⟩) (by assumption) ?_
          rotate_left 1
          · intro w hSw
            (try dsimp only at hSw)
            (first | (go_simp; done) | (go_simp; with_reducible rfl))
          (try simp only [Act.put, List.getElem_toArray, List.getElem_cons_succ, List.getElem_cons_zero, List.setIfInBounds_toArray, List.set_cons_zero, List.set_cons_succ])
          refine wpAnyF_take (i := 11) (oi := _) (v := ?_) rfl (by kernel_rfl) (by kernel_rfl) (by kernel_rfl) (by kernel_rfl) (fun _ _ _ h => h) (Or.inl ⟨by rfl, ?_⟩) (by assumption) ?_
          rotate_left 1
          · intro w hSw
            (try dsimp only at hSw)
            (first | (go_simp; done) | (go_simp; with_reducible rfl))
          (try simp only [Act.put, List.getElem_toArray, List.getElem_cons_succ, List.getElem_cons_zero, List.setIfInBounds_toArray, List.set_cons_zero, List.set_cons_succ])
          refine wpAnyF_done (by kernel_rfl) ?_ _
          clear hHeld hHeld4 hHeld6 hHeld9
          go_wp2
          go_ret
          exact ⟨rfl, HB2.out.trans ((HW2.out.trans (HU9.out.mono HW2.out.size)).mono HB2.out.size)⟩
end Go.Proofs.Ytnalebocfbbpdaa
