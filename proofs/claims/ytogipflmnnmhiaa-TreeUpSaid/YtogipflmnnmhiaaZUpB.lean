/-
  Joined: TwRn, TwRa.
-/
import Derived.Test.YtogipflmnnmhiaaZUpA
namespace Go.Proofs.Ytogipflmnnmhiaa
set_option maxRecDepth 100000
section
open Go.RowKit Go
set_option linter.unusedVariables false
set_option linter.unusedSimpArgs false
set_option maxRecDepth 100000
set_option maxHeartbeats 4000000 in
theorem treeUp_n1 (n k : Int) (x : List Nat) (A : Option Addr) (m c : Nat) (ps : Nat → List Nat) (w : World) (hds : DgS w A m ps) (hm : m ≤ 12) (hc : m ≤ c) (hx : IsDig x) (h1 : n < 1) :
    Calls Try.prog 4 #[.int .i64 n, .int .i64 k, .agg (dA x), .slice A m c] w fun e w' => e = .returned (.bool true) ∧ Below w.heap.size w w' := by
  have hz := zero_dig
  have hzr := zero32
  obtain ⟨W0, hW0⟩ : ∃ W0, W0 = w.alloc (.cells (dA x) 34) := ⟨_, rfl⟩
  have HB0 : Hid (Below w.heap.size w W0) := Lib.hid (by rw [hW0]; exact (Below.refl _ _).alloc (Nat.le_refl _) _)
  have HP6 : Hid (W0.heap[w.heap.size]? = some (.cells (dA x) 34 (0, 0))) := Lib.hid (by rw [hW0]; exact heap_alloc_new w _)
  have HW0 := Lib.hid hW0
  have hx32 : (dA x).size = 32 := by rw [rowV_size]
  have HIX := Lib.hid (info_d32 hx32)
  have HOX : Hid ((dA x).all (·.oneCell') = true) := Lib.hid (dA_one _)
  have HDS := Lib.hid hds
  have HX := Lib.hid hx
  obtain ⟨B, hB⟩ : ∃ B, B = W0.heap.size := ⟨_, rfl⟩
  have HKW : Hid (B = w.heap.size + 1) := Lib.hid (by rw [hB, hW0]; simp)
  have HBB := Lib.hid hB
  have HSZ : Hid (B ≤ W0.heap.size) := Lib.hid (Nat.le_of_eq hB)
  have HIZ := Lib.hid (info_dig (cs := zeros 32) (by simp [zeros]))
  have HOZ : Hid ((zeros 32).all (·.oneCell') = true) := Lib.hid (by kernel_rfl)
  have HUP : Hid (∀ (b : Nat) (A2 : Option Addr) (c2 : Nat) (W : World), Calls Try.prog 15 #[.pointer (some ⟨b, 0, none⟩), .int .i64 n, .int .i64 k, .agg (dA x), .slice A2 m c2] W (UpNo W)) := Lib.hid (fun b A2 c2 W => tup_no b n k x A2 m c2 W (by omega))
  obtain ⟨xd, hxd⟩ : ∃ z, z = dA x := ⟨_, rfl⟩
  have HXD := Lib.hid hxd
  rw [← hxd] at HW0 HP6 HIX HOX HUP ⊢
  clear hW0 hx32 hxd hds hx hB
  have hm1 : ¬ (12 : Int) < (m : Int) := by omega
  have hm2 : ¬ 12 < m := by omega
  go_enter Try.func4, Try.ntmps4
  go_wp2_with (with_reducible refine Go.Great.wpList_boxTo rfl 34 (.tmp 2) rfl (some 6) rfl w.heap.size (by simp) xd rfl ?_)
  rw [← HW0.out]
  go_upto_region 3 with (fail)
  have HK : Hid (∀ W, Below B W0 W → W.heap[w.heap.size]? = some (.cells xd 34 (0, 0)) ∧ Below B W0 W) := Lib.hid (fun W hW => ⟨(hW.block _ (by have := HKW.out; omega)).trans HP6.out, hW⟩)
  refine wp_region_F (S := (fun W : World => W.heap[w.heap.size]? = some (.cells xd 34 (0, 0)) ∧ Below B W0 W)) [] (by kernel_rfl) (HK.out _ (by have e := HBB.out; rw [e]; exact (Below.refl _ _).drew)) (fun hh => ?_)
  refine wpAnyF_take (i := 1) (oi := _) (v := ?_) rfl (by kernel_rfl) (by kernel_rfl) (by kernel_rfl) (by kernel_rfl) (fun _ _ _ h => h) (Or.inl ⟨by rfl, ?_⟩) (by assumption) ?_
  rotate_left 1
  · intro w _
    (first | (go_simp; done) | (go_simp; with_reducible rfl))
  (try simp only [Act.put, List.getElem_toArray, List.getElem_cons_succ, List.getElem_cons_zero, List.setIfInBounds_toArray, List.set_cons_zero, List.set_cons_succ])
  refine wpAnyF_take (i := 2) (oi := _) (v := ?_) rfl (by kernel_rfl) (by kernel_rfl) (by kernel_rfl) (by kernel_rfl) (fun _ _ _ h => h) (Or.inl ⟨by rfl, ?_⟩) (by assumption) ?_
  rotate_left 1
  · intro w _
    (first | (go_simp; done) | (go_simp; with_reducible rfl))
  (try simp only [Act.put, List.getElem_toArray, List.getElem_cons_succ, List.getElem_cons_zero, List.setIfInBounds_toArray, List.set_cons_zero, List.set_cons_succ])
  refine wpAnyF_take (i := 3) (oi := _) (v := _) rfl (by kernel_rfl) (by kernel_rfl) (by kernel_rfl) (by kernel_rfl) (fun _ _ _ h => h) (yields_rowU (by rfl) 34 (.tmp 6) rfl w.heap.size 0 rfl xd _ (fun W h => range_cells h.1) Try.underlying34 rfl HIX.out) (by assumption) ?_
  (try simp only [Act.put, List.getElem_toArray, List.getElem_cons_succ, List.getElem_cons_zero, List.setIfInBounds_toArray, List.set_cons_zero, List.set_cons_succ])
  refine wpAnyF_take (i := 4) (oi := _) (v := ?_) rfl (by kernel_rfl) (by kernel_rfl) (by kernel_rfl) (by kernel_rfl) (fun _ _ _ h => h) (Or.inl ⟨by rfl, ?_⟩) (by assumption) ?_
  rotate_left 1
  · intro w _
    (first | (go_simp; done) | (go_simp; with_reducible rfl))
  (try simp only [Act.put, List.getElem_toArray, List.getElem_cons_succ, List.getElem_cons_zero, List.setIfInBounds_toArray, List.set_cons_zero, List.set_cons_succ])
  refine wpAnyF_ready (rs := [0, 10]) (by kernel_rfl) (by simp) ?_
  refine AllReadyF.cons (o := _) rfl (fun K hK => ?_) (AllReadyF.cons (o := _) rfl (fun K hK => ?_) AllReadyF.nil)
  · go_simp
    (go_at_call 8)
    refine (book12_any _).mono ?_
    rintro e w1 ⟨b, g, S, rfl, hbk, hS, hbn⟩
    refine hK.out _ _ (HK.out _ (hh.2.trans (hbn.mono (Nat.le_trans HSZ.out hh.2.size)))) (fun hh0 => ?_)
    clear hK K
    (try simp only [Act.put, List.getElem_toArray, List.getElem_cons_succ, List.getElem_cons_zero, List.setIfInBounds_toArray, List.set_cons_zero, List.set_cons_succ])
    have HBK0 := Lib.hid hbk
    have HS : Hid (∀ j, S j → B ≤ j) := Lib.hid (fun j hj => Nat.le_trans (Nat.le_trans HSZ.out hh.2.size) (hS j hj))
    clear hbk hS hbn
    refine wpAnyF_ready (rs := [5, 10]) (by kernel_rfl) (by simp) ?_
    refine AllReadyF.cons (o := _) rfl (fun K hK => ?_) (AllReadyF.cons (o := _) rfl (fun K hK => ?_) AllReadyF.nil)
    · go_simp
      (go_at_call 9)
      refine (digests_new m c A ps _ (HDS.out.below (HB0.out.trans (hh0.2.mono (by have := HKW.out; omega)))) (by omega)).mono ?_
      rintro e w2 ⟨A2, c2, rfl, hc2, hd2, hbn, hnew⟩
      refine hK.out _ _ (HK.out _ (hh0.2.trans (hbn.mono (Nat.le_trans HSZ.out hh0.2.size)))) (fun hh5 => ?_)
      clear hK K
      (try simp only [Act.put, List.getElem_toArray, List.getElem_cons_succ, List.getElem_cons_zero, List.setIfInBounds_toArray, List.set_cons_zero, List.set_cons_succ])
      have HBK5 := Lib.hid (HBK0.out.below hbn)
      have HD5 := Lib.hid hd2
      have HC2 := Lib.hid hc2
      have HOFF : Hid (∀ ad, A2 = some ad → ¬ S ad.block) := Lib.hid (fun ad e z => by have h1 := hnew ad e; have h2 := HBK0.out.sub z; omega)
      clear hd2 hc2 hbn hnew
      refine wpAnyF_ready (rs := [6, 10]) (by kernel_rfl) (by simp) ?_
      refine AllReadyF.cons (o := _) rfl (fun K hK => ?_) (AllReadyF.cons (o := _) rfl (fun K hK => ?_) AllReadyF.nil)
      · go_simp
        (go_at_call 15)
        refine (HUP.out b A2 c2 _).mono ?_
        rintro e w3 ⟨rfl, hbn⟩
        refine hK.out _ _ (HK.out _ (hh5.2.trans (hbn.mono (Nat.le_trans HSZ.out hh5.2.size)))) (fun hh6 => ?_)
        clear hK K
        (try simp only [Act.put, List.getElem_toArray, List.getElem_cons_succ, List.getElem_cons_zero, List.setIfInBounds_toArray, List.set_cons_zero, List.set_cons_succ])
        clear hbn
        refine wpAnyF_take (i := 7) (oi := _) (v := ?_) rfl (by kernel_rfl) (by kernel_rfl) (by kernel_rfl) (by kernel_rfl) (fun _ _ _ h => h) (Or.inl ⟨by rfl, ?_⟩) (by assumption) ?_
        rotate_left 1
        · intro w _
          (first | (go_simp; done) | (go_simp; with_reducible rfl))
        (try simp only [Act.put, List.getElem_toArray, List.getElem_cons_succ, List.getElem_cons_zero, List.setIfInBounds_toArray, List.set_cons_zero, List.set_cons_succ])
        refine wpAnyF_take (i := 8) (oi := _) (v := ?_) rfl (by kernel_rfl) (by kernel_rfl) (by kernel_rfl) (by kernel_rfl) (fun _ _ _ h => h) (Or.inl ⟨by rfl, ?_⟩) (by assumption) ?_
        rotate_left 1
        · intro w _
          (first | (go_simp; done) | (go_simp; with_reducible rfl))
        (try simp only [Act.put, List.getElem_toArray, List.getElem_cons_succ, List.getElem_cons_zero, List.setIfInBounds_toArray, List.set_cons_zero, List.set_cons_succ])
        refine wpAnyF_take (i := 9) (oi := _) (v := ?_) rfl (by kernel_rfl) (by kernel_rfl) (by kernel_rfl) (by kernel_rfl) (fun _ _ _ h => h) (Or.inl ⟨by rfl, ?_⟩) (by assumption) ?_
        rotate_left 1
        · intro w _
          (first | (go_simp; done) | (go_simp; with_reducible rfl))
        (try simp only [Act.put, List.getElem_toArray, List.getElem_cons_succ, List.getElem_cons_zero, List.setIfInBounds_toArray, List.set_cons_zero, List.set_cons_succ])
        refine wpAnyF_ready (rs := [10]) (by kernel_rfl) (by simp) ?_
        refine AllReadyF.cons (o := _) rfl (fun K hK => ?_) AllReadyF.nil
        go_simp
        refine hK.out _ _ (HK.out _ ((hh6.2).alloc (Nat.le_trans HSZ.out hh6.2.size) _)) (fun hh10 => ?_)
        clear hK K
        (try simp only [Act.put, List.getElem_toArray, List.getElem_cons_succ, List.getElem_cons_zero, List.setIfInBounds_toArray, List.set_cons_zero, List.set_cons_succ])
        have hr := heap_alloc_new w3 (.cells (zeros 32) 37)
        have hbn : Below w3.heap.size w3 (w3.alloc (.cells (zeros 32) 37)) := (Below.refl _ _).alloc (Nat.le_refl _) _
        have hrb : B ≤ w3.heap.size := (Nat.le_trans HSZ.out hh6.2.size)
        clear hbn
        obtain ⟨V, hV⟩ : ∃ V, V = w3.alloc (.cells (zeros 32) 37) := ⟨_, rfl⟩
        rw [← hV] at hr hh10 ⊢
        obtain ⟨r, hrr⟩ : ∃ r, r = w3.heap.size := ⟨_, rfl⟩
        rw [← hrr] at hr hrb ⊢
        have HR10 := Lib.hid hr
        have HRB := Lib.hid hrb
        clear hV hrr hr hrb
        refine wpAnyF_ready (rs := [11]) (by kernel_rfl) (by simp) ?_
        refine AllReadyF.cons (o := _) rfl (fun K hK => ?_) AllReadyF.nil
        rw [if_pos (by kernel_rfl)]
        refine wp_store_row 37 (.tmp 9) (.tmp 27) rfl r (zeros 32) rfl rfl _ (zeros 32) HR10.out HIZ.out rfl HOZ.out ?_
        refine hK.out _ _ (HK.out _ (below_setRow hh10.2 HRB.out _)) (fun hh11 => ?_)
        clear hK K
        (try simp only [Act.put, List.getElem_toArray, List.getElem_cons_succ, List.getElem_cons_zero, List.setIfInBounds_toArray, List.set_cons_zero, List.set_cons_succ])
        refine wpAnyF_ready (rs := [12]) (by kernel_rfl) (by simp) ?_
        refine AllReadyF.cons (o := _) rfl (fun K hK => ?_) AllReadyF.nil
        go_simp
        refine hK.out _ _ (by assumption) (fun hh12 => ?_)
        clear hK K
        (try simp only [Act.put, List.getElem_toArray, List.getElem_cons_succ, List.getElem_cons_zero, List.setIfInBounds_toArray, List.set_cons_zero, List.set_cons_succ])
        refine wpAnyF_done (by kernel_rfl) ?_ _
        have hrf := setRow_heap V r (zeros 32) (zeros 32) _ _ HR10.out
        obtain ⟨VF, hVF⟩ : ∃ VF, VF = V.setRow r (zeros 32) := ⟨_, rfl⟩
        rw [← hVF] at hrf hh11 ⊢
        have HRF := Lib.hid hrf
        have HPF := Lib.hid hh11.1
        have HWF : Hid (Below w.heap.size w VF) := Lib.hid (HB0.out.trans (hh11.2.mono (by have := HKW.out; omega)))
        have HRG : Hid (w.heap.size < r) := Lib.hid (by have := HRB.out; have := HKW.out; omega)
        clear hrf hVF
        go_wp2_with (first
          | (with_reducible refine wpList_load_row_wU (by with_unfolding_all rfl) 37 (.tmp 9) rfl _ rfl 37 _ _ _ HRF.out Try.underlying37 rfl HIZ.out ?_)
          | (with_reducible refine wpList_binU (by with_unfolding_all rfl) .eql 37 37 (.tmp 54) (.tmp 55) rfl (.agg (zeros 32)) (.agg (zeros 32)) (.bool true) rfl (by with_unfolding_all rfl) (bk_guard _ _ _ _ _) (zero_eqU _) ?_))
        refine (awake12_any _).mono ?_
        rintro e w4 ⟨rfl, hb4⟩
        have HB4 := Lib.hid (HWF.out.trans (hb4.mono HWF.out.size))
        clear hb4
        go_wp2
        go_ret
        exact ⟨rfl, HB4.out⟩
      · go_simp
        refine hK.out _ _ (HK.out _ ((hh5.2).alloc (Nat.le_trans HSZ.out hh5.2.size) _)) (fun hh10 => ?_)
        clear hK K
        (try simp only [Act.put, List.getElem_toArray, List.getElem_cons_succ, List.getElem_cons_zero, List.setIfInBounds_toArray, List.set_cons_zero, List.set_cons_succ])
        have hr := heap_alloc_new w2 (.cells (zeros 32) 37)
        have hbn : Below w2.heap.size w2 (w2.alloc (.cells (zeros 32) 37)) := (Below.refl _ _).alloc (Nat.le_refl _) _
        have HBK10 := Lib.hid (HBK5.out.below hbn)
        have HD10 := Lib.hid (HD5.out.below hbn)
        have hrb : B ≤ w2.heap.size := (Nat.le_trans HSZ.out hh5.2.size)
        have hrs : ¬ S w2.heap.size := fun z => by have := HBK5.out.sub z; omega
        clear hbn
        obtain ⟨V, hV⟩ : ∃ V, V = w2.alloc (.cells (zeros 32) 37) := ⟨_, rfl⟩
        rw [← hV] at hr hh10 ⊢
        rw [← hV] at HBK10
        rw [← hV] at HD10
        obtain ⟨r, hrr⟩ : ∃ r, r = w2.heap.size := ⟨_, rfl⟩
        rw [← hrr] at hr hrb ⊢
        rw [← hrr] at hrs
        have HRS := Lib.hid hrs
        clear hrs
        have HR10 := Lib.hid hr
        have HRB := Lib.hid hrb
        clear hV hrr hr hrb
        refine wpAnyF_ready (rs := [6]) (by kernel_rfl) (by simp) ?_
        refine AllReadyF.cons (o := _) rfl (fun K hK => ?_) AllReadyF.nil
        go_simp
        (go_at_call 15)
        refine (HUP.out b A2 c2 _).mono ?_
        rintro e w3 ⟨rfl, hbn⟩
        refine hK.out _ _ (HK.out _ (hh10.2.trans (hbn.mono (Nat.le_trans HSZ.out hh10.2.size)))) (fun hh6 => ?_)
        clear hK K
        (try simp only [Act.put, List.getElem_toArray, List.getElem_cons_succ, List.getElem_cons_zero, List.setIfInBounds_toArray, List.set_cons_zero, List.set_cons_succ])
        have HR6 := Lib.hid ((hbn.block _ (blk_lt HR10.out)).trans HR10.out)
        clear hbn
        refine wpAnyF_take (i := 7) (oi := _) (v := ?_) rfl (by kernel_rfl) (by kernel_rfl) (by kernel_rfl) (by kernel_rfl) (fun _ _ _ h => h) (Or.inl ⟨by rfl, ?_⟩) (by assumption) ?_
        rotate_left 1
        · intro w _
          (first | (go_simp; done) | (go_simp; with_reducible rfl))
        (try simp only [Act.put, List.getElem_toArray, List.getElem_cons_succ, List.getElem_cons_zero, List.setIfInBounds_toArray, List.set_cons_zero, List.set_cons_succ])
        refine wpAnyF_take (i := 8) (oi := _) (v := ?_) rfl (by kernel_rfl) (by kernel_rfl) (by kernel_rfl) (by kernel_rfl) (fun _ _ _ h => h) (Or.inl ⟨by rfl, ?_⟩) (by assumption) ?_
        rotate_left 1
        · intro w _
          (first | (go_simp; done) | (go_simp; with_reducible rfl))
        (try simp only [Act.put, List.getElem_toArray, List.getElem_cons_succ, List.getElem_cons_zero, List.setIfInBounds_toArray, List.set_cons_zero, List.set_cons_succ])
        refine wpAnyF_take (i := 9) (oi := _) (v := ?_) rfl (by kernel_rfl) (by kernel_rfl) (by kernel_rfl) (by kernel_rfl) (fun _ _ _ h => h) (Or.inl ⟨by rfl, ?_⟩) (by assumption) ?_
        rotate_left 1
        · intro w _
          (first | (go_simp; done) | (go_simp; with_reducible rfl))
        (try simp only [Act.put, List.getElem_toArray, List.getElem_cons_succ, List.getElem_cons_zero, List.setIfInBounds_toArray, List.set_cons_zero, List.set_cons_succ])
        refine wpAnyF_ready (rs := [11]) (by kernel_rfl) (by simp) ?_
        refine AllReadyF.cons (o := _) rfl (fun K hK => ?_) AllReadyF.nil
        rw [if_pos (by kernel_rfl)]
        refine wp_store_row 37 (.tmp 9) (.tmp 27) rfl r (zeros 32) rfl rfl _ (zeros 32) HR6.out HIZ.out rfl HOZ.out ?_
        refine hK.out _ _ (HK.out _ (below_setRow hh6.2 HRB.out _)) (fun hh11 => ?_)
        clear hK K
        (try simp only [Act.put, List.getElem_toArray, List.getElem_cons_succ, List.getElem_cons_zero, List.setIfInBounds_toArray, List.set_cons_zero, List.set_cons_succ])
        refine wpAnyF_ready (rs := [12]) (by kernel_rfl) (by simp) ?_
        refine AllReadyF.cons (o := _) rfl (fun K hK => ?_) AllReadyF.nil
        go_simp
        refine hK.out _ _ (by assumption) (fun hh12 => ?_)
        clear hK K
        (try simp only [Act.put, List.getElem_toArray, List.getElem_cons_succ, List.getElem_cons_zero, List.setIfInBounds_toArray, List.set_cons_zero, List.set_cons_succ])
        refine wpAnyF_done (by kernel_rfl) ?_ _
        have hrf := setRow_heap w3 r (zeros 32) (zeros 32) _ _ HR6.out
        obtain ⟨VF, hVF⟩ : ∃ VF, VF = w3.setRow r (zeros 32) := ⟨_, rfl⟩
        rw [← hVF] at hrf hh11 ⊢
        have HRF := Lib.hid hrf
        have HPF := Lib.hid hh11.1
        have HWF : Hid (Below w.heap.size w VF) := Lib.hid (HB0.out.trans (hh11.2.mono (by have := HKW.out; omega)))
        have HRG : Hid (w.heap.size < r) := Lib.hid (by have := HRB.out; have := HKW.out; omega)
        clear hrf hVF
        go_wp2_with (first
          | (with_reducible refine wpList_load_row_wU (by with_unfolding_all rfl) 37 (.tmp 9) rfl _ rfl 37 _ _ _ HRF.out Try.underlying37 rfl HIZ.out ?_)
          | (with_reducible refine wpList_binU (by with_unfolding_all rfl) .eql 37 37 (.tmp 54) (.tmp 55) rfl (.agg (zeros 32)) (.agg (zeros 32)) (.bool true) rfl (by with_unfolding_all rfl) (bk_guard _ _ _ _ _) (zero_eqU _) ?_))
        refine (awake12_any _).mono ?_
        rintro e w4 ⟨rfl, hb4⟩
        have HB4 := Lib.hid (HWF.out.trans (hb4.mono HWF.out.size))
        clear hb4
        go_wp2
        go_ret
        exact ⟨rfl, HB4.out⟩
    · go_simp
      refine hK.out _ _ (HK.out _ ((hh0.2).alloc (Nat.le_trans HSZ.out hh0.2.size) _)) (fun hh10 => ?_)
      clear hK K
      (try simp only [Act.put, List.getElem_toArray, List.getElem_cons_succ, List.getElem_cons_zero, List.setIfInBounds_toArray, List.set_cons_zero, List.set_cons_succ])
      have hr := heap_alloc_new w1 (.cells (zeros 32) 37)
      have hbn : Below w1.heap.size w1 (w1.alloc (.cells (zeros 32) 37)) := (Below.refl _ _).alloc (Nat.le_refl _) _
      have HBK10 := Lib.hid (HBK0.out.below hbn)
      have hrb : B ≤ w1.heap.size := (Nat.le_trans HSZ.out hh0.2.size)
      have hrs : ¬ S w1.heap.size := fun z => by have := HBK0.out.sub z; omega
      clear hbn
      obtain ⟨V, hV⟩ : ∃ V, V = w1.alloc (.cells (zeros 32) 37) := ⟨_, rfl⟩
      rw [← hV] at hr hh10 ⊢
      rw [← hV] at HBK10
      obtain ⟨r, hrr⟩ : ∃ r, r = w1.heap.size := ⟨_, rfl⟩
      rw [← hrr] at hr hrb ⊢
      rw [← hrr] at hrs
      have HRS := Lib.hid hrs
      clear hrs
      have HR10 := Lib.hid hr
      have HRB := Lib.hid hrb
      clear hV hrr hr hrb
      refine wpAnyF_ready (rs := [5]) (by kernel_rfl) (by simp) ?_
      refine AllReadyF.cons (o := _) rfl (fun K hK => ?_) AllReadyF.nil
      go_simp
      (go_at_call 9)
      refine (digests_new m c A ps _ (HDS.out.below (HB0.out.trans (hh10.2.mono (by have := HKW.out; omega)))) (by omega)).mono ?_
      rintro e w2 ⟨A2, c2, rfl, hc2, hd2, hbn, hnew⟩
      refine hK.out _ _ (HK.out _ (hh10.2.trans (hbn.mono (Nat.le_trans HSZ.out hh10.2.size)))) (fun hh5 => ?_)
      clear hK K
      (try simp only [Act.put, List.getElem_toArray, List.getElem_cons_succ, List.getElem_cons_zero, List.setIfInBounds_toArray, List.set_cons_zero, List.set_cons_succ])
      have HBK5 := Lib.hid (HBK10.out.below hbn)
      have HD5 := Lib.hid hd2
      have HC2 := Lib.hid hc2
      have HOFF : Hid (∀ ad, A2 = some ad → ¬ S ad.block) := Lib.hid (fun ad e z => by have h1 := hnew ad e; have h2 := HBK10.out.sub z; omega)
      have HR5 := Lib.hid ((hbn.block _ (blk_lt HR10.out)).trans HR10.out)
      clear hd2 hc2 hbn hnew
      refine wpAnyF_ready (rs := [6]) (by kernel_rfl) (by simp) ?_
      refine AllReadyF.cons (o := _) rfl (fun K hK => ?_) AllReadyF.nil
      go_simp
      (go_at_call 15)
      refine (HUP.out b A2 c2 _).mono ?_
      rintro e w3 ⟨rfl, hbn⟩
      refine hK.out _ _ (HK.out _ (hh5.2.trans (hbn.mono (Nat.le_trans HSZ.out hh5.2.size)))) (fun hh6 => ?_)
      clear hK K
      (try simp only [Act.put, List.getElem_toArray, List.getElem_cons_succ, List.getElem_cons_zero, List.setIfInBounds_toArray, List.set_cons_zero, List.set_cons_succ])
      have HR6 := Lib.hid ((hbn.block _ (blk_lt HR5.out)).trans HR5.out)
      clear hbn
      refine wpAnyF_take (i := 7) (oi := _) (v := ?_) rfl (by kernel_rfl) (by kernel_rfl) (by kernel_rfl) (by kernel_rfl) (fun _ _ _ h => h) (Or.inl ⟨by rfl, ?_⟩) (by assumption) ?_
      rotate_left 1
      · intro w _
        (first | (go_simp; done) | (go_simp; with_reducible rfl))
      (try simp only [Act.put, List.getElem_toArray, List.getElem_cons_succ, List.getElem_cons_zero, List.setIfInBounds_toArray, List.set_cons_zero, List.set_cons_succ])
      refine wpAnyF_take (i := 8) (oi := _) (v := ?_) rfl (by kernel_rfl) (by kernel_rfl) (by kernel_rfl) (by kernel_rfl) (fun _ _ _ h => h) (Or.inl ⟨by rfl, ?_⟩) (by assumption) ?_
      rotate_left 1
      · intro w _
        (first | (go_simp; done) | (go_simp; with_reducible rfl))
      (try simp only [Act.put, List.getElem_toArray, List.getElem_cons_succ, List.getElem_cons_zero, List.setIfInBounds_toArray, List.set_cons_zero, List.set_cons_succ])
      refine wpAnyF_take (i := 9) (oi := _) (v := ?_) rfl (by kernel_rfl) (by kernel_rfl) (by kernel_rfl) (by kernel_rfl) (fun _ _ _ h => h) (Or.inl ⟨by rfl, ?_⟩) (by assumption) ?_
      rotate_left 1
      · intro w _
        (first | (go_simp; done) | (go_simp; with_reducible rfl))
      (try simp only [Act.put, List.getElem_toArray, List.getElem_cons_succ, List.getElem_cons_zero, List.setIfInBounds_toArray, List.set_cons_zero, List.set_cons_succ])
      refine wpAnyF_ready (rs := [11]) (by kernel_rfl) (by simp) ?_
      refine AllReadyF.cons (o := _) rfl (fun K hK => ?_) AllReadyF.nil
      rw [if_pos (by kernel_rfl)]
      refine wp_store_row 37 (.tmp 9) (.tmp 27) rfl r (zeros 32) rfl rfl _ (zeros 32) HR6.out HIZ.out rfl HOZ.out ?_
      refine hK.out _ _ (HK.out _ (below_setRow hh6.2 HRB.out _)) (fun hh11 => ?_)
      clear hK K
      (try simp only [Act.put, List.getElem_toArray, List.getElem_cons_succ, List.getElem_cons_zero, List.setIfInBounds_toArray, List.set_cons_zero, List.set_cons_succ])
      refine wpAnyF_ready (rs := [12]) (by kernel_rfl) (by simp) ?_
      refine AllReadyF.cons (o := _) rfl (fun K hK => ?_) AllReadyF.nil
      go_simp
      refine hK.out _ _ (by assumption) (fun hh12 => ?_)
      clear hK K
      (try simp only [Act.put, List.getElem_toArray, List.getElem_cons_succ, List.getElem_cons_zero, List.setIfInBounds_toArray, List.set_cons_zero, List.set_cons_succ])
      refine wpAnyF_done (by kernel_rfl) ?_ _
      have hrf := setRow_heap w3 r (zeros 32) (zeros 32) _ _ HR6.out
      obtain ⟨VF, hVF⟩ : ∃ VF, VF = w3.setRow r (zeros 32) := ⟨_, rfl⟩
      rw [← hVF] at hrf hh11 ⊢
      have HRF := Lib.hid hrf
      have HPF := Lib.hid hh11.1
      have HWF : Hid (Below w.heap.size w VF) := Lib.hid (HB0.out.trans (hh11.2.mono (by have := HKW.out; omega)))
      have HRG : Hid (w.heap.size < r) := Lib.hid (by have := HRB.out; have := HKW.out; omega)
      clear hrf hVF
      go_wp2_with (first
        | (with_reducible refine wpList_load_row_wU (by with_unfolding_all rfl) 37 (.tmp 9) rfl _ rfl 37 _ _ _ HRF.out Try.underlying37 rfl HIZ.out ?_)
        | (with_reducible refine wpList_binU (by with_unfolding_all rfl) .eql 37 37 (.tmp 54) (.tmp 55) rfl (.agg (zeros 32)) (.agg (zeros 32)) (.bool true) rfl (by with_unfolding_all rfl) (bk_guard _ _ _ _ _) (zero_eqU _) ?_))
      refine (awake12_any _).mono ?_
      rintro e w4 ⟨rfl, hb4⟩
      have HB4 := Lib.hid (HWF.out.trans (hb4.mono HWF.out.size))
      clear hb4
      go_wp2
      go_ret
      exact ⟨rfl, HB4.out⟩
  · go_simp
    refine hK.out _ _ (HK.out _ ((hh.2).alloc (Nat.le_trans HSZ.out hh.2.size) _)) (fun hh10 => ?_)
    clear hK K
    (try simp only [Act.put, List.getElem_toArray, List.getElem_cons_succ, List.getElem_cons_zero, List.setIfInBounds_toArray, List.set_cons_zero, List.set_cons_succ])
    have hr := heap_alloc_new W0 (.cells (zeros 32) 37)
    have hbn : Below W0.heap.size W0 (W0.alloc (.cells (zeros 32) 37)) := (Below.refl _ _).alloc (Nat.le_refl _) _
    have hrb : B ≤ W0.heap.size := (Nat.le_trans HSZ.out hh.2.size)
    clear hbn
    obtain ⟨V, hV⟩ : ∃ V, V = W0.alloc (.cells (zeros 32) 37) := ⟨_, rfl⟩
    rw [← hV] at hr hh10 ⊢
    obtain ⟨r, hrr⟩ : ∃ r, r = W0.heap.size := ⟨_, rfl⟩
    rw [← hrr] at hr hrb ⊢
    have HR10 := Lib.hid hr
    have HRB := Lib.hid hrb
    clear hV hrr hr hrb
    refine wpAnyF_ready (rs := [0]) (by kernel_rfl) (by simp) ?_
    refine AllReadyF.cons (o := _) rfl (fun K hK => ?_) AllReadyF.nil
    go_simp
    (go_at_call 8)
    refine (book12_any _).mono ?_
    rintro e w1 ⟨b, g, S, rfl, hbk, hS, hbn⟩
    refine hK.out _ _ (HK.out _ (hh10.2.trans (hbn.mono (Nat.le_trans HSZ.out hh10.2.size)))) (fun hh0 => ?_)
    clear hK K
    (try simp only [Act.put, List.getElem_toArray, List.getElem_cons_succ, List.getElem_cons_zero, List.setIfInBounds_toArray, List.set_cons_zero, List.set_cons_succ])
    have HBK0 := Lib.hid hbk
    have HS : Hid (∀ j, S j → B ≤ j) := Lib.hid (fun j hj => Nat.le_trans (Nat.le_trans HSZ.out hh10.2.size) (hS j hj))
    have HR0 := Lib.hid ((hbn.block _ (blk_lt HR10.out)).trans HR10.out)
    have HRS : Hid (¬ S r) := Lib.hid (fun z => by have h1 := hS r z; have h2 := blk_lt HR10.out; exact absurd h1 (Nat.not_le.2 h2))
    clear hbk hS hbn
    refine wpAnyF_ready (rs := [5]) (by kernel_rfl) (by simp) ?_
    refine AllReadyF.cons (o := _) rfl (fun K hK => ?_) AllReadyF.nil
    go_simp
    (go_at_call 9)
    refine (digests_new m c A ps _ (HDS.out.below (HB0.out.trans (hh0.2.mono (by have := HKW.out; omega)))) (by omega)).mono ?_
    rintro e w2 ⟨A2, c2, rfl, hc2, hd2, hbn, hnew⟩
    refine hK.out _ _ (HK.out _ (hh0.2.trans (hbn.mono (Nat.le_trans HSZ.out hh0.2.size)))) (fun hh5 => ?_)
    clear hK K
    (try simp only [Act.put, List.getElem_toArray, List.getElem_cons_succ, List.getElem_cons_zero, List.setIfInBounds_toArray, List.set_cons_zero, List.set_cons_succ])
    have HBK5 := Lib.hid (HBK0.out.below hbn)
    have HD5 := Lib.hid hd2
    have HC2 := Lib.hid hc2
    have HOFF : Hid (∀ ad, A2 = some ad → ¬ S ad.block) := Lib.hid (fun ad e z => by have h1 := hnew ad e; have h2 := HBK0.out.sub z; omega)
    have HR5 := Lib.hid ((hbn.block _ (blk_lt HR0.out)).trans HR0.out)
    clear hd2 hc2 hbn hnew
    refine wpAnyF_ready (rs := [6]) (by kernel_rfl) (by simp) ?_
    refine AllReadyF.cons (o := _) rfl (fun K hK => ?_) AllReadyF.nil
    go_simp
    (go_at_call 15)
    refine (HUP.out b A2 c2 _).mono ?_
    rintro e w3 ⟨rfl, hbn⟩
    refine hK.out _ _ (HK.out _ (hh5.2.trans (hbn.mono (Nat.le_trans HSZ.out hh5.2.size)))) (fun hh6 => ?_)
    clear hK K
    (try simp only [Act.put, List.getElem_toArray, List.getElem_cons_succ, List.getElem_cons_zero, List.setIfInBounds_toArray, List.set_cons_zero, List.set_cons_succ])
    have HR6 := Lib.hid ((hbn.block _ (blk_lt HR5.out)).trans HR5.out)
    clear hbn
    refine wpAnyF_take (i := 7) (oi := _) (v := ?_) rfl (by kernel_rfl) (by kernel_rfl) (by kernel_rfl) (by kernel_rfl) (fun _ _ _ h => h) (Or.inl ⟨by rfl, ?_⟩) (by assumption) ?_
    rotate_left 1
    · intro w _
      (first | (go_simp; done) | (go_simp; with_reducible rfl))
    (try simp only [Act.put, List.getElem_toArray, List.getElem_cons_succ, List.getElem_cons_zero, List.setIfInBounds_toArray, List.set_cons_zero, List.set_cons_succ])
    refine wpAnyF_take (i := 8) (oi := _) (v := ?_) rfl (by kernel_rfl) (by kernel_rfl) (by kernel_rfl) (by kernel_rfl) (fun _ _ _ h => h) (Or.inl ⟨by rfl, ?_⟩) (by assumption) ?_
    rotate_left 1
    · intro w _
      (first | (go_simp; done) | (go_simp; with_reducible rfl))
    (try simp only [Act.put, List.getElem_toArray, List.getElem_cons_succ, List.getElem_cons_zero, List.setIfInBounds_toArray, List.set_cons_zero, List.set_cons_succ])
    refine wpAnyF_take (i := 9) (oi := _) (v := ?_) rfl (by kernel_rfl) (by kernel_rfl) (by kernel_rfl) (by kernel_rfl) (fun _ _ _ h => h) (Or.inl ⟨by rfl, ?_⟩) (by assumption) ?_
    rotate_left 1
    · intro w _
      (first | (go_simp; done) | (go_simp; with_reducible rfl))
    (try simp only [Act.put, List.getElem_toArray, List.getElem_cons_succ, List.getElem_cons_zero, List.setIfInBounds_toArray, List.set_cons_zero, List.set_cons_succ])
    refine wpAnyF_ready (rs := [11]) (by kernel_rfl) (by simp) ?_
    refine AllReadyF.cons (o := _) rfl (fun K hK => ?_) AllReadyF.nil
    rw [if_pos (by kernel_rfl)]
    refine wp_store_row 37 (.tmp 9) (.tmp 27) rfl r (zeros 32) rfl rfl _ (zeros 32) HR6.out HIZ.out rfl HOZ.out ?_
    refine hK.out _ _ (HK.out _ (below_setRow hh6.2 HRB.out _)) (fun hh11 => ?_)
    clear hK K
    (try simp only [Act.put, List.getElem_toArray, List.getElem_cons_succ, List.getElem_cons_zero, List.setIfInBounds_toArray, List.set_cons_zero, List.set_cons_succ])
    refine wpAnyF_ready (rs := [12]) (by kernel_rfl) (by simp) ?_
    refine AllReadyF.cons (o := _) rfl (fun K hK => ?_) AllReadyF.nil
    go_simp
    refine hK.out _ _ (by assumption) (fun hh12 => ?_)
    clear hK K
    (try simp only [Act.put, List.getElem_toArray, List.getElem_cons_succ, List.getElem_cons_zero, List.setIfInBounds_toArray, List.set_cons_zero, List.set_cons_succ])
    refine wpAnyF_done (by kernel_rfl) ?_ _
    have hrf := setRow_heap w3 r (zeros 32) (zeros 32) _ _ HR6.out
    obtain ⟨VF, hVF⟩ : ∃ VF, VF = w3.setRow r (zeros 32) := ⟨_, rfl⟩
    rw [← hVF] at hrf hh11 ⊢
    have HRF := Lib.hid hrf
    have HPF := Lib.hid hh11.1
    have HWF : Hid (Below w.heap.size w VF) := Lib.hid (HB0.out.trans (hh11.2.mono (by have := HKW.out; omega)))
    have HRG : Hid (w.heap.size < r) := Lib.hid (by have := HRB.out; have := HKW.out; omega)
    clear hrf hVF
    go_wp2_with (first
      | (with_reducible refine wpList_load_row_wU (by with_unfolding_all rfl) 37 (.tmp 9) rfl _ rfl 37 _ _ _ HRF.out Try.underlying37 rfl HIZ.out ?_)
      | (with_reducible refine wpList_binU (by with_unfolding_all rfl) .eql 37 37 (.tmp 54) (.tmp 55) rfl (.agg (zeros 32)) (.agg (zeros 32)) (.bool true) rfl (by with_unfolding_all rfl) (bk_guard _ _ _ _ _) (zero_eqU _) ?_))
    refine (awake12_any _).mono ?_
    rintro e w4 ⟨rfl, hb4⟩
    have HB4 := Lib.hid (HWF.out.trans (hb4.mono HWF.out.size))
    clear hb4
    go_wp2
    go_ret
    exact ⟨rfl, HB4.out⟩
set_option maxHeartbeats 4000000 in
theorem treeUp_n2 (n k : Int) (x : List Nat) (A : Option Addr) (m c : Nat) (ps : Nat → List Nat) (w : World) (hds : DgS w A m ps) (hm : m ≤ 12) (hc : m ≤ c) (hx : IsDig x) (h1 : ¬ n < 1) (h2 : 1024 < n) :
    Calls Try.prog 4 #[.int .i64 n, .int .i64 k, .agg (dA x), .slice A m c] w fun e w' => e = .returned (.bool true) ∧ Below w.heap.size w w' := by
  have hz := zero_dig
  have hzr := zero32
  obtain ⟨W0, hW0⟩ : ∃ W0, W0 = w.alloc (.cells (dA x) 34) := ⟨_, rfl⟩
  have HB0 : Hid (Below w.heap.size w W0) := Lib.hid (by rw [hW0]; exact (Below.refl _ _).alloc (Nat.le_refl _) _)
  have HP6 : Hid (W0.heap[w.heap.size]? = some (.cells (dA x) 34 (0, 0))) := Lib.hid (by rw [hW0]; exact heap_alloc_new w _)
  have HW0 := Lib.hid hW0
  have hx32 : (dA x).size = 32 := by rw [rowV_size]
  have HIX := Lib.hid (info_d32 hx32)
  have HOX : Hid ((dA x).all (·.oneCell') = true) := Lib.hid (dA_one _)
  have HDS := Lib.hid hds
  have HX := Lib.hid hx
  obtain ⟨B, hB⟩ : ∃ B, B = W0.heap.size := ⟨_, rfl⟩
  have HKW : Hid (B = w.heap.size + 1) := Lib.hid (by rw [hB, hW0]; simp)
  have HBB := Lib.hid hB
  have HSZ : Hid (B ≤ W0.heap.size) := Lib.hid (Nat.le_of_eq hB)
  have HIZ := Lib.hid (info_dig (cs := zeros 32) (by simp [zeros]))
  have HOZ : Hid ((zeros 32).all (·.oneCell') = true) := Lib.hid (by kernel_rfl)
  have HUP : Hid (∀ (b : Nat) (A2 : Option Addr) (c2 : Nat) (W : World), Calls Try.prog 15 #[.pointer (some ⟨b, 0, none⟩), .int .i64 n, .int .i64 k, .agg (dA x), .slice A2 m c2] W (UpNo W)) := Lib.hid (fun b A2 c2 W => tup_no b n k x A2 m c2 W (by omega))
  obtain ⟨xd, hxd⟩ : ∃ z, z = dA x := ⟨_, rfl⟩
  have HXD := Lib.hid hxd
  rw [← hxd] at HW0 HP6 HIX HOX HUP ⊢
  clear hW0 hx32 hxd hds hx hB
  have hm1 : ¬ (12 : Int) < (m : Int) := by omega
  have hm2 : ¬ 12 < m := by omega
  go_enter Try.func4, Try.ntmps4
  go_wp2_with (with_reducible refine Go.Great.wpList_boxTo rfl 34 (.tmp 2) rfl (some 6) rfl w.heap.size (by simp) xd rfl ?_)
  rw [← HW0.out]
  go_upto_region 3 with (fail)
  have HK : Hid (∀ W, Below B W0 W → W.heap[w.heap.size]? = some (.cells xd 34 (0, 0)) ∧ Below B W0 W) := Lib.hid (fun W hW => ⟨(hW.block _ (by have := HKW.out; omega)).trans HP6.out, hW⟩)
  refine wp_region_F (S := (fun W : World => W.heap[w.heap.size]? = some (.cells xd 34 (0, 0)) ∧ Below B W0 W)) [] (by kernel_rfl) (HK.out _ (by have e := HBB.out; rw [e]; exact (Below.refl _ _).drew)) (fun hh => ?_)
  refine wpAnyF_take (i := 1) (oi := _) (v := ?_) rfl (by kernel_rfl) (by kernel_rfl) (by kernel_rfl) (by kernel_rfl) (fun _ _ _ h => h) (Or.inl ⟨by rfl, ?_⟩) (by assumption) ?_
  rotate_left 1
  · intro w _
    (first | (go_simp; done) | (go_simp; with_reducible rfl))
  (try simp only [Act.put, List.getElem_toArray, List.getElem_cons_succ, List.getElem_cons_zero, List.setIfInBounds_toArray, List.set_cons_zero, List.set_cons_succ])
  refine wpAnyF_take (i := 2) (oi := _) (v := ?_) rfl (by kernel_rfl) (by kernel_rfl) (by kernel_rfl) (by kernel_rfl) (fun _ _ _ h => h) (Or.inl ⟨by rfl, ?_⟩) (by assumption) ?_
  rotate_left 1
  · intro w _
    (first | (go_simp; done) | (go_simp; with_reducible rfl))
  (try simp only [Act.put, List.getElem_toArray, List.getElem_cons_succ, List.getElem_cons_zero, List.setIfInBounds_toArray, List.set_cons_zero, List.set_cons_succ])
  refine wpAnyF_take (i := 3) (oi := _) (v := _) rfl (by kernel_rfl) (by kernel_rfl) (by kernel_rfl) (by kernel_rfl) (fun _ _ _ h => h) (yields_rowU (by rfl) 34 (.tmp 6) rfl w.heap.size 0 rfl xd _ (fun W h => range_cells h.1) Try.underlying34 rfl HIX.out) (by assumption) ?_
  (try simp only [Act.put, List.getElem_toArray, List.getElem_cons_succ, List.getElem_cons_zero, List.setIfInBounds_toArray, List.set_cons_zero, List.set_cons_succ])
  refine wpAnyF_take (i := 4) (oi := _) (v := ?_) rfl (by kernel_rfl) (by kernel_rfl) (by kernel_rfl) (by kernel_rfl) (fun _ _ _ h => h) (Or.inl ⟨by rfl, ?_⟩) (by assumption) ?_
  rotate_left 1
  · intro w _
    (first | (go_simp; done) | (go_simp; with_reducible rfl))
  (try simp only [Act.put, List.getElem_toArray, List.getElem_cons_succ, List.getElem_cons_zero, List.setIfInBounds_toArray, List.set_cons_zero, List.set_cons_succ])
  refine wpAnyF_ready (rs := [0, 10]) (by kernel_rfl) (by simp) ?_
  refine AllReadyF.cons (o := _) rfl (fun K hK => ?_) (AllReadyF.cons (o := _) rfl (fun K hK => ?_) AllReadyF.nil)
  · go_simp
    (go_at_call 8)
    refine (book12_any _).mono ?_
    rintro e w1 ⟨b, g, S, rfl, hbk, hS, hbn⟩
    refine hK.out _ _ (HK.out _ (hh.2.trans (hbn.mono (Nat.le_trans HSZ.out hh.2.size)))) (fun hh0 => ?_)
    clear hK K
    (try simp only [Act.put, List.getElem_toArray, List.getElem_cons_succ, List.getElem_cons_zero, List.setIfInBounds_toArray, List.set_cons_zero, List.set_cons_succ])
    have HBK0 := Lib.hid hbk
    have HS : Hid (∀ j, S j → B ≤ j) := Lib.hid (fun j hj => Nat.le_trans (Nat.le_trans HSZ.out hh.2.size) (hS j hj))
    clear hbk hS hbn
    refine wpAnyF_ready (rs := [5, 10]) (by kernel_rfl) (by simp) ?_
    refine AllReadyF.cons (o := _) rfl (fun K hK => ?_) (AllReadyF.cons (o := _) rfl (fun K hK => ?_) AllReadyF.nil)
    · go_simp
      (go_at_call 9)
      refine (digests_new m c A ps _ (HDS.out.below (HB0.out.trans (hh0.2.mono (by have := HKW.out; omega)))) (by omega)).mono ?_
      rintro e w2 ⟨A2, c2, rfl, hc2, hd2, hbn, hnew⟩
      refine hK.out _ _ (HK.out _ (hh0.2.trans (hbn.mono (Nat.le_trans HSZ.out hh0.2.size)))) (fun hh5 => ?_)
      clear hK K
      (try simp only [Act.put, List.getElem_toArray, List.getElem_cons_succ, List.getElem_cons_zero, List.setIfInBounds_toArray, List.set_cons_zero, List.set_cons_succ])
      have HBK5 := Lib.hid (HBK0.out.below hbn)
      have HD5 := Lib.hid hd2
      have HC2 := Lib.hid hc2
      have HOFF : Hid (∀ ad, A2 = some ad → ¬ S ad.block) := Lib.hid (fun ad e z => by have h1 := hnew ad e; have h2 := HBK0.out.sub z; omega)
      clear hd2 hc2 hbn hnew
      refine wpAnyF_ready (rs := [6, 10]) (by kernel_rfl) (by simp) ?_
      refine AllReadyF.cons (o := _) rfl (fun K hK => ?_) (AllReadyF.cons (o := _) rfl (fun K hK => ?_) AllReadyF.nil)
      · go_simp
        (go_at_call 15)
        refine (HUP.out b A2 c2 _).mono ?_
        rintro e w3 ⟨rfl, hbn⟩
        refine hK.out _ _ (HK.out _ (hh5.2.trans (hbn.mono (Nat.le_trans HSZ.out hh5.2.size)))) (fun hh6 => ?_)
        clear hK K
        (try simp only [Act.put, List.getElem_toArray, List.getElem_cons_succ, List.getElem_cons_zero, List.setIfInBounds_toArray, List.set_cons_zero, List.set_cons_succ])
        clear hbn
        refine wpAnyF_take (i := 7) (oi := _) (v := ?_) rfl (by kernel_rfl) (by kernel_rfl) (by kernel_rfl) (by kernel_rfl) (fun _ _ _ h => h) (Or.inl ⟨by rfl, ?_⟩) (by assumption) ?_
        rotate_left 1
        · intro w _
          (first | (go_simp; done) | (go_simp; with_reducible rfl))
        (try simp only [Act.put, List.getElem_toArray, List.getElem_cons_succ, List.getElem_cons_zero, List.setIfInBounds_toArray, List.set_cons_zero, List.set_cons_succ])
        refine wpAnyF_take (i := 8) (oi := _) (v := ?_) rfl (by kernel_rfl) (by kernel_rfl) (by kernel_rfl) (by kernel_rfl) (fun _ _ _ h => h) (Or.inl ⟨by rfl, ?_⟩) (by assumption) ?_
        rotate_left 1
        · intro w _
          (first | (go_simp; done) | (go_simp; with_reducible rfl))
        (try simp only [Act.put, List.getElem_toArray, List.getElem_cons_succ, List.getElem_cons_zero, List.setIfInBounds_toArray, List.set_cons_zero, List.set_cons_succ])
        refine wpAnyF_take (i := 9) (oi := _) (v := ?_) rfl (by kernel_rfl) (by kernel_rfl) (by kernel_rfl) (by kernel_rfl) (fun _ _ _ h => h) (Or.inl ⟨by rfl, ?_⟩) (by assumption) ?_
        rotate_left 1
        · intro w _
          (first | (go_simp; done) | (go_simp; with_reducible rfl))
        (try simp only [Act.put, List.getElem_toArray, List.getElem_cons_succ, List.getElem_cons_zero, List.setIfInBounds_toArray, List.set_cons_zero, List.set_cons_succ])
        refine wpAnyF_ready (rs := [10]) (by kernel_rfl) (by simp) ?_
        refine AllReadyF.cons (o := _) rfl (fun K hK => ?_) AllReadyF.nil
        go_simp
        refine hK.out _ _ (HK.out _ ((hh6.2).alloc (Nat.le_trans HSZ.out hh6.2.size) _)) (fun hh10 => ?_)
        clear hK K
        (try simp only [Act.put, List.getElem_toArray, List.getElem_cons_succ, List.getElem_cons_zero, List.setIfInBounds_toArray, List.set_cons_zero, List.set_cons_succ])
        have hr := heap_alloc_new w3 (.cells (zeros 32) 37)
        have hbn : Below w3.heap.size w3 (w3.alloc (.cells (zeros 32) 37)) := (Below.refl _ _).alloc (Nat.le_refl _) _
        have hrb : B ≤ w3.heap.size := (Nat.le_trans HSZ.out hh6.2.size)
        clear hbn
        obtain ⟨V, hV⟩ : ∃ V, V = w3.alloc (.cells (zeros 32) 37) := ⟨_, rfl⟩
        rw [← hV] at hr hh10 ⊢
        obtain ⟨r, hrr⟩ : ∃ r, r = w3.heap.size := ⟨_, rfl⟩
        rw [← hrr] at hr hrb ⊢
        have HR10 := Lib.hid hr
        have HRB := Lib.hid hrb
        clear hV hrr hr hrb
        refine wpAnyF_ready (rs := [11]) (by kernel_rfl) (by simp) ?_
        refine AllReadyF.cons (o := _) rfl (fun K hK => ?_) AllReadyF.nil
        rw [if_pos (by kernel_rfl)]
        refine wp_store_row 37 (.tmp 9) (.tmp 27) rfl r (zeros 32) rfl rfl _ (zeros 32) HR10.out HIZ.out rfl HOZ.out ?_
        refine hK.out _ _ (HK.out _ (below_setRow hh10.2 HRB.out _)) (fun hh11 => ?_)
        clear hK K
        (try simp only [Act.put, List.getElem_toArray, List.getElem_cons_succ, List.getElem_cons_zero, List.setIfInBounds_toArray, List.set_cons_zero, List.set_cons_succ])
        refine wpAnyF_ready (rs := [12]) (by kernel_rfl) (by simp) ?_
        refine AllReadyF.cons (o := _) rfl (fun K hK => ?_) AllReadyF.nil
        go_simp
        refine hK.out _ _ (by assumption) (fun hh12 => ?_)
        clear hK K
        (try simp only [Act.put, List.getElem_toArray, List.getElem_cons_succ, List.getElem_cons_zero, List.setIfInBounds_toArray, List.set_cons_zero, List.set_cons_succ])
        refine wpAnyF_done (by kernel_rfl) ?_ _
        have hrf := setRow_heap V r (zeros 32) (zeros 32) _ _ HR10.out
        obtain ⟨VF, hVF⟩ : ∃ VF, VF = V.setRow r (zeros 32) := ⟨_, rfl⟩
        rw [← hVF] at hrf hh11 ⊢
        have HRF := Lib.hid hrf
        have HPF := Lib.hid hh11.1
        have HWF : Hid (Below w.heap.size w VF) := Lib.hid (HB0.out.trans (hh11.2.mono (by have := HKW.out; omega)))
        have HRG : Hid (w.heap.size < r) := Lib.hid (by have := HRB.out; have := HKW.out; omega)
        clear hrf hVF
        go_wp2_with (first
          | (with_reducible refine wpList_load_row_wU (by with_unfolding_all rfl) 37 (.tmp 9) rfl _ rfl 37 _ _ _ HRF.out Try.underlying37 rfl HIZ.out ?_)
          | (with_reducible refine wpList_binU (by with_unfolding_all rfl) .eql 37 37 (.tmp 54) (.tmp 55) rfl (.agg (zeros 32)) (.agg (zeros 32)) (.bool true) rfl (by with_unfolding_all rfl) (bk_guard _ _ _ _ _) (zero_eqU _) ?_))
        refine (awake12_any _).mono ?_
        rintro e w4 ⟨rfl, hb4⟩
        have HB4 := Lib.hid (HWF.out.trans (hb4.mono HWF.out.size))
        clear hb4
        go_wp2
        go_ret
        exact ⟨rfl, HB4.out⟩
      · go_simp
        refine hK.out _ _ (HK.out _ ((hh5.2).alloc (Nat.le_trans HSZ.out hh5.2.size) _)) (fun hh10 => ?_)
        clear hK K
        (try simp only [Act.put, List.getElem_toArray, List.getElem_cons_succ, List.getElem_cons_zero, List.setIfInBounds_toArray, List.set_cons_zero, List.set_cons_succ])
        have hr := heap_alloc_new w2 (.cells (zeros 32) 37)
        have hbn : Below w2.heap.size w2 (w2.alloc (.cells (zeros 32) 37)) := (Below.refl _ _).alloc (Nat.le_refl _) _
        have HBK10 := Lib.hid (HBK5.out.below hbn)
        have HD10 := Lib.hid (HD5.out.below hbn)
        have hrb : B ≤ w2.heap.size := (Nat.le_trans HSZ.out hh5.2.size)
        have hrs : ¬ S w2.heap.size := fun z => by have := HBK5.out.sub z; omega
        clear hbn
        obtain ⟨V, hV⟩ : ∃ V, V = w2.alloc (.cells (zeros 32) 37) := ⟨_, rfl⟩
        rw [← hV] at hr hh10 ⊢
        rw [← hV] at HBK10
        rw [← hV] at HD10
        obtain ⟨r, hrr⟩ : ∃ r, r = w2.heap.size := ⟨_, rfl⟩
        rw [← hrr] at hr hrb ⊢
        rw [← hrr] at hrs
        have HRS := Lib.hid hrs
        clear hrs
        have HR10 := Lib.hid hr
        have HRB := Lib.hid hrb
        clear hV hrr hr hrb
        refine wpAnyF_ready (rs := [6]) (by kernel_rfl) (by simp) ?_
        refine AllReadyF.cons (o := _) rfl (fun K hK => ?_) AllReadyF.nil
        go_simp
        (go_at_call 15)
        refine (HUP.out b A2 c2 _).mono ?_
        rintro e w3 ⟨rfl, hbn⟩
        refine hK.out _ _ (HK.out _ (hh10.2.trans (hbn.mono (Nat.le_trans HSZ.out hh10.2.size)))) (fun hh6 => ?_)
        clear hK K
        (try simp only [Act.put, List.getElem_toArray, List.getElem_cons_succ, List.getElem_cons_zero, List.setIfInBounds_toArray, List.set_cons_zero, List.set_cons_succ])
        have HR6 := Lib.hid ((hbn.block _ (blk_lt HR10.out)).trans HR10.out)
        clear hbn
        refine wpAnyF_take (i := 7) (oi := _) (v := ?_) rfl (by kernel_rfl) (by kernel_rfl) (by kernel_rfl) (by kernel_rfl) (fun _ _ _ h => h) (Or.inl ⟨by rfl, ?_⟩) (by assumption) ?_
        rotate_left 1
        · intro w _
          (first | (go_simp; done) | (go_simp; with_reducible rfl))
        (try simp only [Act.put, List.getElem_toArray, List.getElem_cons_succ, List.getElem_cons_zero, List.setIfInBounds_toArray, List.set_cons_zero, List.set_cons_succ])
        refine wpAnyF_take (i := 8) (oi := _) (v := ?_) rfl (by kernel_rfl) (by kernel_rfl) (by kernel_rfl) (by kernel_rfl) (fun _ _ _ h => h) (Or.inl ⟨by rfl, ?_⟩) (by assumption) ?_
        rotate_left 1
        · intro w _
          (first | (go_simp; done) | (go_simp; with_reducible rfl))
        (try simp only [Act.put, List.getElem_toArray, List.getElem_cons_succ, List.getElem_cons_zero, List.setIfInBounds_toArray, List.set_cons_zero, List.set_cons_succ])
        refine wpAnyF_take (i := 9) (oi := _) (v := ?_) rfl (by kernel_rfl) (by kernel_rfl) (by kernel_rfl) (by kernel_rfl) (fun _ _ _ h => h) (Or.inl ⟨by rfl, ?_⟩) (by assumption) ?_
        rotate_left 1
        · intro w _
          (first | (go_simp; done) | (go_simp; with_reducible rfl))
        (try simp only [Act.put, List.getElem_toArray, List.getElem_cons_succ, List.getElem_cons_zero, List.setIfInBounds_toArray, List.set_cons_zero, List.set_cons_succ])
        refine wpAnyF_ready (rs := [11]) (by kernel_rfl) (by simp) ?_
        refine AllReadyF.cons (o := _) rfl (fun K hK => ?_) AllReadyF.nil
        rw [if_pos (by kernel_rfl)]
        refine wp_store_row 37 (.tmp 9) (.tmp 27) rfl r (zeros 32) rfl rfl _ (zeros 32) HR6.out HIZ.out rfl HOZ.out ?_
        refine hK.out _ _ (HK.out _ (below_setRow hh6.2 HRB.out _)) (fun hh11 => ?_)
        clear hK K
        (try simp only [Act.put, List.getElem_toArray, List.getElem_cons_succ, List.getElem_cons_zero, List.setIfInBounds_toArray, List.set_cons_zero, List.set_cons_succ])
        refine wpAnyF_ready (rs := [12]) (by kernel_rfl) (by simp) ?_
        refine AllReadyF.cons (o := _) rfl (fun K hK => ?_) AllReadyF.nil
        go_simp
        refine hK.out _ _ (by assumption) (fun hh12 => ?_)
        clear hK K
        (try simp only [Act.put, List.getElem_toArray, List.getElem_cons_succ, List.getElem_cons_zero, List.setIfInBounds_toArray, List.set_cons_zero, List.set_cons_succ])
        refine wpAnyF_done (by kernel_rfl) ?_ _
        have hrf := setRow_heap w3 r (zeros 32) (zeros 32) _ _ HR6.out
        obtain ⟨VF, hVF⟩ : ∃ VF, VF = w3.setRow r (zeros 32) := ⟨_, rfl⟩
        rw [← hVF] at hrf hh11 ⊢
        have HRF := Lib.hid hrf
        have HPF := Lib.hid hh11.1
        have HWF : Hid (Below w.heap.size w VF) := Lib.hid (HB0.out.trans (hh11.2.mono (by have := HKW.out; omega)))
        have HRG : Hid (w.heap.size < r) := Lib.hid (by have := HRB.out; have := HKW.out; omega)
        clear hrf hVF
        go_wp2_with (first
          | (with_reducible refine wpList_load_row_wU (by with_unfolding_all rfl) 37 (.tmp 9) rfl _ rfl 37 _ _ _ HRF.out Try.underlying37 rfl HIZ.out ?_)
          | (with_reducible refine wpList_binU (by with_unfolding_all rfl) .eql 37 37 (.tmp 54) (.tmp 55) rfl (.agg (zeros 32)) (.agg (zeros 32)) (.bool true) rfl (by with_unfolding_all rfl) (bk_guard _ _ _ _ _) (zero_eqU _) ?_))
        refine (awake12_any _).mono ?_
        rintro e w4 ⟨rfl, hb4⟩
        have HB4 := Lib.hid (HWF.out.trans (hb4.mono HWF.out.size))
        clear hb4
        go_wp2
        go_ret
        exact ⟨rfl, HB4.out⟩
    · go_simp
      refine hK.out _ _ (HK.out _ ((hh0.2).alloc (Nat.le_trans HSZ.out hh0.2.size) _)) (fun hh10 => ?_)
      clear hK K
      (try simp only [Act.put, List.getElem_toArray, List.getElem_cons_succ, List.getElem_cons_zero, List.setIfInBounds_toArray, List.set_cons_zero, List.set_cons_succ])
      have hr := heap_alloc_new w1 (.cells (zeros 32) 37)
      have hbn : Below w1.heap.size w1 (w1.alloc (.cells (zeros 32) 37)) := (Below.refl _ _).alloc (Nat.le_refl _) _
      have HBK10 := Lib.hid (HBK0.out.below hbn)
      have hrb : B ≤ w1.heap.size := (Nat.le_trans HSZ.out hh0.2.size)
      have hrs : ¬ S w1.heap.size := fun z => by have := HBK0.out.sub z; omega
      clear hbn
      obtain ⟨V, hV⟩ : ∃ V, V = w1.alloc (.cells (zeros 32) 37) := ⟨_, rfl⟩
      rw [← hV] at hr hh10 ⊢
      rw [← hV] at HBK10
      obtain ⟨r, hrr⟩ : ∃ r, r = w1.heap.size := ⟨_, rfl⟩
      rw [← hrr] at hr hrb ⊢
      rw [← hrr] at hrs
      have HRS := Lib.hid hrs
      clear hrs
      have HR10 := Lib.hid hr
      have HRB := Lib.hid hrb
      clear hV hrr hr hrb
      refine wpAnyF_ready (rs := [5]) (by kernel_rfl) (by simp) ?_
      refine AllReadyF.cons (o := _) rfl (fun K hK => ?_) AllReadyF.nil
      go_simp
      (go_at_call 9)
      refine (digests_new m c A ps _ (HDS.out.below (HB0.out.trans (hh10.2.mono (by have := HKW.out; omega)))) (by omega)).mono ?_
      rintro e w2 ⟨A2, c2, rfl, hc2, hd2, hbn, hnew⟩
      refine hK.out _ _ (HK.out _ (hh10.2.trans (hbn.mono (Nat.le_trans HSZ.out hh10.2.size)))) (fun hh5 => ?_)
      clear hK K
      (try simp only [Act.put, List.getElem_toArray, List.getElem_cons_succ, List.getElem_cons_zero, List.setIfInBounds_toArray, List.set_cons_zero, List.set_cons_succ])
      have HBK5 := Lib.hid (HBK10.out.below hbn)
      have HD5 := Lib.hid hd2
      have HC2 := Lib.hid hc2
      have HOFF : Hid (∀ ad, A2 = some ad → ¬ S ad.block) := Lib.hid (fun ad e z => by have h1 := hnew ad e; have h2 := HBK10.out.sub z; omega)
      have HR5 := Lib.hid ((hbn.block _ (blk_lt HR10.out)).trans HR10.out)
      clear hd2 hc2 hbn hnew
      refine wpAnyF_ready (rs := [6]) (by kernel_rfl) (by simp) ?_
      refine AllReadyF.cons (o := _) rfl (fun K hK => ?_) AllReadyF.nil
      go_simp
      (go_at_call 15)
      refine (HUP.out b A2 c2 _).mono ?_
      rintro e w3 ⟨rfl, hbn⟩
      refine hK.out _ _ (HK.out _ (hh5.2.trans (hbn.mono (Nat.le_trans HSZ.out hh5.2.size)))) (fun hh6 => ?_)
      clear hK K
      (try simp only [Act.put, List.getElem_toArray, List.getElem_cons_succ, List.getElem_cons_zero, List.setIfInBounds_toArray, List.set_cons_zero, List.set_cons_succ])
      have HR6 := Lib.hid ((hbn.block _ (blk_lt HR5.out)).trans HR5.out)
      clear hbn
      refine wpAnyF_take (i := 7) (oi := _) (v := ?_) rfl (by kernel_rfl) (by kernel_rfl) (by kernel_rfl) (by kernel_rfl) (fun _ _ _ h => h) (Or.inl ⟨by rfl, ?_⟩) (by assumption) ?_
      rotate_left 1
      · intro w _
        (first | (go_simp; done) | (go_simp; with_reducible rfl))
      (try simp only [Act.put, List.getElem_toArray, List.getElem_cons_succ, List.getElem_cons_zero, List.setIfInBounds_toArray, List.set_cons_zero, List.set_cons_succ])
      refine wpAnyF_take (i := 8) (oi := _) (v := ?_) rfl (by kernel_rfl) (by kernel_rfl) (by kernel_rfl) (by kernel_rfl) (fun _ _ _ h => h) (Or.inl ⟨by rfl, ?_⟩) (by assumption) ?_
      rotate_left 1
      · intro w _
        (first | (go_simp; done) | (go_simp; with_reducible rfl))
      (try simp only [Act.put, List.getElem_toArray, List.getElem_cons_succ, List.getElem_cons_zero, List.setIfInBounds_toArray, List.set_cons_zero, List.set_cons_succ])
      refine wpAnyF_take (i := 9) (oi := _) (v := ?_) rfl (by kernel_rfl) (by kernel_rfl) (by kernel_rfl) (by kernel_rfl) (fun _ _ _ h => h) (Or.inl ⟨by rfl, ?_⟩) (by assumption) ?_
      rotate_left 1
      · intro w _
        (first | (go_simp; done) | (go_simp; with_reducible rfl))
      (try simp only [Act.put, List.getElem_toArray, List.getElem_cons_succ, List.getElem_cons_zero, List.setIfInBounds_toArray, List.set_cons_zero, List.set_cons_succ])
      refine wpAnyF_ready (rs := [11]) (by kernel_rfl) (by simp) ?_
      refine AllReadyF.cons (o := _) rfl (fun K hK => ?_) AllReadyF.nil
      rw [if_pos (by kernel_rfl)]
      refine wp_store_row 37 (.tmp 9) (.tmp 27) rfl r (zeros 32) rfl rfl _ (zeros 32) HR6.out HIZ.out rfl HOZ.out ?_
      refine hK.out _ _ (HK.out _ (below_setRow hh6.2 HRB.out _)) (fun hh11 => ?_)
      clear hK K
      (try simp only [Act.put, List.getElem_toArray, List.getElem_cons_succ, List.getElem_cons_zero, List.setIfInBounds_toArray, List.set_cons_zero, List.set_cons_succ])
      refine wpAnyF_ready (rs := [12]) (by kernel_rfl) (by simp) ?_
      refine AllReadyF.cons (o := _) rfl (fun K hK => ?_) AllReadyF.nil
      go_simp
      refine hK.out _ _ (by assumption) (fun hh12 => ?_)
      clear hK K
      (try simp only [Act.put, List.getElem_toArray, List.getElem_cons_succ, List.getElem_cons_zero, List.setIfInBounds_toArray, List.set_cons_zero, List.set_cons_succ])
      refine wpAnyF_done (by kernel_rfl) ?_ _
      have hrf := setRow_heap w3 r (zeros 32) (zeros 32) _ _ HR6.out
      obtain ⟨VF, hVF⟩ : ∃ VF, VF = w3.setRow r (zeros 32) := ⟨_, rfl⟩
      rw [← hVF] at hrf hh11 ⊢
      have HRF := Lib.hid hrf
      have HPF := Lib.hid hh11.1
      have HWF : Hid (Below w.heap.size w VF) := Lib.hid (HB0.out.trans (hh11.2.mono (by have := HKW.out; omega)))
      have HRG : Hid (w.heap.size < r) := Lib.hid (by have := HRB.out; have := HKW.out; omega)
      clear hrf hVF
      go_wp2_with (first
        | (with_reducible refine wpList_load_row_wU (by with_unfolding_all rfl) 37 (.tmp 9) rfl _ rfl 37 _ _ _ HRF.out Try.underlying37 rfl HIZ.out ?_)
        | (with_reducible refine wpList_binU (by with_unfolding_all rfl) .eql 37 37 (.tmp 54) (.tmp 55) rfl (.agg (zeros 32)) (.agg (zeros 32)) (.bool true) rfl (by with_unfolding_all rfl) (bk_guard _ _ _ _ _) (zero_eqU _) ?_))
      refine (awake12_any _).mono ?_
      rintro e w4 ⟨rfl, hb4⟩
      have HB4 := Lib.hid (HWF.out.trans (hb4.mono HWF.out.size))
      clear hb4
      go_wp2
      go_ret
      exact ⟨rfl, HB4.out⟩
  · go_simp
    refine hK.out _ _ (HK.out _ ((hh.2).alloc (Nat.le_trans HSZ.out hh.2.size) _)) (fun hh10 => ?_)
    clear hK K
    (try simp only [Act.put, List.getElem_toArray, List.getElem_cons_succ, List.getElem_cons_zero, List.setIfInBounds_toArray, List.set_cons_zero, List.set_cons_succ])
    have hr := heap_alloc_new W0 (.cells (zeros 32) 37)
    have hbn : Below W0.heap.size W0 (W0.alloc (.cells (zeros 32) 37)) := (Below.refl _ _).alloc (Nat.le_refl _) _
    have hrb : B ≤ W0.heap.size := (Nat.le_trans HSZ.out hh.2.size)
    clear hbn
    obtain ⟨V, hV⟩ : ∃ V, V = W0.alloc (.cells (zeros 32) 37) := ⟨_, rfl⟩
    rw [← hV] at hr hh10 ⊢
    obtain ⟨r, hrr⟩ : ∃ r, r = W0.heap.size := ⟨_, rfl⟩
    rw [← hrr] at hr hrb ⊢
    have HR10 := Lib.hid hr
    have HRB := Lib.hid hrb
    clear hV hrr hr hrb
    refine wpAnyF_ready (rs := [0]) (by kernel_rfl) (by simp) ?_
    refine AllReadyF.cons (o := _) rfl (fun K hK => ?_) AllReadyF.nil
    go_simp
    (go_at_call 8)
    refine (book12_any _).mono ?_
    rintro e w1 ⟨b, g, S, rfl, hbk, hS, hbn⟩
    refine hK.out _ _ (HK.out _ (hh10.2.trans (hbn.mono (Nat.le_trans HSZ.out hh10.2.size)))) (fun hh0 => ?_)
    clear hK K
    (try simp only [Act.put, List.getElem_toArray, List.getElem_cons_succ, List.getElem_cons_zero, List.setIfInBounds_toArray, List.set_cons_zero, List.set_cons_succ])
    have HBK0 := Lib.hid hbk
    have HS : Hid (∀ j, S j → B ≤ j) := Lib.hid (fun j hj => Nat.le_trans (Nat.le_trans HSZ.out hh10.2.size) (hS j hj))
    have HR0 := Lib.hid ((hbn.block _ (blk_lt HR10.out)).trans HR10.out)
    have HRS : Hid (¬ S r) := Lib.hid (fun z => by have h1 := hS r z; have h2 := blk_lt HR10.out; exact absurd h1 (Nat.not_le.2 h2))
    clear hbk hS hbn
    refine wpAnyF_ready (rs := [5]) (by kernel_rfl) (by simp) ?_
    refine AllReadyF.cons (o := _) rfl (fun K hK => ?_) AllReadyF.nil
    go_simp
    (go_at_call 9)
    refine (digests_new m c A ps _ (HDS.out.below (HB0.out.trans (hh0.2.mono (by have := HKW.out; omega)))) (by omega)).mono ?_
    rintro e w2 ⟨A2, c2, rfl, hc2, hd2, hbn, hnew⟩
    refine hK.out _ _ (HK.out _ (hh0.2.trans (hbn.mono (Nat.le_trans HSZ.out hh0.2.size)))) (fun hh5 => ?_)
    clear hK K
    (try simp only [Act.put, List.getElem_toArray, List.getElem_cons_succ, List.getElem_cons_zero, List.setIfInBounds_toArray, List.set_cons_zero, List.set_cons_succ])
    have HBK5 := Lib.hid (HBK0.out.below hbn)
    have HD5 := Lib.hid hd2
    have HC2 := Lib.hid hc2
    have HOFF : Hid (∀ ad, A2 = some ad → ¬ S ad.block) := Lib.hid (fun ad e z => by have h1 := hnew ad e; have h2 := HBK0.out.sub z; omega)
    have HR5 := Lib.hid ((hbn.block _ (blk_lt HR0.out)).trans HR0.out)
    clear hd2 hc2 hbn hnew
    refine wpAnyF_ready (rs := [6]) (by kernel_rfl) (by simp) ?_
    refine AllReadyF.cons (o := _) rfl (fun K hK => ?_) AllReadyF.nil
    go_simp
    (go_at_call 15)
    refine (HUP.out b A2 c2 _).mono ?_
    rintro e w3 ⟨rfl, hbn⟩
    refine hK.out _ _ (HK.out _ (hh5.2.trans (hbn.mono (Nat.le_trans HSZ.out hh5.2.size)))) (fun hh6 => ?_)
    clear hK K
    (try simp only [Act.put, List.getElem_toArray, List.getElem_cons_succ, List.getElem_cons_zero, List.setIfInBounds_toArray, List.set_cons_zero, List.set_cons_succ])
    have HR6 := Lib.hid ((hbn.block _ (blk_lt HR5.out)).trans HR5.out)
    clear hbn
    refine wpAnyF_take (i := 7) (oi := _) (v := ?_) rfl (by kernel_rfl) (by kernel_rfl) (by kernel_rfl) (by kernel_rfl) (fun _ _ _ h => h) (Or.inl ⟨by rfl, ?_⟩) (by assumption) ?_
    rotate_left 1
    · intro w _
      (first | (go_simp; done) | (go_simp; with_reducible rfl))
    (try simp only [Act.put, List.getElem_toArray, List.getElem_cons_succ, List.getElem_cons_zero, List.setIfInBounds_toArray, List.set_cons_zero, List.set_cons_succ])
    refine wpAnyF_take (i := 8) (oi := _) (v := ?_) rfl (by kernel_rfl) (by kernel_rfl) (by kernel_rfl) (by kernel_rfl) (fun _ _ _ h => h) (Or.inl ⟨by rfl, ?_⟩) (by assumption) ?_
    rotate_left 1
    · intro w _
      (first | (go_simp; done) | (go_simp; with_reducible rfl))
    (try simp only [Act.put, List.getElem_toArray, List.getElem_cons_succ, List.getElem_cons_zero, List.setIfInBounds_toArray, List.set_cons_zero, List.set_cons_succ])
    refine wpAnyF_take (i := 9) (oi := _) (v := ?_) rfl (by kernel_rfl) (by kernel_rfl) (by kernel_rfl) (by kernel_rfl) (fun _ _ _ h => h) (Or.inl ⟨by rfl, ?_⟩) (by assumption) ?_
    rotate_left 1
    · intro w _
      (first | (go_simp; done) | (go_simp; with_reducible rfl))
    (try simp only [Act.put, List.getElem_toArray, List.getElem_cons_succ, List.getElem_cons_zero, List.setIfInBounds_toArray, List.set_cons_zero, List.set_cons_succ])
    refine wpAnyF_ready (rs := [11]) (by kernel_rfl) (by simp) ?_
    refine AllReadyF.cons (o := _) rfl (fun K hK => ?_) AllReadyF.nil
    rw [if_pos (by kernel_rfl)]
    refine wp_store_row 37 (.tmp 9) (.tmp 27) rfl r (zeros 32) rfl rfl _ (zeros 32) HR6.out HIZ.out rfl HOZ.out ?_
    refine hK.out _ _ (HK.out _ (below_setRow hh6.2 HRB.out _)) (fun hh11 => ?_)
    clear hK K
    (try simp only [Act.put, List.getElem_toArray, List.getElem_cons_succ, List.getElem_cons_zero, List.setIfInBounds_toArray, List.set_cons_zero, List.set_cons_succ])
    refine wpAnyF_ready (rs := [12]) (by kernel_rfl) (by simp) ?_
    refine AllReadyF.cons (o := _) rfl (fun K hK => ?_) AllReadyF.nil
    go_simp
    refine hK.out _ _ (by assumption) (fun hh12 => ?_)
    clear hK K
    (try simp only [Act.put, List.getElem_toArray, List.getElem_cons_succ, List.getElem_cons_zero, List.setIfInBounds_toArray, List.set_cons_zero, List.set_cons_succ])
    refine wpAnyF_done (by kernel_rfl) ?_ _
    have hrf := setRow_heap w3 r (zeros 32) (zeros 32) _ _ HR6.out
    obtain ⟨VF, hVF⟩ : ∃ VF, VF = w3.setRow r (zeros 32) := ⟨_, rfl⟩
    rw [← hVF] at hrf hh11 ⊢
    have HRF := Lib.hid hrf
    have HPF := Lib.hid hh11.1
    have HWF : Hid (Below w.heap.size w VF) := Lib.hid (HB0.out.trans (hh11.2.mono (by have := HKW.out; omega)))
    have HRG : Hid (w.heap.size < r) := Lib.hid (by have := HRB.out; have := HKW.out; omega)
    clear hrf hVF
    go_wp2_with (first
      | (with_reducible refine wpList_load_row_wU (by with_unfolding_all rfl) 37 (.tmp 9) rfl _ rfl 37 _ _ _ HRF.out Try.underlying37 rfl HIZ.out ?_)
      | (with_reducible refine wpList_binU (by with_unfolding_all rfl) .eql 37 37 (.tmp 54) (.tmp 55) rfl (.agg (zeros 32)) (.agg (zeros 32)) (.bool true) rfl (by with_unfolding_all rfl) (bk_guard _ _ _ _ _) (zero_eqU _) ?_))
    refine (awake12_any _).mono ?_
    rintro e w4 ⟨rfl, hb4⟩
    have HB4 := Lib.hid (HWF.out.trans (hb4.mono HWF.out.size))
    clear hb4
    go_wp2
    go_ret
    exact ⟨rfl, HB4.out⟩
set_option maxHeartbeats 4000000 in
theorem treeUp_n3 (n k : Int) (x : List Nat) (A : Option Addr) (m c : Nat) (ps : Nat → List Nat) (w : World) (hds : DgS w A m ps) (hm : m ≤ 12) (hc : m ≤ c) (hx : IsDig x) (h1 : ¬ n < 1) (h2 : ¬ 1024 < n) (h3 : k < 0) :
    Calls Try.prog 4 #[.int .i64 n, .int .i64 k, .agg (dA x), .slice A m c] w fun e w' => e = .returned (.bool true) ∧ Below w.heap.size w w' := by
  have hz := zero_dig
  have hzr := zero32
  obtain ⟨W0, hW0⟩ : ∃ W0, W0 = w.alloc (.cells (dA x) 34) := ⟨_, rfl⟩
  have HB0 : Hid (Below w.heap.size w W0) := Lib.hid (by rw [hW0]; exact (Below.refl _ _).alloc (Nat.le_refl _) _)
  have HP6 : Hid (W0.heap[w.heap.size]? = some (.cells (dA x) 34 (0, 0))) := Lib.hid (by rw [hW0]; exact heap_alloc_new w _)
  have HW0 := Lib.hid hW0
  have hx32 : (dA x).size = 32 := by rw [rowV_size]
  have HIX := Lib.hid (info_d32 hx32)
  have HOX : Hid ((dA x).all (·.oneCell') = true) := Lib.hid (dA_one _)
  have HDS := Lib.hid hds
  have HX := Lib.hid hx
  obtain ⟨B, hB⟩ : ∃ B, B = W0.heap.size := ⟨_, rfl⟩
  have HKW : Hid (B = w.heap.size + 1) := Lib.hid (by rw [hB, hW0]; simp)
  have HBB := Lib.hid hB
  have HSZ : Hid (B ≤ W0.heap.size) := Lib.hid (Nat.le_of_eq hB)
  have HIZ := Lib.hid (info_dig (cs := zeros 32) (by simp [zeros]))
  have HOZ : Hid ((zeros 32).all (·.oneCell') = true) := Lib.hid (by kernel_rfl)
  have HUP : Hid (∀ (b : Nat) (A2 : Option Addr) (c2 : Nat) (W : World), Calls Try.prog 15 #[.pointer (some ⟨b, 0, none⟩), .int .i64 n, .int .i64 k, .agg (dA x), .slice A2 m c2] W (UpNo W)) := Lib.hid (fun b A2 c2 W => tup_no b n k x A2 m c2 W (by omega))
  obtain ⟨xd, hxd⟩ : ∃ z, z = dA x := ⟨_, rfl⟩
  have HXD := Lib.hid hxd
  rw [← hxd] at HW0 HP6 HIX HOX HUP ⊢
  clear hW0 hx32 hxd hds hx hB
  have hm1 : ¬ (12 : Int) < (m : Int) := by omega
  have hm2 : ¬ 12 < m := by omega
  go_enter Try.func4, Try.ntmps4
  go_wp2_with (with_reducible refine Go.Great.wpList_boxTo rfl 34 (.tmp 2) rfl (some 6) rfl w.heap.size (by simp) xd rfl ?_)
  rw [← HW0.out]
  go_upto_region 3 with (fail)
  have HK : Hid (∀ W, Below B W0 W → W.heap[w.heap.size]? = some (.cells xd 34 (0, 0)) ∧ Below B W0 W) := Lib.hid (fun W hW => ⟨(hW.block _ (by have := HKW.out; omega)).trans HP6.out, hW⟩)
  refine wp_region_F (S := (fun W : World => W.heap[w.heap.size]? = some (.cells xd 34 (0, 0)) ∧ Below B W0 W)) [] (by kernel_rfl) (HK.out _ (by have e := HBB.out; rw [e]; exact (Below.refl _ _).drew)) (fun hh => ?_)
  refine wpAnyF_take (i := 1) (oi := _) (v := ?_) rfl (by kernel_rfl) (by kernel_rfl) (by kernel_rfl) (by kernel_rfl) (fun _ _ _ h => h) (Or.inl ⟨by rfl, ?_⟩) (by assumption) ?_
  rotate_left 1
  · intro w _
    (first | (go_simp; done) | (go_simp; with_reducible rfl))
  (try simp only [Act.put, List.getElem_toArray, List.getElem_cons_succ, List.getElem_cons_zero, List.setIfInBounds_toArray, List.set_cons_zero, List.set_cons_succ])
  refine wpAnyF_take (i := 2) (oi := _) (v := ?_) rfl (by kernel_rfl) (by kernel_rfl) (by kernel_rfl) (by kernel_rfl) (fun _ _ _ h => h) (Or.inl ⟨by rfl, ?_⟩) (by assumption) ?_
  rotate_left 1
  · intro w _
    (first | (go_simp; done) | (go_simp; with_reducible rfl))
  (try simp only [Act.put, List.getElem_toArray, List.getElem_cons_succ, List.getElem_cons_zero, List.setIfInBounds_toArray, List.set_cons_zero, List.set_cons_succ])
  refine wpAnyF_take (i := 3) (oi := _) (v := _) rfl (by kernel_rfl) (by kernel_rfl) (by kernel_rfl) (by kernel_rfl) (fun _ _ _ h => h) (yields_rowU (by rfl) 34 (.tmp 6) rfl w.heap.size 0 rfl xd _ (fun W h => range_cells h.1) Try.underlying34 rfl HIX.out) (by assumption) ?_
  (try simp only [Act.put, List.getElem_toArray, List.getElem_cons_succ, List.getElem_cons_zero, List.setIfInBounds_toArray, List.set_cons_zero, List.set_cons_succ])
  refine wpAnyF_take (i := 4) (oi := _) (v := ?_) rfl (by kernel_rfl) (by kernel_rfl) (by kernel_rfl) (by kernel_rfl) (fun _ _ _ h => h) (Or.inl ⟨by rfl, ?_⟩) (by assumption) ?_
  rotate_left 1
  · intro w _
    (first | (go_simp; done) | (go_simp; with_reducible rfl))
  (try simp only [Act.put, List.getElem_toArray, List.getElem_cons_succ, List.getElem_cons_zero, List.setIfInBounds_toArray, List.set_cons_zero, List.set_cons_succ])
  refine wpAnyF_ready (rs := [0, 10]) (by kernel_rfl) (by simp) ?_
  refine AllReadyF.cons (o := _) rfl (fun K hK => ?_) (AllReadyF.cons (o := _) rfl (fun K hK => ?_) AllReadyF.nil)
  · go_simp
    (go_at_call 8)
    refine (book12_any _).mono ?_
    rintro e w1 ⟨b, g, S, rfl, hbk, hS, hbn⟩
    refine hK.out _ _ (HK.out _ (hh.2.trans (hbn.mono (Nat.le_trans HSZ.out hh.2.size)))) (fun hh0 => ?_)
    clear hK K
    (try simp only [Act.put, List.getElem_toArray, List.getElem_cons_succ, List.getElem_cons_zero, List.setIfInBounds_toArray, List.set_cons_zero, List.set_cons_succ])
    have HBK0 := Lib.hid hbk
    have HS : Hid (∀ j, S j → B ≤ j) := Lib.hid (fun j hj => Nat.le_trans (Nat.le_trans HSZ.out hh.2.size) (hS j hj))
    clear hbk hS hbn
    refine wpAnyF_ready (rs := [5, 10]) (by kernel_rfl) (by simp) ?_
    refine AllReadyF.cons (o := _) rfl (fun K hK => ?_) (AllReadyF.cons (o := _) rfl (fun K hK => ?_) AllReadyF.nil)
    · go_simp
      (go_at_call 9)
      refine (digests_new m c A ps _ (HDS.out.below (HB0.out.trans (hh0.2.mono (by have := HKW.out; omega)))) (by omega)).mono ?_
      rintro e w2 ⟨A2, c2, rfl, hc2, hd2, hbn, hnew⟩
      refine hK.out _ _ (HK.out _ (hh0.2.trans (hbn.mono (Nat.le_trans HSZ.out hh0.2.size)))) (fun hh5 => ?_)
      clear hK K
      (try simp only [Act.put, List.getElem_toArray, List.getElem_cons_succ, List.getElem_cons_zero, List.setIfInBounds_toArray, List.set_cons_zero, List.set_cons_succ])
      have HBK5 := Lib.hid (HBK0.out.below hbn)
      have HD5 := Lib.hid hd2
      have HC2 := Lib.hid hc2
      have HOFF : Hid (∀ ad, A2 = some ad → ¬ S ad.block) := Lib.hid (fun ad e z => by have h1 := hnew ad e; have h2 := HBK0.out.sub z; omega)
      clear hd2 hc2 hbn hnew
      refine wpAnyF_ready (rs := [6, 10]) (by kernel_rfl) (by simp) ?_
      refine AllReadyF.cons (o := _) rfl (fun K hK => ?_) (AllReadyF.cons (o := _) rfl (fun K hK => ?_) AllReadyF.nil)
      · go_simp
        (go_at_call 15)
        refine (HUP.out b A2 c2 _).mono ?_
        rintro e w3 ⟨rfl, hbn⟩
        refine hK.out _ _ (HK.out _ (hh5.2.trans (hbn.mono (Nat.le_trans HSZ.out hh5.2.size)))) (fun hh6 => ?_)
        clear hK K
        (try simp only [Act.put, List.getElem_toArray, List.getElem_cons_succ, List.getElem_cons_zero, List.setIfInBounds_toArray, List.set_cons_zero, List.set_cons_succ])
        clear hbn
        refine wpAnyF_take (i := 7) (oi := _) (v := ?_) rfl (by kernel_rfl) (by kernel_rfl) (by kernel_rfl) (by kernel_rfl) (fun _ _ _ h => h) (Or.inl ⟨by rfl, ?_⟩) (by assumption) ?_
        rotate_left 1
        · intro w _
          (first | (go_simp; done) | (go_simp; with_reducible rfl))
        (try simp only [Act.put, List.getElem_toArray, List.getElem_cons_succ, List.getElem_cons_zero, List.setIfInBounds_toArray, List.set_cons_zero, List.set_cons_succ])
        refine wpAnyF_take (i := 8) (oi := _) (v := ?_) rfl (by kernel_rfl) (by kernel_rfl) (by kernel_rfl) (by kernel_rfl) (fun _ _ _ h => h) (Or.inl ⟨by rfl, ?_⟩) (by assumption) ?_
        rotate_left 1
        · intro w _
          (first | (go_simp; done) | (go_simp; with_reducible rfl))
        (try simp only [Act.put, List.getElem_toArray, List.getElem_cons_succ, List.getElem_cons_zero, List.setIfInBounds_toArray, List.set_cons_zero, List.set_cons_succ])
        refine wpAnyF_take (i := 9) (oi := _) (v := ?_) rfl (by kernel_rfl) (by kernel_rfl) (by kernel_rfl) (by kernel_rfl) (fun _ _ _ h => h) (Or.inl ⟨by rfl, ?_⟩) (by assumption) ?_
        rotate_left 1
        · intro w _
          (first | (go_simp; done) | (go_simp; with_reducible rfl))
        (try simp only [Act.put, List.getElem_toArray, List.getElem_cons_succ, List.getElem_cons_zero, List.setIfInBounds_toArray, List.set_cons_zero, List.set_cons_succ])
        refine wpAnyF_ready (rs := [10]) (by kernel_rfl) (by simp) ?_
        refine AllReadyF.cons (o := _) rfl (fun K hK => ?_) AllReadyF.nil
        go_simp
        refine hK.out _ _ (HK.out _ ((hh6.2).alloc (Nat.le_trans HSZ.out hh6.2.size) _)) (fun hh10 => ?_)
        clear hK K
        (try simp only [Act.put, List.getElem_toArray, List.getElem_cons_succ, List.getElem_cons_zero, List.setIfInBounds_toArray, List.set_cons_zero, List.set_cons_succ])
        have hr := heap_alloc_new w3 (.cells (zeros 32) 37)
        have hbn : Below w3.heap.size w3 (w3.alloc (.cells (zeros 32) 37)) := (Below.refl _ _).alloc (Nat.le_refl _) _
        have hrb : B ≤ w3.heap.size := (Nat.le_trans HSZ.out hh6.2.size)
        clear hbn
        obtain ⟨V, hV⟩ : ∃ V, V = w3.alloc (.cells (zeros 32) 37) := ⟨_, rfl⟩
        rw [← hV] at hr hh10 ⊢
        obtain ⟨r, hrr⟩ : ∃ r, r = w3.heap.size := ⟨_, rfl⟩
        rw [← hrr] at hr hrb ⊢
        have HR10 := Lib.hid hr
        have HRB := Lib.hid hrb
        clear hV hrr hr hrb
        refine wpAnyF_ready (rs := [11]) (by kernel_rfl) (by simp) ?_
        refine AllReadyF.cons (o := _) rfl (fun K hK => ?_) AllReadyF.nil
        rw [if_pos (by kernel_rfl)]
        refine wp_store_row 37 (.tmp 9) (.tmp 27) rfl r (zeros 32) rfl rfl _ (zeros 32) HR10.out HIZ.out rfl HOZ.out ?_
        refine hK.out _ _ (HK.out _ (below_setRow hh10.2 HRB.out _)) (fun hh11 => ?_)
        clear hK K
        (try simp only [Act.put, List.getElem_toArray, List.getElem_cons_succ, List.getElem_cons_zero, List.setIfInBounds_toArray, List.set_cons_zero, List.set_cons_succ])
        refine wpAnyF_ready (rs := [12]) (by kernel_rfl) (by simp) ?_
        refine AllReadyF.cons (o := _) rfl (fun K hK => ?_) AllReadyF.nil
        go_simp
        refine hK.out _ _ (by assumption) (fun hh12 => ?_)
        clear hK K
        (try simp only [Act.put, List.getElem_toArray, List.getElem_cons_succ, List.getElem_cons_zero, List.setIfInBounds_toArray, List.set_cons_zero, List.set_cons_succ])
        refine wpAnyF_done (by kernel_rfl) ?_ _
        have hrf := setRow_heap V r (zeros 32) (zeros 32) _ _ HR10.out
        obtain ⟨VF, hVF⟩ : ∃ VF, VF = V.setRow r (zeros 32) := ⟨_, rfl⟩
        rw [← hVF] at hrf hh11 ⊢
        have HRF := Lib.hid hrf
        have HPF := Lib.hid hh11.1
        have HWF : Hid (Below w.heap.size w VF) := Lib.hid (HB0.out.trans (hh11.2.mono (by have := HKW.out; omega)))
        have HRG : Hid (w.heap.size < r) := Lib.hid (by have := HRB.out; have := HKW.out; omega)
        clear hrf hVF
        go_wp2_with (first
          | (with_reducible refine wpList_load_row_wU (by with_unfolding_all rfl) 37 (.tmp 9) rfl _ rfl 37 _ _ _ HRF.out Try.underlying37 rfl HIZ.out ?_)
          | (with_reducible refine wpList_binU (by with_unfolding_all rfl) .eql 37 37 (.tmp 54) (.tmp 55) rfl (.agg (zeros 32)) (.agg (zeros 32)) (.bool true) rfl (by with_unfolding_all rfl) (bk_guard _ _ _ _ _) (zero_eqU _) ?_))
        refine (awake12_any _).mono ?_
        rintro e w4 ⟨rfl, hb4⟩
        have HB4 := Lib.hid (HWF.out.trans (hb4.mono HWF.out.size))
        clear hb4
        go_wp2
        go_ret
        exact ⟨rfl, HB4.out⟩
      · go_simp
        refine hK.out _ _ (HK.out _ ((hh5.2).alloc (Nat.le_trans HSZ.out hh5.2.size) _)) (fun hh10 => ?_)
        clear hK K
        (try simp only [Act.put, List.getElem_toArray, List.getElem_cons_succ, List.getElem_cons_zero, List.setIfInBounds_toArray, List.set_cons_zero, List.set_cons_succ])
        have hr := heap_alloc_new w2 (.cells (zeros 32) 37)
        have hbn : Below w2.heap.size w2 (w2.alloc (.cells (zeros 32) 37)) := (Below.refl _ _).alloc (Nat.le_refl _) _
        have HBK10 := Lib.hid (HBK5.out.below hbn)
        have HD10 := Lib.hid (HD5.out.below hbn)
        have hrb : B ≤ w2.heap.size := (Nat.le_trans HSZ.out hh5.2.size)
        have hrs : ¬ S w2.heap.size := fun z => by have := HBK5.out.sub z; omega
        clear hbn
        obtain ⟨V, hV⟩ : ∃ V, V = w2.alloc (.cells (zeros 32) 37) := ⟨_, rfl⟩
        rw [← hV] at hr hh10 ⊢
        rw [← hV] at HBK10
        rw [← hV] at HD10
        obtain ⟨r, hrr⟩ : ∃ r, r = w2.heap.size := ⟨_, rfl⟩
        rw [← hrr] at hr hrb ⊢
        rw [← hrr] at hrs
        have HRS := Lib.hid hrs
        clear hrs
        have HR10 := Lib.hid hr
        have HRB := Lib.hid hrb
        clear hV hrr hr hrb
        refine wpAnyF_ready (rs := [6]) (by kernel_rfl) (by simp) ?_
        refine AllReadyF.cons (o := _) rfl (fun K hK => ?_) AllReadyF.nil
        go_simp
        (go_at_call 15)
        refine (HUP.out b A2 c2 _).mono ?_
        rintro e w3 ⟨rfl, hbn⟩
        refine hK.out _ _ (HK.out _ (hh10.2.trans (hbn.mono (Nat.le_trans HSZ.out hh10.2.size)))) (fun hh6 => ?_)
        clear hK K
        (try simp only [Act.put, List.getElem_toArray, List.getElem_cons_succ, List.getElem_cons_zero, List.setIfInBounds_toArray, List.set_cons_zero, List.set_cons_succ])
        have HR6 := Lib.hid ((hbn.block _ (blk_lt HR10.out)).trans HR10.out)
        clear hbn
        refine wpAnyF_take (i := 7) (oi := _) (v := ?_) rfl (by kernel_rfl) (by kernel_rfl) (by kernel_rfl) (by kernel_rfl) (fun _ _ _ h => h) (Or.inl ⟨by rfl, ?_⟩) (by assumption) ?_
        rotate_left 1
        · intro w _
          (first | (go_simp; done) | (go_simp; with_reducible rfl))
        (try simp only [Act.put, List.getElem_toArray, List.getElem_cons_succ, List.getElem_cons_zero, List.setIfInBounds_toArray, List.set_cons_zero, List.set_cons_succ])
        refine wpAnyF_take (i := 8) (oi := _) (v := ?_) rfl (by kernel_rfl) (by kernel_rfl) (by kernel_rfl) (by kernel_rfl) (fun _ _ _ h => h) (Or.inl ⟨by rfl, ?_⟩) (by assumption) ?_
        rotate_left 1
        · intro w _
          (first | (go_simp; done) | (go_simp; with_reducible rfl))
        (try simp only [Act.put, List.getElem_toArray, List.getElem_cons_succ, List.getElem_cons_zero, List.setIfInBounds_toArray, List.set_cons_zero, List.set_cons_succ])
        refine wpAnyF_take (i := 9) (oi := _) (v := ?_) rfl (by kernel_rfl) (by kernel_rfl) (by kernel_rfl) (by kernel_rfl) (fun _ _ _ h => h) (Or.inl ⟨by rfl, ?_⟩) (by assumption) ?_
        rotate_left 1
        · intro w _
          (first | (go_simp; done) | (go_simp; with_reducible rfl))
        (try simp only [Act.put, List.getElem_toArray, List.getElem_cons_succ, List.getElem_cons_zero, List.setIfInBounds_toArray, List.set_cons_zero, List.set_cons_succ])
        refine wpAnyF_ready (rs := [11]) (by kernel_rfl) (by simp) ?_
        refine AllReadyF.cons (o := _) rfl (fun K hK => ?_) AllReadyF.nil
        rw [if_pos (by kernel_rfl)]
        refine wp_store_row 37 (.tmp 9) (.tmp 27) rfl r (zeros 32) rfl rfl _ (zeros 32) HR6.out HIZ.out rfl HOZ.out ?_
        refine hK.out _ _ (HK.out _ (below_setRow hh6.2 HRB.out _)) (fun hh11 => ?_)
        clear hK K
        (try simp only [Act.put, List.getElem_toArray, List.getElem_cons_succ, List.getElem_cons_zero, List.setIfInBounds_toArray, List.set_cons_zero, List.set_cons_succ])
        refine wpAnyF_ready (rs := [12]) (by kernel_rfl) (by simp) ?_
        refine AllReadyF.cons (o := _) rfl (fun K hK => ?_) AllReadyF.nil
        go_simp
        refine hK.out _ _ (by assumption) (fun hh12 => ?_)
        clear hK K
        (try simp only [Act.put, List.getElem_toArray, List.getElem_cons_succ, List.getElem_cons_zero, List.setIfInBounds_toArray, List.set_cons_zero, List.set_cons_succ])
        refine wpAnyF_done (by kernel_rfl) ?_ _
        have hrf := setRow_heap w3 r (zeros 32) (zeros 32) _ _ HR6.out
        obtain ⟨VF, hVF⟩ : ∃ VF, VF = w3.setRow r (zeros 32) := ⟨_, rfl⟩
        rw [← hVF] at hrf hh11 ⊢
        have HRF := Lib.hid hrf
        have HPF := Lib.hid hh11.1
        have HWF : Hid (Below w.heap.size w VF) := Lib.hid (HB0.out.trans (hh11.2.mono (by have := HKW.out; omega)))
        have HRG : Hid (w.heap.size < r) := Lib.hid (by have := HRB.out; have := HKW.out; omega)
        clear hrf hVF
        go_wp2_with (first
          | (with_reducible refine wpList_load_row_wU (by with_unfolding_all rfl) 37 (.tmp 9) rfl _ rfl 37 _ _ _ HRF.out Try.underlying37 rfl HIZ.out ?_)
          | (with_reducible refine wpList_binU (by with_unfolding_all rfl) .eql 37 37 (.tmp 54) (.tmp 55) rfl (.agg (zeros 32)) (.agg (zeros 32)) (.bool true) rfl (by with_unfolding_all rfl) (bk_guard _ _ _ _ _) (zero_eqU _) ?_))
        refine (awake12_any _).mono ?_
        rintro e w4 ⟨rfl, hb4⟩
        have HB4 := Lib.hid (HWF.out.trans (hb4.mono HWF.out.size))
        clear hb4
        go_wp2
        go_ret
        exact ⟨rfl, HB4.out⟩
    · go_simp
      refine hK.out _ _ (HK.out _ ((hh0.2).alloc (Nat.le_trans HSZ.out hh0.2.size) _)) (fun hh10 => ?_)
      clear hK K
      (try simp only [Act.put, List.getElem_toArray, List.getElem_cons_succ, List.getElem_cons_zero, List.setIfInBounds_toArray, List.set_cons_zero, List.set_cons_succ])
      have hr := heap_alloc_new w1 (.cells (zeros 32) 37)
      have hbn : Below w1.heap.size w1 (w1.alloc (.cells (zeros 32) 37)) := (Below.refl _ _).alloc (Nat.le_refl _) _
      have HBK10 := Lib.hid (HBK0.out.below hbn)
      have hrb : B ≤ w1.heap.size := (Nat.le_trans HSZ.out hh0.2.size)
      have hrs : ¬ S w1.heap.size := fun z => by have := HBK0.out.sub z; omega
      clear hbn
      obtain ⟨V, hV⟩ : ∃ V, V = w1.alloc (.cells (zeros 32) 37) := ⟨_, rfl⟩
      rw [← hV] at hr hh10 ⊢
      rw [← hV] at HBK10
      obtain ⟨r, hrr⟩ : ∃ r, r = w1.heap.size := ⟨_, rfl⟩
      rw [← hrr] at hr hrb ⊢
      rw [← hrr] at hrs
      have HRS := Lib.hid hrs
      clear hrs
      have HR10 := Lib.hid hr
      have HRB := Lib.hid hrb
      clear hV hrr hr hrb
      refine wpAnyF_ready (rs := [5]) (by kernel_rfl) (by simp) ?_
      refine AllReadyF.cons (o := _) rfl (fun K hK => ?_) AllReadyF.nil
      go_simp
      (go_at_call 9)
      refine (digests_new m c A ps _ (HDS.out.below (HB0.out.trans (hh10.2.mono (by have := HKW.out; omega)))) (by omega)).mono ?_
      rintro e w2 ⟨A2, c2, rfl, hc2, hd2, hbn, hnew⟩
      refine hK.out _ _ (HK.out _ (hh10.2.trans (hbn.mono (Nat.le_trans HSZ.out hh10.2.size)))) (fun hh5 => ?_)
      clear hK K
      (try simp only [Act.put, List.getElem_toArray, List.getElem_cons_succ, List.getElem_cons_zero, List.setIfInBounds_toArray, List.set_cons_zero, List.set_cons_succ])
      have HBK5 := Lib.hid (HBK10.out.below hbn)
      have HD5 := Lib.hid hd2
      have HC2 := Lib.hid hc2
      have HOFF : Hid (∀ ad, A2 = some ad → ¬ S ad.block) := Lib.hid (fun ad e z => by have h1 := hnew ad e; have h2 := HBK10.out.sub z; omega)
      have HR5 := Lib.hid ((hbn.block _ (blk_lt HR10.out)).trans HR10.out)
      clear hd2 hc2 hbn hnew
      refine wpAnyF_ready (rs := [6]) (by kernel_rfl) (by simp) ?_
      refine AllReadyF.cons (o := _) rfl (fun K hK => ?_) AllReadyF.nil
      go_simp
      (go_at_call 15)
      refine (HUP.out b A2 c2 _).mono ?_
      rintro e w3 ⟨rfl, hbn⟩
      refine hK.out _ _ (HK.out _ (hh5.2.trans (hbn.mono (Nat.le_trans HSZ.out hh5.2.size)))) (fun hh6 => ?_)
      clear hK K
      (try simp only [Act.put, List.getElem_toArray, List.getElem_cons_succ, List.getElem_cons_zero, List.setIfInBounds_toArray, List.set_cons_zero, List.set_cons_succ])
      have HR6 := Lib.hid ((hbn.block _ (blk_lt HR5.out)).trans HR5.out)
      clear hbn
      refine wpAnyF_take (i := 7) (oi := _) (v := ?_) rfl (by kernel_rfl) (by kernel_rfl) (by kernel_rfl) (by kernel_rfl) (fun _ _ _ h => h) (Or.inl ⟨by rfl, ?_⟩) (by assumption) ?_
      rotate_left 1
      · intro w _
        (first | (go_simp; done) | (go_simp; with_reducible rfl))
      (try simp only [Act.put, List.getElem_toArray, List.getElem_cons_succ, List.getElem_cons_zero, List.setIfInBounds_toArray, List.set_cons_zero, List.set_cons_succ])
      refine wpAnyF_take (i := 8) (oi := _) (v := ?_) rfl (by kernel_rfl) (by kernel_rfl) (by kernel_rfl) (by kernel_rfl) (fun _ _ _ h => h) (Or.inl ⟨by rfl, ?_⟩) (by assumption) ?_
      rotate_left 1
      · intro w _
        (first | (go_simp; done) | (go_simp; with_reducible rfl))
      (try simp only [Act.put, List.getElem_toArray, List.getElem_cons_succ, List.getElem_cons_zero, List.setIfInBounds_toArray, List.set_cons_zero, List.set_cons_succ])
      refine wpAnyF_take (i := 9) (oi := _) (v := ?_) rfl (by kernel_rfl) (by kernel_rfl) (by kernel_rfl) (by kernel_rfl) (fun _ _ _ h => h) (Or.inl ⟨by rfl, ?_⟩) (by assumption) ?_
      rotate_left 1
      · intro w _
        (first | (go_simp; done) | (go_simp; with_reducible rfl))
      (try simp only [Act.put, List.getElem_toArray, List.getElem_cons_succ, List.getElem_cons_zero, List.setIfInBounds_toArray, List.set_cons_zero, List.set_cons_succ])
      refine wpAnyF_ready (rs := [11]) (by kernel_rfl) (by simp) ?_
      refine AllReadyF.cons (o := _) rfl (fun K hK => ?_) AllReadyF.nil
      rw [if_pos (by kernel_rfl)]
      refine wp_store_row 37 (.tmp 9) (.tmp 27) rfl r (zeros 32) rfl rfl _ (zeros 32) HR6.out HIZ.out rfl HOZ.out ?_
      refine hK.out _ _ (HK.out _ (below_setRow hh6.2 HRB.out _)) (fun hh11 => ?_)
      clear hK K
      (try simp only [Act.put, List.getElem_toArray, List.getElem_cons_succ, List.getElem_cons_zero, List.setIfInBounds_toArray, List.set_cons_zero, List.set_cons_succ])
      refine wpAnyF_ready (rs := [12]) (by kernel_rfl) (by simp) ?_
      refine AllReadyF.cons (o := _) rfl (fun K hK => ?_) AllReadyF.nil
      go_simp
      refine hK.out _ _ (by assumption) (fun hh12 => ?_)
      clear hK K
      (try simp only [Act.put, List.getElem_toArray, List.getElem_cons_succ, List.getElem_cons_zero, List.setIfInBounds_toArray, List.set_cons_zero, List.set_cons_succ])
      refine wpAnyF_done (by kernel_rfl) ?_ _
      have hrf := setRow_heap w3 r (zeros 32) (zeros 32) _ _ HR6.out
      obtain ⟨VF, hVF⟩ : ∃ VF, VF = w3.setRow r (zeros 32) := ⟨_, rfl⟩
      rw [← hVF] at hrf hh11 ⊢
      have HRF := Lib.hid hrf
      have HPF := Lib.hid hh11.1
      have HWF : Hid (Below w.heap.size w VF) := Lib.hid (HB0.out.trans (hh11.2.mono (by have := HKW.out; omega)))
      have HRG : Hid (w.heap.size < r) := Lib.hid (by have := HRB.out; have := HKW.out; omega)
      clear hrf hVF
      go_wp2_with (first
        | (with_reducible refine wpList_load_row_wU (by with_unfolding_all rfl) 37 (.tmp 9) rfl _ rfl 37 _ _ _ HRF.out Try.underlying37 rfl HIZ.out ?_)
        | (with_reducible refine wpList_binU (by with_unfolding_all rfl) .eql 37 37 (.tmp 54) (.tmp 55) rfl (.agg (zeros 32)) (.agg (zeros 32)) (.bool true) rfl (by with_unfolding_all rfl) (bk_guard _ _ _ _ _) (zero_eqU _) ?_))
      refine (awake12_any _).mono ?_
      rintro e w4 ⟨rfl, hb4⟩
      have HB4 := Lib.hid (HWF.out.trans (hb4.mono HWF.out.size))
      clear hb4
      go_wp2
      go_ret
      exact ⟨rfl, HB4.out⟩
  · go_simp
    refine hK.out _ _ (HK.out _ ((hh.2).alloc (Nat.le_trans HSZ.out hh.2.size) _)) (fun hh10 => ?_)
    clear hK K
    (try simp only [Act.put, List.getElem_toArray, List.getElem_cons_succ, List.getElem_cons_zero, List.setIfInBounds_toArray, List.set_cons_zero, List.set_cons_succ])
    have hr := heap_alloc_new W0 (.cells (zeros 32) 37)
    have hbn : Below W0.heap.size W0 (W0.alloc (.cells (zeros 32) 37)) := (Below.refl _ _).alloc (Nat.le_refl _) _
    have hrb : B ≤ W0.heap.size := (Nat.le_trans HSZ.out hh.2.size)
    clear hbn
    obtain ⟨V, hV⟩ : ∃ V, V = W0.alloc (.cells (zeros 32) 37) := ⟨_, rfl⟩
    rw [← hV] at hr hh10 ⊢
    obtain ⟨r, hrr⟩ : ∃ r, r = W0.heap.size := ⟨_, rfl⟩
    rw [← hrr] at hr hrb ⊢
    have HR10 := Lib.hid hr
    have HRB := Lib.hid hrb
    clear hV hrr hr hrb
    refine wpAnyF_ready (rs := [0]) (by kernel_rfl) (by simp) ?_
    refine AllReadyF.cons (o := _) rfl (fun K hK => ?_) AllReadyF.nil
    go_simp
    (go_at_call 8)
    refine (book12_any _).mono ?_
    rintro e w1 ⟨b, g, S, rfl, hbk, hS, hbn⟩
    refine hK.out _ _ (HK.out _ (hh10.2.trans (hbn.mono (Nat.le_trans HSZ.out hh10.2.size)))) (fun hh0 => ?_)
    clear hK K
    (try simp only [Act.put, List.getElem_toArray, List.getElem_cons_succ, List.getElem_cons_zero, List.setIfInBounds_toArray, List.set_cons_zero, List.set_cons_succ])
    have HBK0 := Lib.hid hbk
    have HS : Hid (∀ j, S j → B ≤ j) := Lib.hid (fun j hj => Nat.le_trans (Nat.le_trans HSZ.out hh10.2.size) (hS j hj))
    have HR0 := Lib.hid ((hbn.block _ (blk_lt HR10.out)).trans HR10.out)
    have HRS : Hid (¬ S r) := Lib.hid (fun z => by have h1 := hS r z; have h2 := blk_lt HR10.out; exact absurd h1 (Nat.not_le.2 h2))
    clear hbk hS hbn
    refine wpAnyF_ready (rs := [5]) (by kernel_rfl) (by simp) ?_
    refine AllReadyF.cons (o := _) rfl (fun K hK => ?_) AllReadyF.nil
    go_simp
    (go_at_call 9)
    refine (digests_new m c A ps _ (HDS.out.below (HB0.out.trans (hh0.2.mono (by have := HKW.out; omega)))) (by omega)).mono ?_
    rintro e w2 ⟨A2, c2, rfl, hc2, hd2, hbn, hnew⟩
    refine hK.out _ _ (HK.out _ (hh0.2.trans (hbn.mono (Nat.le_trans HSZ.out hh0.2.size)))) (fun hh5 => ?_)
    clear hK K
    (try simp only [Act.put, List.getElem_toArray, List.getElem_cons_succ, List.getElem_cons_zero, List.setIfInBounds_toArray, List.set_cons_zero, List.set_cons_succ])
    have HBK5 := Lib.hid (HBK0.out.below hbn)
    have HD5 := Lib.hid hd2
    have HC2 := Lib.hid hc2
    have HOFF : Hid (∀ ad, A2 = some ad → ¬ S ad.block) := Lib.hid (fun ad e z => by have h1 := hnew ad e; have h2 := HBK0.out.sub z; omega)
    have HR5 := Lib.hid ((hbn.block _ (blk_lt HR0.out)).trans HR0.out)
    clear hd2 hc2 hbn hnew
    refine wpAnyF_ready (rs := [6]) (by kernel_rfl) (by simp) ?_
    refine AllReadyF.cons (o := _) rfl (fun K hK => ?_) AllReadyF.nil
    go_simp
    (go_at_call 15)
    refine (HUP.out b A2 c2 _).mono ?_
    rintro e w3 ⟨rfl, hbn⟩
    refine hK.out _ _ (HK.out _ (hh5.2.trans (hbn.mono (Nat.le_trans HSZ.out hh5.2.size)))) (fun hh6 => ?_)
    clear hK K
    (try simp only [Act.put, List.getElem_toArray, List.getElem_cons_succ, List.getElem_cons_zero, List.setIfInBounds_toArray, List.set_cons_zero, List.set_cons_succ])
    have HR6 := Lib.hid ((hbn.block _ (blk_lt HR5.out)).trans HR5.out)
    clear hbn
    refine wpAnyF_take (i := 7) (oi := _) (v := ?_) rfl (by kernel_rfl) (by kernel_rfl) (by kernel_rfl) (by kernel_rfl) (fun _ _ _ h => h) (Or.inl ⟨by rfl, ?_⟩) (by assumption) ?_
    rotate_left 1
    · intro w _
      (first | (go_simp; done) | (go_simp; with_reducible rfl))
    (try simp only [Act.put, List.getElem_toArray, List.getElem_cons_succ, List.getElem_cons_zero, List.setIfInBounds_toArray, List.set_cons_zero, List.set_cons_succ])
    refine wpAnyF_take (i := 8) (oi := _) (v := ?_) rfl (by kernel_rfl) (by kernel_rfl) (by kernel_rfl) (by kernel_rfl) (fun _ _ _ h => h) (Or.inl ⟨by rfl, ?_⟩) (by assumption) ?_
    rotate_left 1
    · intro w _
      (first | (go_simp; done) | (go_simp; with_reducible rfl))
    (try simp only [Act.put, List.getElem_toArray, List.getElem_cons_succ, List.getElem_cons_zero, List.setIfInBounds_toArray, List.set_cons_zero, List.set_cons_succ])
    refine wpAnyF_take (i := 9) (oi := _) (v := ?_) rfl (by kernel_rfl) (by kernel_rfl) (by kernel_rfl) (by kernel_rfl) (fun _ _ _ h => h) (Or.inl ⟨by rfl, ?_⟩) (by assumption) ?_
    rotate_left 1
    · intro w _
      (first | (go_simp; done) | (go_simp; with_reducible rfl))
    (try simp only [Act.put, List.getElem_toArray, List.getElem_cons_succ, List.getElem_cons_zero, List.setIfInBounds_toArray, List.set_cons_zero, List.set_cons_succ])
    refine wpAnyF_ready (rs := [11]) (by kernel_rfl) (by simp) ?_
    refine AllReadyF.cons (o := _) rfl (fun K hK => ?_) AllReadyF.nil
    rw [if_pos (by kernel_rfl)]
    refine wp_store_row 37 (.tmp 9) (.tmp 27) rfl r (zeros 32) rfl rfl _ (zeros 32) HR6.out HIZ.out rfl HOZ.out ?_
    refine hK.out _ _ (HK.out _ (below_setRow hh6.2 HRB.out _)) (fun hh11 => ?_)
    clear hK K
    (try simp only [Act.put, List.getElem_toArray, List.getElem_cons_succ, List.getElem_cons_zero, List.setIfInBounds_toArray, List.set_cons_zero, List.set_cons_succ])
    refine wpAnyF_ready (rs := [12]) (by kernel_rfl) (by simp) ?_
    refine AllReadyF.cons (o := _) rfl (fun K hK => ?_) AllReadyF.nil
    go_simp
    refine hK.out _ _ (by assumption) (fun hh12 => ?_)
    clear hK K
    (try simp only [Act.put, List.getElem_toArray, List.getElem_cons_succ, List.getElem_cons_zero, List.setIfInBounds_toArray, List.set_cons_zero, List.set_cons_succ])
    refine wpAnyF_done (by kernel_rfl) ?_ _
    have hrf := setRow_heap w3 r (zeros 32) (zeros 32) _ _ HR6.out
    obtain ⟨VF, hVF⟩ : ∃ VF, VF = w3.setRow r (zeros 32) := ⟨_, rfl⟩
    rw [← hVF] at hrf hh11 ⊢
    have HRF := Lib.hid hrf
    have HPF := Lib.hid hh11.1
    have HWF : Hid (Below w.heap.size w VF) := Lib.hid (HB0.out.trans (hh11.2.mono (by have := HKW.out; omega)))
    have HRG : Hid (w.heap.size < r) := Lib.hid (by have := HRB.out; have := HKW.out; omega)
    clear hrf hVF
    go_wp2_with (first
      | (with_reducible refine wpList_load_row_wU (by with_unfolding_all rfl) 37 (.tmp 9) rfl _ rfl 37 _ _ _ HRF.out Try.underlying37 rfl HIZ.out ?_)
      | (with_reducible refine wpList_binU (by with_unfolding_all rfl) .eql 37 37 (.tmp 54) (.tmp 55) rfl (.agg (zeros 32)) (.agg (zeros 32)) (.bool true) rfl (by with_unfolding_all rfl) (bk_guard _ _ _ _ _) (zero_eqU _) ?_))
    refine (awake12_any _).mono ?_
    rintro e w4 ⟨rfl, hb4⟩
    have HB4 := Lib.hid (HWF.out.trans (hb4.mono HWF.out.size))
    clear hb4
    go_wp2
    go_ret
    exact ⟨rfl, HB4.out⟩
set_option maxHeartbeats 4000000 in
theorem treeUp_n4 (n k : Int) (x : List Nat) (A : Option Addr) (m c : Nat) (ps : Nat → List Nat) (w : World) (hds : DgS w A m ps) (hm : m ≤ 12) (hc : m ≤ c) (hx : IsDig x) (h1 : ¬ n < 1) (h2 : ¬ 1024 < n) (h3 : ¬ k < 0) (h4 : n ≤ k) :
    Calls Try.prog 4 #[.int .i64 n, .int .i64 k, .agg (dA x), .slice A m c] w fun e w' => e = .returned (.bool true) ∧ Below w.heap.size w w' := by
  have hz := zero_dig
  have hzr := zero32
  obtain ⟨W0, hW0⟩ : ∃ W0, W0 = w.alloc (.cells (dA x) 34) := ⟨_, rfl⟩
  have HB0 : Hid (Below w.heap.size w W0) := Lib.hid (by rw [hW0]; exact (Below.refl _ _).alloc (Nat.le_refl _) _)
  have HP6 : Hid (W0.heap[w.heap.size]? = some (.cells (dA x) 34 (0, 0))) := Lib.hid (by rw [hW0]; exact heap_alloc_new w _)
  have HW0 := Lib.hid hW0
  have hx32 : (dA x).size = 32 := by rw [rowV_size]
  have HIX := Lib.hid (info_d32 hx32)
  have HOX : Hid ((dA x).all (·.oneCell') = true) := Lib.hid (dA_one _)
  have HDS := Lib.hid hds
  have HX := Lib.hid hx
  obtain ⟨B, hB⟩ : ∃ B, B = W0.heap.size := ⟨_, rfl⟩
  have HKW : Hid (B = w.heap.size + 1) := Lib.hid (by rw [hB, hW0]; simp)
  have HBB := Lib.hid hB
  have HSZ : Hid (B ≤ W0.heap.size) := Lib.hid (Nat.le_of_eq hB)
  have HIZ := Lib.hid (info_dig (cs := zeros 32) (by simp [zeros]))
  have HOZ : Hid ((zeros 32).all (·.oneCell') = true) := Lib.hid (by kernel_rfl)
  have HUP : Hid (∀ (b : Nat) (A2 : Option Addr) (c2 : Nat) (W : World), Calls Try.prog 15 #[.pointer (some ⟨b, 0, none⟩), .int .i64 n, .int .i64 k, .agg (dA x), .slice A2 m c2] W (UpNo W)) := Lib.hid (fun b A2 c2 W => tup_no b n k x A2 m c2 W (by omega))
  obtain ⟨xd, hxd⟩ : ∃ z, z = dA x := ⟨_, rfl⟩
  have HXD := Lib.hid hxd
  rw [← hxd] at HW0 HP6 HIX HOX HUP ⊢
  clear hW0 hx32 hxd hds hx hB
  have hm1 : ¬ (12 : Int) < (m : Int) := by omega
  have hm2 : ¬ 12 < m := by omega
  go_enter Try.func4, Try.ntmps4
  go_wp2_with (with_reducible refine Go.Great.wpList_boxTo rfl 34 (.tmp 2) rfl (some 6) rfl w.heap.size (by simp) xd rfl ?_)
  rw [← HW0.out]
  go_upto_region 3 with (fail)
  have HK : Hid (∀ W, Below B W0 W → W.heap[w.heap.size]? = some (.cells xd 34 (0, 0)) ∧ Below B W0 W) := Lib.hid (fun W hW => ⟨(hW.block _ (by have := HKW.out; omega)).trans HP6.out, hW⟩)
  refine wp_region_F (S := (fun W : World => W.heap[w.heap.size]? = some (.cells xd 34 (0, 0)) ∧ Below B W0 W)) [] (by kernel_rfl) (HK.out _ (by have e := HBB.out; rw [e]; exact (Below.refl _ _).drew)) (fun hh => ?_)
  refine wpAnyF_take (i := 1) (oi := _) (v := ?_) rfl (by kernel_rfl) (by kernel_rfl) (by kernel_rfl) (by kernel_rfl) (fun _ _ _ h => h) (Or.inl ⟨by rfl, ?_⟩) (by assumption) ?_
  rotate_left 1
  · intro w _
    (first | (go_simp; done) | (go_simp; with_reducible rfl))
  (try simp only [Act.put, List.getElem_toArray, List.getElem_cons_succ, List.getElem_cons_zero, List.setIfInBounds_toArray, List.set_cons_zero, List.set_cons_succ])
  refine wpAnyF_take (i := 2) (oi := _) (v := ?_) rfl (by kernel_rfl) (by kernel_rfl) (by kernel_rfl) (by kernel_rfl) (fun _ _ _ h => h) (Or.inl ⟨by rfl, ?_⟩) (by assumption) ?_
  rotate_left 1
  · intro w _
    (first | (go_simp; done) | (go_simp; with_reducible rfl))
  (try simp only [Act.put, List.getElem_toArray, List.getElem_cons_succ, List.getElem_cons_zero, List.setIfInBounds_toArray, List.set_cons_zero, List.set_cons_succ])
  refine wpAnyF_take (i := 3) (oi := _) (v := _) rfl (by kernel_rfl) (by kernel_rfl) (by kernel_rfl) (by kernel_rfl) (fun _ _ _ h => h) (yields_rowU (by rfl) 34 (.tmp 6) rfl w.heap.size 0 rfl xd _ (fun W h => range_cells h.1) Try.underlying34 rfl HIX.out) (by assumption) ?_
  (try simp only [Act.put, List.getElem_toArray, List.getElem_cons_succ, List.getElem_cons_zero, List.setIfInBounds_toArray, List.set_cons_zero, List.set_cons_succ])
  refine wpAnyF_take (i := 4) (oi := _) (v := ?_) rfl (by kernel_rfl) (by kernel_rfl) (by kernel_rfl) (by kernel_rfl) (fun _ _ _ h => h) (Or.inl ⟨by rfl, ?_⟩) (by assumption) ?_
  rotate_left 1
  · intro w _
    (first | (go_simp; done) | (go_simp; with_reducible rfl))
  (try simp only [Act.put, List.getElem_toArray, List.getElem_cons_succ, List.getElem_cons_zero, List.setIfInBounds_toArray, List.set_cons_zero, List.set_cons_succ])
  refine wpAnyF_ready (rs := [0, 10]) (by kernel_rfl) (by simp) ?_
  refine AllReadyF.cons (o := _) rfl (fun K hK => ?_) (AllReadyF.cons (o := _) rfl (fun K hK => ?_) AllReadyF.nil)
  · go_simp
    (go_at_call 8)
    refine (book12_any _).mono ?_
    rintro e w1 ⟨b, g, S, rfl, hbk, hS, hbn⟩
    refine hK.out _ _ (HK.out _ (hh.2.trans (hbn.mono (Nat.le_trans HSZ.out hh.2.size)))) (fun hh0 => ?_)
    clear hK K
    (try simp only [Act.put, List.getElem_toArray, List.getElem_cons_succ, List.getElem_cons_zero, List.setIfInBounds_toArray, List.set_cons_zero, List.set_cons_succ])
    have HBK0 := Lib.hid hbk
    have HS : Hid (∀ j, S j → B ≤ j) := Lib.hid (fun j hj => Nat.le_trans (Nat.le_trans HSZ.out hh.2.size) (hS j hj))
    clear hbk hS hbn
    refine wpAnyF_ready (rs := [5, 10]) (by kernel_rfl) (by simp) ?_
    refine AllReadyF.cons (o := _) rfl (fun K hK => ?_) (AllReadyF.cons (o := _) rfl (fun K hK => ?_) AllReadyF.nil)
    · go_simp
      (go_at_call 9)
      refine (digests_new m c A ps _ (HDS.out.below (HB0.out.trans (hh0.2.mono (by have := HKW.out; omega)))) (by omega)).mono ?_
      rintro e w2 ⟨A2, c2, rfl, hc2, hd2, hbn, hnew⟩
      refine hK.out _ _ (HK.out _ (hh0.2.trans (hbn.mono (Nat.le_trans HSZ.out hh0.2.size)))) (fun hh5 => ?_)
      clear hK K
      (try simp only [Act.put, List.getElem_toArray, List.getElem_cons_succ, List.getElem_cons_zero, List.setIfInBounds_toArray, List.set_cons_zero, List.set_cons_succ])
      have HBK5 := Lib.hid (HBK0.out.below hbn)
      have HD5 := Lib.hid hd2
      have HC2 := Lib.hid hc2
      have HOFF : Hid (∀ ad, A2 = some ad → ¬ S ad.block) := Lib.hid (fun ad e z => by have h1 := hnew ad e; have h2 := HBK0.out.sub z; omega)
      clear hd2 hc2 hbn hnew
      refine wpAnyF_ready (rs := [6, 10]) (by kernel_rfl) (by simp) ?_
      refine AllReadyF.cons (o := _) rfl (fun K hK => ?_) (AllReadyF.cons (o := _) rfl (fun K hK => ?_) AllReadyF.nil)
      · go_simp
        (go_at_call 15)
        refine (HUP.out b A2 c2 _).mono ?_
        rintro e w3 ⟨rfl, hbn⟩
        refine hK.out _ _ (HK.out _ (hh5.2.trans (hbn.mono (Nat.le_trans HSZ.out hh5.2.size)))) (fun hh6 => ?_)
        clear hK K
        (try simp only [Act.put, List.getElem_toArray, List.getElem_cons_succ, List.getElem_cons_zero, List.setIfInBounds_toArray, List.set_cons_zero, List.set_cons_succ])
        clear hbn
        refine wpAnyF_take (i := 7) (oi := _) (v := ?_) rfl (by kernel_rfl) (by kernel_rfl) (by kernel_rfl) (by kernel_rfl) (fun _ _ _ h => h) (Or.inl ⟨by rfl, ?_⟩) (by assumption) ?_
        rotate_left 1
        · intro w _
          (first | (go_simp; done) | (go_simp; with_reducible rfl))
        (try simp only [Act.put, List.getElem_toArray, List.getElem_cons_succ, List.getElem_cons_zero, List.setIfInBounds_toArray, List.set_cons_zero, List.set_cons_succ])
        refine wpAnyF_take (i := 8) (oi := _) (v := ?_) rfl (by kernel_rfl) (by kernel_rfl) (by kernel_rfl) (by kernel_rfl) (fun _ _ _ h => h) (Or.inl ⟨by rfl, ?_⟩) (by assumption) ?_
        rotate_left 1
        · intro w _
          (first | (go_simp; done) | (go_simp; with_reducible rfl))
        (try simp only [Act.put, List.getElem_toArray, List.getElem_cons_succ, List.getElem_cons_zero, List.setIfInBounds_toArray, List.set_cons_zero, List.set_cons_succ])
        refine wpAnyF_take (i := 9) (oi := _) (v := ?_) rfl (by kernel_rfl) (by kernel_rfl) (by kernel_rfl) (by kernel_rfl) (fun _ _ _ h => h) (Or.inl ⟨by rfl, ?_⟩) (by assumption) ?_
        rotate_left 1
        · intro w _
          (first | (go_simp; done) | (go_simp; with_reducible rfl))
        (try simp only [Act.put, List.getElem_toArray, List.getElem_cons_succ, List.getElem_cons_zero, List.setIfInBounds_toArray, List.set_cons_zero, List.set_cons_succ])
        refine wpAnyF_ready (rs := [10]) (by kernel_rfl) (by simp) ?_
        refine AllReadyF.cons (o := _) rfl (fun K hK => ?_) AllReadyF.nil
        go_simp
        refine hK.out _ _ (HK.out _ ((hh6.2).alloc (Nat.le_trans HSZ.out hh6.2.size) _)) (fun hh10 => ?_)
        clear hK K
        (try simp only [Act.put, List.getElem_toArray, List.getElem_cons_succ, List.getElem_cons_zero, List.setIfInBounds_toArray, List.set_cons_zero, List.set_cons_succ])
        have hr := heap_alloc_new w3 (.cells (zeros 32) 37)
        have hbn : Below w3.heap.size w3 (w3.alloc (.cells (zeros 32) 37)) := (Below.refl _ _).alloc (Nat.le_refl _) _
        have hrb : B ≤ w3.heap.size := (Nat.le_trans HSZ.out hh6.2.size)
        clear hbn
        obtain ⟨V, hV⟩ : ∃ V, V = w3.alloc (.cells (zeros 32) 37) := ⟨_, rfl⟩
        rw [← hV] at hr hh10 ⊢
        obtain ⟨r, hrr⟩ : ∃ r, r = w3.heap.size := ⟨_, rfl⟩
        rw [← hrr] at hr hrb ⊢
        have HR10 := Lib.hid hr
        have HRB := Lib.hid hrb
        clear hV hrr hr hrb
        refine wpAnyF_ready (rs := [11]) (by kernel_rfl) (by simp) ?_
        refine AllReadyF.cons (o := _) rfl (fun K hK => ?_) AllReadyF.nil
        rw [if_pos (by kernel_rfl)]
        refine wp_store_row 37 (.tmp 9) (.tmp 27) rfl r (zeros 32) rfl rfl _ (zeros 32) HR10.out HIZ.out rfl HOZ.out ?_
        refine hK.out _ _ (HK.out _ (below_setRow hh10.2 HRB.out _)) (fun hh11 => ?_)
        clear hK K
        (try simp only [Act.put, List.getElem_toArray, List.getElem_cons_succ, List.getElem_cons_zero, List.setIfInBounds_toArray, List.set_cons_zero, List.set_cons_succ])
        refine wpAnyF_ready (rs := [12]) (by kernel_rfl) (by simp) ?_
        refine AllReadyF.cons (o := _) rfl (fun K hK => ?_) AllReadyF.nil
        go_simp
        refine hK.out _ _ (by assumption) (fun hh12 => ?_)
        clear hK K
        (try simp only [Act.put, List.getElem_toArray, List.getElem_cons_succ, List.getElem_cons_zero, List.setIfInBounds_toArray, List.set_cons_zero, List.set_cons_succ])
        refine wpAnyF_done (by kernel_rfl) ?_ _
        have hrf := setRow_heap V r (zeros 32) (zeros 32) _ _ HR10.out
        obtain ⟨VF, hVF⟩ : ∃ VF, VF = V.setRow r (zeros 32) := ⟨_, rfl⟩
        rw [← hVF] at hrf hh11 ⊢
        have HRF := Lib.hid hrf
        have HPF := Lib.hid hh11.1
        have HWF : Hid (Below w.heap.size w VF) := Lib.hid (HB0.out.trans (hh11.2.mono (by have := HKW.out; omega)))
        have HRG : Hid (w.heap.size < r) := Lib.hid (by have := HRB.out; have := HKW.out; omega)
        clear hrf hVF
        go_wp2_with (first
          | (with_reducible refine wpList_load_row_wU (by with_unfolding_all rfl) 37 (.tmp 9) rfl _ rfl 37 _ _ _ HRF.out Try.underlying37 rfl HIZ.out ?_)
          | (with_reducible refine wpList_binU (by with_unfolding_all rfl) .eql 37 37 (.tmp 54) (.tmp 55) rfl (.agg (zeros 32)) (.agg (zeros 32)) (.bool true) rfl (by with_unfolding_all rfl) (bk_guard _ _ _ _ _) (zero_eqU _) ?_))
        refine (awake12_any _).mono ?_
        rintro e w4 ⟨rfl, hb4⟩
        have HB4 := Lib.hid (HWF.out.trans (hb4.mono HWF.out.size))
        clear hb4
        go_wp2
        go_ret
        exact ⟨rfl, HB4.out⟩
      · go_simp
        refine hK.out _ _ (HK.out _ ((hh5.2).alloc (Nat.le_trans HSZ.out hh5.2.size) _)) (fun hh10 => ?_)
        clear hK K
        (try simp only [Act.put, List.getElem_toArray, List.getElem_cons_succ, List.getElem_cons_zero, List.setIfInBounds_toArray, List.set_cons_zero, List.set_cons_succ])
        have hr := heap_alloc_new w2 (.cells (zeros 32) 37)
        have hbn : Below w2.heap.size w2 (w2.alloc (.cells (zeros 32) 37)) := (Below.refl _ _).alloc (Nat.le_refl _) _
        have HBK10 := Lib.hid (HBK5.out.below hbn)
        have HD10 := Lib.hid (HD5.out.below hbn)
        have hrb : B ≤ w2.heap.size := (Nat.le_trans HSZ.out hh5.2.size)
        have hrs : ¬ S w2.heap.size := fun z => by have := HBK5.out.sub z; omega
        clear hbn
        obtain ⟨V, hV⟩ : ∃ V, V = w2.alloc (.cells (zeros 32) 37) := ⟨_, rfl⟩
        rw [← hV] at hr hh10 ⊢
        rw [← hV] at HBK10
        rw [← hV] at HD10
        obtain ⟨r, hrr⟩ : ∃ r, r = w2.heap.size := ⟨_, rfl⟩
        rw [← hrr] at hr hrb ⊢
        rw [← hrr] at hrs
        have HRS := Lib.hid hrs
        clear hrs
        have HR10 := Lib.hid hr
        have HRB := Lib.hid hrb
        clear hV hrr hr hrb
        refine wpAnyF_ready (rs := [6]) (by kernel_rfl) (by simp) ?_
        refine AllReadyF.cons (o := _) rfl (fun K hK => ?_) AllReadyF.nil
        go_simp
        (go_at_call 15)
        refine (HUP.out b A2 c2 _).mono ?_
        rintro e w3 ⟨rfl, hbn⟩
        refine hK.out _ _ (HK.out _ (hh10.2.trans (hbn.mono (Nat.le_trans HSZ.out hh10.2.size)))) (fun hh6 => ?_)
        clear hK K
        (try simp only [Act.put, List.getElem_toArray, List.getElem_cons_succ, List.getElem_cons_zero, List.setIfInBounds_toArray, List.set_cons_zero, List.set_cons_succ])
        have HR6 := Lib.hid ((hbn.block _ (blk_lt HR10.out)).trans HR10.out)
        clear hbn
        refine wpAnyF_take (i := 7) (oi := _) (v := ?_) rfl (by kernel_rfl) (by kernel_rfl) (by kernel_rfl) (by kernel_rfl) (fun _ _ _ h => h) (Or.inl ⟨by rfl, ?_⟩) (by assumption) ?_
        rotate_left 1
        · intro w _
          (first | (go_simp; done) | (go_simp; with_reducible rfl))
        (try simp only [Act.put, List.getElem_toArray, List.getElem_cons_succ, List.getElem_cons_zero, List.setIfInBounds_toArray, List.set_cons_zero, List.set_cons_succ])
        refine wpAnyF_take (i := 8) (oi := _) (v := ?_) rfl (by kernel_rfl) (by kernel_rfl) (by kernel_rfl) (by kernel_rfl) (fun _ _ _ h => h) (Or.inl ⟨by rfl, ?_⟩) (by assumption) ?_
        rotate_left 1
        · intro w _
          (first | (go_simp; done) | (go_simp; with_reducible rfl))
        (try simp only [Act.put, List.getElem_toArray, List.getElem_cons_succ, List.getElem_cons_zero, List.setIfInBounds_toArray, List.set_cons_zero, List.set_cons_succ])
        refine wpAnyF_take (i := 9) (oi := _) (v := ?_) rfl (by kernel_rfl) (by kernel_rfl) (by kernel_rfl) (by kernel_rfl) (fun _ _ _ h => h) (Or.inl ⟨by rfl, ?_⟩) (by assumption) ?_
        rotate_left 1
        · intro w _
          (first | (go_simp; done) | (go_simp; with_reducible rfl))
        (try simp only [Act.put, List.getElem_toArray, List.getElem_cons_succ, List.getElem_cons_zero, List.setIfInBounds_toArray, List.set_cons_zero, List.set_cons_succ])
        refine wpAnyF_ready (rs := [11]) (by kernel_rfl) (by simp) ?_
        refine AllReadyF.cons (o := _) rfl (fun K hK => ?_) AllReadyF.nil
        rw [if_pos (by kernel_rfl)]
        refine wp_store_row 37 (.tmp 9) (.tmp 27) rfl r (zeros 32) rfl rfl _ (zeros 32) HR6.out HIZ.out rfl HOZ.out ?_
        refine hK.out _ _ (HK.out _ (below_setRow hh6.2 HRB.out _)) (fun hh11 => ?_)
        clear hK K
        (try simp only [Act.put, List.getElem_toArray, List.getElem_cons_succ, List.getElem_cons_zero, List.setIfInBounds_toArray, List.set_cons_zero, List.set_cons_succ])
        refine wpAnyF_ready (rs := [12]) (by kernel_rfl) (by simp) ?_
        refine AllReadyF.cons (o := _) rfl (fun K hK => ?_) AllReadyF.nil
        go_simp
        refine hK.out _ _ (by assumption) (fun hh12 => ?_)
        clear hK K
        (try simp only [Act.put, List.getElem_toArray, List.getElem_cons_succ, List.getElem_cons_zero, List.setIfInBounds_toArray, List.set_cons_zero, List.set_cons_succ])
        refine wpAnyF_done (by kernel_rfl) ?_ _
        have hrf := setRow_heap w3 r (zeros 32) (zeros 32) _ _ HR6.out
        obtain ⟨VF, hVF⟩ : ∃ VF, VF = w3.setRow r (zeros 32) := ⟨_, rfl⟩
        rw [← hVF] at hrf hh11 ⊢
        have HRF := Lib.hid hrf
        have HPF := Lib.hid hh11.1
        have HWF : Hid (Below w.heap.size w VF) := Lib.hid (HB0.out.trans (hh11.2.mono (by have := HKW.out; omega)))
        have HRG : Hid (w.heap.size < r) := Lib.hid (by have := HRB.out; have := HKW.out; omega)
        clear hrf hVF
        go_wp2_with (first
          | (with_reducible refine wpList_load_row_wU (by with_unfolding_all rfl) 37 (.tmp 9) rfl _ rfl 37 _ _ _ HRF.out Try.underlying37 rfl HIZ.out ?_)
          | (with_reducible refine wpList_binU (by with_unfolding_all rfl) .eql 37 37 (.tmp 54) (.tmp 55) rfl (.agg (zeros 32)) (.agg (zeros 32)) (.bool true) rfl (by with_unfolding_all rfl) (bk_guard _ _ _ _ _) (zero_eqU _) ?_))
        refine (awake12_any _).mono ?_
        rintro e w4 ⟨rfl, hb4⟩
        have HB4 := Lib.hid (HWF.out.trans (hb4.mono HWF.out.size))
        clear hb4
        go_wp2
        go_ret
        exact ⟨rfl, HB4.out⟩
    · go_simp
      refine hK.out _ _ (HK.out _ ((hh0.2).alloc (Nat.le_trans HSZ.out hh0.2.size) _)) (fun hh10 => ?_)
      clear hK K
      (try simp only [Act.put, List.getElem_toArray, List.getElem_cons_succ, List.getElem_cons_zero, List.setIfInBounds_toArray, List.set_cons_zero, List.set_cons_succ])
      have hr := heap_alloc_new w1 (.cells (zeros 32) 37)
      have hbn : Below w1.heap.size w1 (w1.alloc (.cells (zeros 32) 37)) := (Below.refl _ _).alloc (Nat.le_refl _) _
      have HBK10 := Lib.hid (HBK0.out.below hbn)
      have hrb : B ≤ w1.heap.size := (Nat.le_trans HSZ.out hh0.2.size)
      have hrs : ¬ S w1.heap.size := fun z => by have := HBK0.out.sub z; omega
      clear hbn
      obtain ⟨V, hV⟩ : ∃ V, V = w1.alloc (.cells (zeros 32) 37) := ⟨_, rfl⟩
      rw [← hV] at hr hh10 ⊢
      rw [← hV] at HBK10
      obtain ⟨r, hrr⟩ : ∃ r, r = w1.heap.size := ⟨_, rfl⟩
      rw [← hrr] at hr hrb ⊢
      rw [← hrr] at hrs
      have HRS := Lib.hid hrs
      clear hrs
      have HR10 := Lib.hid hr
      have HRB := Lib.hid hrb
      clear hV hrr hr hrb
      refine wpAnyF_ready (rs := [5]) (by kernel_rfl) (by simp) ?_
      refine AllReadyF.cons (o := _) rfl (fun K hK => ?_) AllReadyF.nil
      go_simp
      (go_at_call 9)
      refine (digests_new m c A ps _ (HDS.out.below (HB0.out.trans (hh10.2.mono (by have := HKW.out; omega)))) (by omega)).mono ?_
      rintro e w2 ⟨A2, c2, rfl, hc2, hd2, hbn, hnew⟩
      refine hK.out _ _ (HK.out _ (hh10.2.trans (hbn.mono (Nat.le_trans HSZ.out hh10.2.size)))) (fun hh5 => ?_)
      clear hK K
      (try simp only [Act.put, List.getElem_toArray, List.getElem_cons_succ, List.getElem_cons_zero, List.setIfInBounds_toArray, List.set_cons_zero, List.set_cons_succ])
      have HBK5 := Lib.hid (HBK10.out.below hbn)
      have HD5 := Lib.hid hd2
      have HC2 := Lib.hid hc2
      have HOFF : Hid (∀ ad, A2 = some ad → ¬ S ad.block) := Lib.hid (fun ad e z => by have h1 := hnew ad e; have h2 := HBK10.out.sub z; omega)
      have HR5 := Lib.hid ((hbn.block _ (blk_lt HR10.out)).trans HR10.out)
      clear hd2 hc2 hbn hnew
      refine wpAnyF_ready (rs := [6]) (by kernel_rfl) (by simp) ?_
      refine AllReadyF.cons (o := _) rfl (fun K hK => ?_) AllReadyF.nil
      go_simp
      (go_at_call 15)
      refine (HUP.out b A2 c2 _).mono ?_
      rintro e w3 ⟨rfl, hbn⟩
      refine hK.out _ _ (HK.out _ (hh5.2.trans (hbn.mono (Nat.le_trans HSZ.out hh5.2.size)))) (fun hh6 => ?_)
      clear hK K
      (try simp only [Act.put, List.getElem_toArray, List.getElem_cons_succ, List.getElem_cons_zero, List.setIfInBounds_toArray, List.set_cons_zero, List.set_cons_succ])
      have HR6 := Lib.hid ((hbn.block _ (blk_lt HR5.out)).trans HR5.out)
      clear hbn
      refine wpAnyF_take (i := 7) (oi := _) (v := ?_) rfl (by kernel_rfl) (by kernel_rfl) (by kernel_rfl) (by kernel_rfl) (fun _ _ _ h => h) (Or.inl ⟨by rfl, ?_⟩) (by assumption) ?_
      rotate_left 1
      · intro w _
        (first | (go_simp; done) | (go_simp; with_reducible rfl))
      (try simp only [Act.put, List.getElem_toArray, List.getElem_cons_succ, List.getElem_cons_zero, List.setIfInBounds_toArray, List.set_cons_zero, List.set_cons_succ])
      refine wpAnyF_take (i := 8) (oi := _) (v := ?_) rfl (by kernel_rfl) (by kernel_rfl) (by kernel_rfl) (by kernel_rfl) (fun _ _ _ h => h) (Or.inl ⟨by rfl, ?_⟩) (by assumption) ?_
      rotate_left 1
      · intro w _
        (first | (go_simp; done) | (go_simp; with_reducible rfl))
      (try simp only [Act.put, List.getElem_toArray, List.getElem_cons_succ, List.getElem_cons_zero, List.setIfInBounds_toArray, List.set_cons_zero, List.set_cons_succ])
      refine wpAnyF_take (i := 9) (oi := _) (v := ?_) rfl (by kernel_rfl) (by kernel_rfl) (by kernel_rfl) (by kernel_rfl) (fun _ _ _ h => h) (Or.inl ⟨by rfl, ?_⟩) (by assumption) ?_
      rotate_left 1
      · intro w _
        (first | (go_simp; done) | (go_simp; with_reducible rfl))
      (try simp only [Act.put, List.getElem_toArray, List.getElem_cons_succ, List.getElem_cons_zero, List.setIfInBounds_toArray, List.set_cons_zero, List.set_cons_succ])
      refine wpAnyF_ready (rs := [11]) (by kernel_rfl) (by simp) ?_
      refine AllReadyF.cons (o := _) rfl (fun K hK => ?_) AllReadyF.nil
      rw [if_pos (by kernel_rfl)]
      refine wp_store_row 37 (.tmp 9) (.tmp 27) rfl r (zeros 32) rfl rfl _ (zeros 32) HR6.out HIZ.out rfl HOZ.out ?_
      refine hK.out _ _ (HK.out _ (below_setRow hh6.2 HRB.out _)) (fun hh11 => ?_)
      clear hK K
      (try simp only [Act.put, List.getElem_toArray, List.getElem_cons_succ, List.getElem_cons_zero, List.setIfInBounds_toArray, List.set_cons_zero, List.set_cons_succ])
      refine wpAnyF_ready (rs := [12]) (by kernel_rfl) (by simp) ?_
      refine AllReadyF.cons (o := _) rfl (fun K hK => ?_) AllReadyF.nil
      go_simp
      refine hK.out _ _ (by assumption) (fun hh12 => ?_)
      clear hK K
      (try simp only [Act.put, List.getElem_toArray, List.getElem_cons_succ, List.getElem_cons_zero, List.setIfInBounds_toArray, List.set_cons_zero, List.set_cons_succ])
      refine wpAnyF_done (by kernel_rfl) ?_ _
      have hrf := setRow_heap w3 r (zeros 32) (zeros 32) _ _ HR6.out
      obtain ⟨VF, hVF⟩ : ∃ VF, VF = w3.setRow r (zeros 32) := ⟨_, rfl⟩
      rw [← hVF] at hrf hh11 ⊢
      have HRF := Lib.hid hrf
      have HPF := Lib.hid hh11.1
      have HWF : Hid (Below w.heap.size w VF) := Lib.hid (HB0.out.trans (hh11.2.mono (by have := HKW.out; omega)))
      have HRG : Hid (w.heap.size < r) := Lib.hid (by have := HRB.out; have := HKW.out; omega)
      clear hrf hVF
      go_wp2_with (first
        | (with_reducible refine wpList_load_row_wU (by with_unfolding_all rfl) 37 (.tmp 9) rfl _ rfl 37 _ _ _ HRF.out Try.underlying37 rfl HIZ.out ?_)
        | (with_reducible refine wpList_binU (by with_unfolding_all rfl) .eql 37 37 (.tmp 54) (.tmp 55) rfl (.agg (zeros 32)) (.agg (zeros 32)) (.bool true) rfl (by with_unfolding_all rfl) (bk_guard _ _ _ _ _) (zero_eqU _) ?_))
      refine (awake12_any _).mono ?_
      rintro e w4 ⟨rfl, hb4⟩
      have HB4 := Lib.hid (HWF.out.trans (hb4.mono HWF.out.size))
      clear hb4
      go_wp2
      go_ret
      exact ⟨rfl, HB4.out⟩
  · go_simp
    refine hK.out _ _ (HK.out _ ((hh.2).alloc (Nat.le_trans HSZ.out hh.2.size) _)) (fun hh10 => ?_)
    clear hK K
    (try simp only [Act.put, List.getElem_toArray, List.getElem_cons_succ, List.getElem_cons_zero, List.setIfInBounds_toArray, List.set_cons_zero, List.set_cons_succ])
    have hr := heap_alloc_new W0 (.cells (zeros 32) 37)
    have hbn : Below W0.heap.size W0 (W0.alloc (.cells (zeros 32) 37)) := (Below.refl _ _).alloc (Nat.le_refl _) _
    have hrb : B ≤ W0.heap.size := (Nat.le_trans HSZ.out hh.2.size)
    clear hbn
    obtain ⟨V, hV⟩ : ∃ V, V = W0.alloc (.cells (zeros 32) 37) := ⟨_, rfl⟩
    rw [← hV] at hr hh10 ⊢
    obtain ⟨r, hrr⟩ : ∃ r, r = W0.heap.size := ⟨_, rfl⟩
    rw [← hrr] at hr hrb ⊢
    have HR10 := Lib.hid hr
    have HRB := Lib.hid hrb
    clear hV hrr hr hrb
    refine wpAnyF_ready (rs := [0]) (by kernel_rfl) (by simp) ?_
    refine AllReadyF.cons (o := _) rfl (fun K hK => ?_) AllReadyF.nil
    go_simp
    (go_at_call 8)
    refine (book12_any _).mono ?_
    rintro e w1 ⟨b, g, S, rfl, hbk, hS, hbn⟩
    refine hK.out _ _ (HK.out _ (hh10.2.trans (hbn.mono (Nat.le_trans HSZ.out hh10.2.size)))) (fun hh0 => ?_)
    clear hK K
    (try simp only [Act.put, List.getElem_toArray, List.getElem_cons_succ, List.getElem_cons_zero, List.setIfInBounds_toArray, List.set_cons_zero, List.set_cons_succ])
    have HBK0 := Lib.hid hbk
    have HS : Hid (∀ j, S j → B ≤ j) := Lib.hid (fun j hj => Nat.le_trans (Nat.le_trans HSZ.out hh10.2.size) (hS j hj))
    have HR0 := Lib.hid ((hbn.block _ (blk_lt HR10.out)).trans HR10.out)
    have HRS : Hid (¬ S r) := Lib.hid (fun z => by have h1 := hS r z; have h2 := blk_lt HR10.out; exact absurd h1 (Nat.not_le.2 h2))
    clear hbk hS hbn
    refine wpAnyF_ready (rs := [5]) (by kernel_rfl) (by simp) ?_
    refine AllReadyF.cons (o := _) rfl (fun K hK => ?_) AllReadyF.nil
    go_simp
    (go_at_call 9)
    refine (digests_new m c A ps _ (HDS.out.below (HB0.out.trans (hh0.2.mono (by have := HKW.out; omega)))) (by omega)).mono ?_
    rintro e w2 ⟨A2, c2, rfl, hc2, hd2, hbn, hnew⟩
    refine hK.out _ _ (HK.out _ (hh0.2.trans (hbn.mono (Nat.le_trans HSZ.out hh0.2.size)))) (fun hh5 => ?_)
    clear hK K
    (try simp only [Act.put, List.getElem_toArray, List.getElem_cons_succ, List.getElem_cons_zero, List.setIfInBounds_toArray, List.set_cons_zero, List.set_cons_succ])
    have HBK5 := Lib.hid (HBK0.out.below hbn)
    have HD5 := Lib.hid hd2
    have HC2 := Lib.hid hc2
    have HOFF : Hid (∀ ad, A2 = some ad → ¬ S ad.block) := Lib.hid (fun ad e z => by have h1 := hnew ad e; have h2 := HBK0.out.sub z; omega)
    have HR5 := Lib.hid ((hbn.block _ (blk_lt HR0.out)).trans HR0.out)
    clear hd2 hc2 hbn hnew
    refine wpAnyF_ready (rs := [6]) (by kernel_rfl) (by simp) ?_
    refine AllReadyF.cons (o := _) rfl (fun K hK => ?_) AllReadyF.nil
    go_simp
    (go_at_call 15)
    refine (HUP.out b A2 c2 _).mono ?_
    rintro e w3 ⟨rfl, hbn⟩
    refine hK.out _ _ (HK.out _ (hh5.2.trans (hbn.mono (Nat.le_trans HSZ.out hh5.2.size)))) (fun hh6 => ?_)
    clear hK K
    (try simp only [Act.put, List.getElem_toArray, List.getElem_cons_succ, List.getElem_cons_zero, List.setIfInBounds_toArray, List.set_cons_zero, List.set_cons_succ])
    have HR6 := Lib.hid ((hbn.block _ (blk_lt HR5.out)).trans HR5.out)
    clear hbn
    refine wpAnyF_take (i := 7) (oi := _) (v := ?_) rfl (by kernel_rfl) (by kernel_rfl) (by kernel_rfl) (by kernel_rfl) (fun _ _ _ h => h) (Or.inl ⟨by rfl, ?_⟩) (by assumption) ?_
    rotate_left 1
    · intro w _
      (first | (go_simp; done) | (go_simp; with_reducible rfl))
    (try simp only [Act.put, List.getElem_toArray, List.getElem_cons_succ, List.getElem_cons_zero, List.setIfInBounds_toArray, List.set_cons_zero, List.set_cons_succ])
    refine wpAnyF_take (i := 8) (oi := _) (v := ?_) rfl (by kernel_rfl) (by kernel_rfl) (by kernel_rfl) (by kernel_rfl) (fun _ _ _ h => h) (Or.inl ⟨by rfl, ?_⟩) (by assumption) ?_
    rotate_left 1
    · intro w _
      (first | (go_simp; done) | (go_simp; with_reducible rfl))
    (try simp only [Act.put, List.getElem_toArray, List.getElem_cons_succ, List.getElem_cons_zero, List.setIfInBounds_toArray, List.set_cons_zero, List.set_cons_succ])
    refine wpAnyF_take (i := 9) (oi := _) (v := ?_) rfl (by kernel_rfl) (by kernel_rfl) (by kernel_rfl) (by kernel_rfl) (fun _ _ _ h => h) (Or.inl ⟨by rfl, ?_⟩) (by assumption) ?_
    rotate_left 1
    · intro w _
      (first | (go_simp; done) | (go_simp; with_reducible rfl))
    (try simp only [Act.put, List.getElem_toArray, List.getElem_cons_succ, List.getElem_cons_zero, List.setIfInBounds_toArray, List.set_cons_zero, List.set_cons_succ])
    refine wpAnyF_ready (rs := [11]) (by kernel_rfl) (by simp) ?_
    refine AllReadyF.cons (o := _) rfl (fun K hK => ?_) AllReadyF.nil
    rw [if_pos (by kernel_rfl)]
    refine wp_store_row 37 (.tmp 9) (.tmp 27) rfl r (zeros 32) rfl rfl _ (zeros 32) HR6.out HIZ.out rfl HOZ.out ?_
    refine hK.out _ _ (HK.out _ (below_setRow hh6.2 HRB.out _)) (fun hh11 => ?_)
    clear hK K
    (try simp only [Act.put, List.getElem_toArray, List.getElem_cons_succ, List.getElem_cons_zero, List.setIfInBounds_toArray, List.set_cons_zero, List.set_cons_succ])
    refine wpAnyF_ready (rs := [12]) (by kernel_rfl) (by simp) ?_
    refine AllReadyF.cons (o := _) rfl (fun K hK => ?_) AllReadyF.nil
    go_simp
    refine hK.out _ _ (by assumption) (fun hh12 => ?_)
    clear hK K
    (try simp only [Act.put, List.getElem_toArray, List.getElem_cons_succ, List.getElem_cons_zero, List.setIfInBounds_toArray, List.set_cons_zero, List.set_cons_succ])
    refine wpAnyF_done (by kernel_rfl) ?_ _
    have hrf := setRow_heap w3 r (zeros 32) (zeros 32) _ _ HR6.out
    obtain ⟨VF, hVF⟩ : ∃ VF, VF = w3.setRow r (zeros 32) := ⟨_, rfl⟩
    rw [← hVF] at hrf hh11 ⊢
    have HRF := Lib.hid hrf
    have HPF := Lib.hid hh11.1
    have HWF : Hid (Below w.heap.size w VF) := Lib.hid (HB0.out.trans (hh11.2.mono (by have := HKW.out; omega)))
    have HRG : Hid (w.heap.size < r) := Lib.hid (by have := HRB.out; have := HKW.out; omega)
    clear hrf hVF
    go_wp2_with (first
      | (with_reducible refine wpList_load_row_wU (by with_unfolding_all rfl) 37 (.tmp 9) rfl _ rfl 37 _ _ _ HRF.out Try.underlying37 rfl HIZ.out ?_)
      | (with_reducible refine wpList_binU (by with_unfolding_all rfl) .eql 37 37 (.tmp 54) (.tmp 55) rfl (.agg (zeros 32)) (.agg (zeros 32)) (.bool true) rfl (by with_unfolding_all rfl) (bk_guard _ _ _ _ _) (zero_eqU _) ?_))
    refine (awake12_any _).mono ?_
    rintro e w4 ⟨rfl, hb4⟩
    have HB4 := Lib.hid (HWF.out.trans (hb4.mono HWF.out.size))
    clear hb4
    go_wp2
    go_ret
    exact ⟨rfl, HB4.out⟩
set_option maxHeartbeats 4000000 in
theorem treeUp_n5 (n k : Int) (x : List Nat) (A : Option Addr) (m c : Nat) (ps : Nat → List Nat) (w : World) (hds : DgS w A m ps) (hm : m ≤ 12) (hc : m ≤ c) (hx : IsDig x) (h1 : ¬ n < 1) (h2 : ¬ 1024 < n) (h3 : ¬ k < 0) (h4 : ¬ n ≤ k) (h5 : m ≠ dpX n.toNat) :
    Calls Try.prog 4 #[.int .i64 n, .int .i64 k, .agg (dA x), .slice A m c] w fun e w' => e = .returned (.bool true) ∧ Below w.heap.size w w' := by
  have hz := zero_dig
  have hzr := zero32
  obtain ⟨W0, hW0⟩ : ∃ W0, W0 = w.alloc (.cells (dA x) 34) := ⟨_, rfl⟩
  have HB0 : Hid (Below w.heap.size w W0) := Lib.hid (by rw [hW0]; exact (Below.refl _ _).alloc (Nat.le_refl _) _)
  have HP6 : Hid (W0.heap[w.heap.size]? = some (.cells (dA x) 34 (0, 0))) := Lib.hid (by rw [hW0]; exact heap_alloc_new w _)
  have HW0 := Lib.hid hW0
  have hx32 : (dA x).size = 32 := by rw [rowV_size]
  have HIX := Lib.hid (info_d32 hx32)
  have HOX : Hid ((dA x).all (·.oneCell') = true) := Lib.hid (dA_one _)
  have HDS := Lib.hid hds
  have HX := Lib.hid hx
  obtain ⟨B, hB⟩ : ∃ B, B = W0.heap.size := ⟨_, rfl⟩
  have HKW : Hid (B = w.heap.size + 1) := Lib.hid (by rw [hB, hW0]; simp)
  have HBB := Lib.hid hB
  have HSZ : Hid (B ≤ W0.heap.size) := Lib.hid (Nat.le_of_eq hB)
  have HIZ := Lib.hid (info_dig (cs := zeros 32) (by simp [zeros]))
  have HOZ : Hid ((zeros 32).all (·.oneCell') = true) := Lib.hid (by kernel_rfl)
  have HUP : Hid (∀ (b : Nat) (A2 : Option Addr) (c2 : Nat) (W : World), Calls Try.prog 15 #[.pointer (some ⟨b, 0, none⟩), .int .i64 n, .int .i64 k, .agg (dA x), .slice A2 m c2] W (UpNo W)) := Lib.hid (fun b A2 c2 W => tup_no b n k x A2 m c2 W (by omega))
  obtain ⟨xd, hxd⟩ : ∃ z, z = dA x := ⟨_, rfl⟩
  have HXD := Lib.hid hxd
  rw [← hxd] at HW0 HP6 HIX HOX HUP ⊢
  clear hW0 hx32 hxd hds hx hB
  have hm1 : ¬ (12 : Int) < (m : Int) := by omega
  have hm2 : ¬ 12 < m := by omega
  obtain ⟨n', rfl⟩ : ∃ n' : Nat, n = (n' : Int) := ⟨n.toNat, by omega⟩
  have HRD := Lib.hid (fun W => rdepth_x n' (by omega) W)
  rw [Int.toNat_natCast] at h5
  have hmi : ((m : Int) == (dpX n' : Int)) = false := by rw [beq_eq_false_iff_ne]; omega
  have hmi2 : ((m : Int) != (dpX n' : Int)) = true := by simp [bne, hmi]
  have hmi3 : ¬ (m : Int) = (dpX n' : Int) := by omega
  generalize dpX n' = dn at *
  clear h5
  go_enter Try.func4, Try.ntmps4
  go_wp2_with (with_reducible refine Go.Great.wpList_boxTo rfl 34 (.tmp 2) rfl (some 6) rfl w.heap.size (by simp) xd rfl ?_)
  rw [← HW0.out]
  go_upto_region 3 with (fail)
  have HK : Hid (∀ W, Below B W0 W → W.heap[w.heap.size]? = some (.cells xd 34 (0, 0)) ∧ Below B W0 W) := Lib.hid (fun W hW => ⟨(hW.block _ (by have := HKW.out; omega)).trans HP6.out, hW⟩)
  refine wp_region_F (S := (fun W : World => W.heap[w.heap.size]? = some (.cells xd 34 (0, 0)) ∧ Below B W0 W)) [] (by kernel_rfl) (HK.out _ (by have e := HBB.out; rw [e]; exact (Below.refl _ _).drew)) (fun hh => ?_)
  refine wpAnyF_take (i := 1) (oi := _) (v := ?_) rfl (by kernel_rfl) (by kernel_rfl) (by kernel_rfl) (by kernel_rfl) (fun _ _ _ h => h) (Or.inl ⟨by rfl, ?_⟩) (by assumption) ?_
  rotate_left 1
  · intro w _
    (first | (go_simp; done) | (go_simp; with_reducible rfl))
  (try simp only [Act.put, List.getElem_toArray, List.getElem_cons_succ, List.getElem_cons_zero, List.setIfInBounds_toArray, List.set_cons_zero, List.set_cons_succ])
  refine wpAnyF_take (i := 2) (oi := _) (v := ?_) rfl (by kernel_rfl) (by kernel_rfl) (by kernel_rfl) (by kernel_rfl) (fun _ _ _ h => h) (Or.inl ⟨by rfl, ?_⟩) (by assumption) ?_
  rotate_left 1
  · intro w _
    (first | (go_simp; done) | (go_simp; with_reducible rfl))
  (try simp only [Act.put, List.getElem_toArray, List.getElem_cons_succ, List.getElem_cons_zero, List.setIfInBounds_toArray, List.set_cons_zero, List.set_cons_succ])
  refine wpAnyF_take (i := 3) (oi := _) (v := _) rfl (by kernel_rfl) (by kernel_rfl) (by kernel_rfl) (by kernel_rfl) (fun _ _ _ h => h) (yields_rowU (by rfl) 34 (.tmp 6) rfl w.heap.size 0 rfl xd _ (fun W h => range_cells h.1) Try.underlying34 rfl HIX.out) (by assumption) ?_
  (try simp only [Act.put, List.getElem_toArray, List.getElem_cons_succ, List.getElem_cons_zero, List.setIfInBounds_toArray, List.set_cons_zero, List.set_cons_succ])
  refine wpAnyF_take (i := 4) (oi := _) (v := ?_) rfl (by kernel_rfl) (by kernel_rfl) (by kernel_rfl) (by kernel_rfl) (fun _ _ _ h => h) (Or.inl ⟨by rfl, ?_⟩) (by assumption) ?_
  rotate_left 1
  · intro w _
    (first | (go_simp; done) | (go_simp; with_reducible rfl))
  (try simp only [Act.put, List.getElem_toArray, List.getElem_cons_succ, List.getElem_cons_zero, List.setIfInBounds_toArray, List.set_cons_zero, List.set_cons_succ])
  refine wpAnyF_ready (rs := [0, 10]) (by kernel_rfl) (by simp) ?_
  refine AllReadyF.cons (o := _) rfl (fun K hK => ?_) (AllReadyF.cons (o := _) rfl (fun K hK => ?_) AllReadyF.nil)
  · go_simp
    (go_at_call 8)
    refine (book12_any _).mono ?_
    rintro e w1 ⟨b, g, S, rfl, hbk, hS, hbn⟩
    refine hK.out _ _ (HK.out _ (hh.2.trans (hbn.mono (Nat.le_trans HSZ.out hh.2.size)))) (fun hh0 => ?_)
    clear hK K
    (try simp only [Act.put, List.getElem_toArray, List.getElem_cons_succ, List.getElem_cons_zero, List.setIfInBounds_toArray, List.set_cons_zero, List.set_cons_succ])
    have HBK0 := Lib.hid hbk
    have HS : Hid (∀ j, S j → B ≤ j) := Lib.hid (fun j hj => Nat.le_trans (Nat.le_trans HSZ.out hh.2.size) (hS j hj))
    clear hbk hS hbn
    refine wpAnyF_ready (rs := [5, 10]) (by kernel_rfl) (by simp) ?_
    refine AllReadyF.cons (o := _) rfl (fun K hK => ?_) (AllReadyF.cons (o := _) rfl (fun K hK => ?_) AllReadyF.nil)
    · go_simp
      (go_at_call 9)
      refine (digests_new m c A ps _ (HDS.out.below (HB0.out.trans (hh0.2.mono (by have := HKW.out; omega)))) (by omega)).mono ?_
      rintro e w2 ⟨A2, c2, rfl, hc2, hd2, hbn, hnew⟩
      refine hK.out _ _ (HK.out _ (hh0.2.trans (hbn.mono (Nat.le_trans HSZ.out hh0.2.size)))) (fun hh5 => ?_)
      clear hK K
      (try simp only [Act.put, List.getElem_toArray, List.getElem_cons_succ, List.getElem_cons_zero, List.setIfInBounds_toArray, List.set_cons_zero, List.set_cons_succ])
      have HBK5 := Lib.hid (HBK0.out.below hbn)
      have HD5 := Lib.hid hd2
      have HC2 := Lib.hid hc2
      have HOFF : Hid (∀ ad, A2 = some ad → ¬ S ad.block) := Lib.hid (fun ad e z => by have h1 := hnew ad e; have h2 := HBK0.out.sub z; omega)
      clear hd2 hc2 hbn hnew
      refine wpAnyF_ready (rs := [6, 10]) (by kernel_rfl) (by simp) ?_
      refine AllReadyF.cons (o := _) rfl (fun K hK => ?_) (AllReadyF.cons (o := _) rfl (fun K hK => ?_) AllReadyF.nil)
      · go_simp
        (go_at_call 15)
        refine (HUP.out b A2 c2 _).mono ?_
        rintro e w3 ⟨rfl, hbn⟩
        refine hK.out _ _ (HK.out _ (hh5.2.trans (hbn.mono (Nat.le_trans HSZ.out hh5.2.size)))) (fun hh6 => ?_)
        clear hK K
        (try simp only [Act.put, List.getElem_toArray, List.getElem_cons_succ, List.getElem_cons_zero, List.setIfInBounds_toArray, List.set_cons_zero, List.set_cons_succ])
        clear hbn
        refine wpAnyF_take (i := 7) (oi := _) (v := ?_) rfl (by kernel_rfl) (by kernel_rfl) (by kernel_rfl) (by kernel_rfl) (fun _ _ _ h => h) (Or.inl ⟨by rfl, ?_⟩) (by assumption) ?_
        rotate_left 1
        · intro w _
          (first | (go_simp; done) | (go_simp; with_reducible rfl))
        (try simp only [Act.put, List.getElem_toArray, List.getElem_cons_succ, List.getElem_cons_zero, List.setIfInBounds_toArray, List.set_cons_zero, List.set_cons_succ])
        refine wpAnyF_take (i := 8) (oi := _) (v := ?_) rfl (by kernel_rfl) (by kernel_rfl) (by kernel_rfl) (by kernel_rfl) (fun _ _ _ h => h) (Or.inl ⟨by rfl, ?_⟩) (by assumption) ?_
        rotate_left 1
        · intro w _
          (first | (go_simp; done) | (go_simp; with_reducible rfl))
        (try simp only [Act.put, List.getElem_toArray, List.getElem_cons_succ, List.getElem_cons_zero, List.setIfInBounds_toArray, List.set_cons_zero, List.set_cons_succ])
        refine wpAnyF_take (i := 9) (oi := _) (v := ?_) rfl (by kernel_rfl) (by kernel_rfl) (by kernel_rfl) (by kernel_rfl) (fun _ _ _ h => h) (Or.inl ⟨by rfl, ?_⟩) (by assumption) ?_
        rotate_left 1
        · intro w _
          (first | (go_simp; done) | (go_simp; with_reducible rfl))
        (try simp only [Act.put, List.getElem_toArray, List.getElem_cons_succ, List.getElem_cons_zero, List.setIfInBounds_toArray, List.set_cons_zero, List.set_cons_succ])
        refine wpAnyF_ready (rs := [10]) (by kernel_rfl) (by simp) ?_
        refine AllReadyF.cons (o := _) rfl (fun K hK => ?_) AllReadyF.nil
        go_simp
        refine hK.out _ _ (HK.out _ ((hh6.2).alloc (Nat.le_trans HSZ.out hh6.2.size) _)) (fun hh10 => ?_)
        clear hK K
        (try simp only [Act.put, List.getElem_toArray, List.getElem_cons_succ, List.getElem_cons_zero, List.setIfInBounds_toArray, List.set_cons_zero, List.set_cons_succ])
        have hr := heap_alloc_new w3 (.cells (zeros 32) 37)
        have hbn : Below w3.heap.size w3 (w3.alloc (.cells (zeros 32) 37)) := (Below.refl _ _).alloc (Nat.le_refl _) _
        have hrb : B ≤ w3.heap.size := (Nat.le_trans HSZ.out hh6.2.size)
        clear hbn
        obtain ⟨V, hV⟩ : ∃ V, V = w3.alloc (.cells (zeros 32) 37) := ⟨_, rfl⟩
        rw [← hV] at hr hh10 ⊢
        obtain ⟨r, hrr⟩ : ∃ r, r = w3.heap.size := ⟨_, rfl⟩
        rw [← hrr] at hr hrb ⊢
        have HR10 := Lib.hid hr
        have HRB := Lib.hid hrb
        clear hV hrr hr hrb
        refine wpAnyF_ready (rs := [11]) (by kernel_rfl) (by simp) ?_
        refine AllReadyF.cons (o := _) rfl (fun K hK => ?_) AllReadyF.nil
        rw [if_pos (by kernel_rfl)]
        refine wp_store_row 37 (.tmp 9) (.tmp 27) rfl r (zeros 32) rfl rfl _ (zeros 32) HR10.out HIZ.out rfl HOZ.out ?_
        refine hK.out _ _ (HK.out _ (below_setRow hh10.2 HRB.out _)) (fun hh11 => ?_)
        clear hK K
        (try simp only [Act.put, List.getElem_toArray, List.getElem_cons_succ, List.getElem_cons_zero, List.setIfInBounds_toArray, List.set_cons_zero, List.set_cons_succ])
        refine wpAnyF_ready (rs := [12]) (by kernel_rfl) (by simp) ?_
        refine AllReadyF.cons (o := _) rfl (fun K hK => ?_) AllReadyF.nil
        go_simp
        refine hK.out _ _ (by assumption) (fun hh12 => ?_)
        clear hK K
        (try simp only [Act.put, List.getElem_toArray, List.getElem_cons_succ, List.getElem_cons_zero, List.setIfInBounds_toArray, List.set_cons_zero, List.set_cons_succ])
        refine wpAnyF_done (by kernel_rfl) ?_ _
        have hrf := setRow_heap V r (zeros 32) (zeros 32) _ _ HR10.out
        obtain ⟨VF, hVF⟩ : ∃ VF, VF = V.setRow r (zeros 32) := ⟨_, rfl⟩
        rw [← hVF] at hrf hh11 ⊢
        have HRF := Lib.hid hrf
        have HPF := Lib.hid hh11.1
        have HWF : Hid (Below w.heap.size w VF) := Lib.hid (HB0.out.trans (hh11.2.mono (by have := HKW.out; omega)))
        have HRG : Hid (w.heap.size < r) := Lib.hid (by have := HRB.out; have := HKW.out; omega)
        clear hrf hVF
        go_wp2_with fail
        refine (HRD.out _).mono ?_
        rintro e w' ⟨rfl, rfl⟩
        go_wp2_with (first
          | (with_reducible refine wpList_load_row_wU (by with_unfolding_all rfl) 37 (.tmp 9) rfl _ rfl 37 _ _ _ HRF.out Try.underlying37 rfl HIZ.out ?_)
          | (with_reducible refine wpList_binU (by with_unfolding_all rfl) .eql 37 37 (.tmp 54) (.tmp 55) rfl (.agg (zeros 32)) (.agg (zeros 32)) (.bool true) rfl (by with_unfolding_all rfl) (bk_guard _ _ _ _ _) (zero_eqU _) ?_))
        refine (awake12_any _).mono ?_
        rintro e w4 ⟨rfl, hb4⟩
        have HB4 := Lib.hid (HWF.out.trans (hb4.mono HWF.out.size))
        clear hb4
        go_wp2
        go_ret
        exact ⟨rfl, HB4.out⟩
      · go_simp
        refine hK.out _ _ (HK.out _ ((hh5.2).alloc (Nat.le_trans HSZ.out hh5.2.size) _)) (fun hh10 => ?_)
        clear hK K
        (try simp only [Act.put, List.getElem_toArray, List.getElem_cons_succ, List.getElem_cons_zero, List.setIfInBounds_toArray, List.set_cons_zero, List.set_cons_succ])
        have hr := heap_alloc_new w2 (.cells (zeros 32) 37)
        have hbn : Below w2.heap.size w2 (w2.alloc (.cells (zeros 32) 37)) := (Below.refl _ _).alloc (Nat.le_refl _) _
        have HBK10 := Lib.hid (HBK5.out.below hbn)
        have HD10 := Lib.hid (HD5.out.below hbn)
        have hrb : B ≤ w2.heap.size := (Nat.le_trans HSZ.out hh5.2.size)
        have hrs : ¬ S w2.heap.size := fun z => by have := HBK5.out.sub z; omega
        clear hbn
        obtain ⟨V, hV⟩ : ∃ V, V = w2.alloc (.cells (zeros 32) 37) := ⟨_, rfl⟩
        rw [← hV] at hr hh10 ⊢
        rw [← hV] at HBK10
        rw [← hV] at HD10
        obtain ⟨r, hrr⟩ : ∃ r, r = w2.heap.size := ⟨_, rfl⟩
        rw [← hrr] at hr hrb ⊢
        rw [← hrr] at hrs
        have HRS := Lib.hid hrs
        clear hrs
        have HR10 := Lib.hid hr
        have HRB := Lib.hid hrb
        clear hV hrr hr hrb
        refine wpAnyF_ready (rs := [6]) (by kernel_rfl) (by simp) ?_
        refine AllReadyF.cons (o := _) rfl (fun K hK => ?_) AllReadyF.nil
        go_simp
        (go_at_call 15)
        refine (HUP.out b A2 c2 _).mono ?_
        rintro e w3 ⟨rfl, hbn⟩
        refine hK.out _ _ (HK.out _ (hh10.2.trans (hbn.mono (Nat.le_trans HSZ.out hh10.2.size)))) (fun hh6 => ?_)
        clear hK K
        (try simp only [Act.put, List.getElem_toArray, List.getElem_cons_succ, List.getElem_cons_zero, List.setIfInBounds_toArray, List.set_cons_zero, List.set_cons_succ])
        have HR6 := Lib.hid ((hbn.block _ (blk_lt HR10.out)).trans HR10.out)
        clear hbn
        refine wpAnyF_take (i := 7) (oi := _) (v := ?_) rfl (by kernel_rfl) (by kernel_rfl) (by kernel_rfl) (by kernel_rfl) (fun _ _ _ h => h) (Or.inl ⟨by rfl, ?_⟩) (by assumption) ?_
        rotate_left 1
        · intro w _
          (first | (go_simp; done) | (go_simp; with_reducible rfl))
        (try simp only [Act.put, List.getElem_toArray, List.getElem_cons_succ, List.getElem_cons_zero, List.setIfInBounds_toArray, List.set_cons_zero, List.set_cons_succ])
        refine wpAnyF_take (i := 8) (oi := _) (v := ?_) rfl (by kernel_rfl) (by kernel_rfl) (by kernel_rfl) (by kernel_rfl) (fun _ _ _ h => h) (Or.inl ⟨by rfl, ?_⟩) (by assumption) ?_
        rotate_left 1
        · intro w _
          (first | (go_simp; done) | (go_simp; with_reducible rfl))
        (try simp only [Act.put, List.getElem_toArray, List.getElem_cons_succ, List.getElem_cons_zero, List.setIfInBounds_toArray, List.set_cons_zero, List.set_cons_succ])
        refine wpAnyF_take (i := 9) (oi := _) (v := ?_) rfl (by kernel_rfl) (by kernel_rfl) (by kernel_rfl) (by kernel_rfl) (fun _ _ _ h => h) (Or.inl ⟨by rfl, ?_⟩) (by assumption) ?_
        rotate_left 1
        · intro w _
          (first | (go_simp; done) | (go_simp; with_reducible rfl))
        (try simp only [Act.put, List.getElem_toArray, List.getElem_cons_succ, List.getElem_cons_zero, List.setIfInBounds_toArray, List.set_cons_zero, List.set_cons_succ])
        refine wpAnyF_ready (rs := [11]) (by kernel_rfl) (by simp) ?_
        refine AllReadyF.cons (o := _) rfl (fun K hK => ?_) AllReadyF.nil
        rw [if_pos (by kernel_rfl)]
        refine wp_store_row 37 (.tmp 9) (.tmp 27) rfl r (zeros 32) rfl rfl _ (zeros 32) HR6.out HIZ.out rfl HOZ.out ?_
        refine hK.out _ _ (HK.out _ (below_setRow hh6.2 HRB.out _)) (fun hh11 => ?_)
        clear hK K
        (try simp only [Act.put, List.getElem_toArray, List.getElem_cons_succ, List.getElem_cons_zero, List.setIfInBounds_toArray, List.set_cons_zero, List.set_cons_succ])
        refine wpAnyF_ready (rs := [12]) (by kernel_rfl) (by simp) ?_
        refine AllReadyF.cons (o := _) rfl (fun K hK => ?_) AllReadyF.nil
        go_simp
        refine hK.out _ _ (by assumption) (fun hh12 => ?_)
        clear hK K
        (try simp only [Act.put, List.getElem_toArray, List.getElem_cons_succ, List.getElem_cons_zero, List.setIfInBounds_toArray, List.set_cons_zero, List.set_cons_succ])
        refine wpAnyF_done (by kernel_rfl) ?_ _
        have hrf := setRow_heap w3 r (zeros 32) (zeros 32) _ _ HR6.out
        obtain ⟨VF, hVF⟩ : ∃ VF, VF = w3.setRow r (zeros 32) := ⟨_, rfl⟩
        rw [← hVF] at hrf hh11 ⊢
        have HRF := Lib.hid hrf
        have HPF := Lib.hid hh11.1
        have HWF : Hid (Below w.heap.size w VF) := Lib.hid (HB0.out.trans (hh11.2.mono (by have := HKW.out; omega)))
        have HRG : Hid (w.heap.size < r) := Lib.hid (by have := HRB.out; have := HKW.out; omega)
        clear hrf hVF
        go_wp2_with fail
        refine (HRD.out _).mono ?_
        rintro e w' ⟨rfl, rfl⟩
        go_wp2_with (first
          | (with_reducible refine wpList_load_row_wU (by with_unfolding_all rfl) 37 (.tmp 9) rfl _ rfl 37 _ _ _ HRF.out Try.underlying37 rfl HIZ.out ?_)
          | (with_reducible refine wpList_binU (by with_unfolding_all rfl) .eql 37 37 (.tmp 54) (.tmp 55) rfl (.agg (zeros 32)) (.agg (zeros 32)) (.bool true) rfl (by with_unfolding_all rfl) (bk_guard _ _ _ _ _) (zero_eqU _) ?_))
        refine (awake12_any _).mono ?_
        rintro e w4 ⟨rfl, hb4⟩
        have HB4 := Lib.hid (HWF.out.trans (hb4.mono HWF.out.size))
        clear hb4
        go_wp2
        go_ret
        exact ⟨rfl, HB4.out⟩
    · go_simp
      refine hK.out _ _ (HK.out _ ((hh0.2).alloc (Nat.le_trans HSZ.out hh0.2.size) _)) (fun hh10 => ?_)
      clear hK K
      (try simp only [Act.put, List.getElem_toArray, List.getElem_cons_succ, List.getElem_cons_zero, List.setIfInBounds_toArray, List.set_cons_zero, List.set_cons_succ])
      have hr := heap_alloc_new w1 (.cells (zeros 32) 37)
      have hbn : Below w1.heap.size w1 (w1.alloc (.cells (zeros 32) 37)) := (Below.refl _ _).alloc (Nat.le_refl _) _
      have HBK10 := Lib.hid (HBK0.out.below hbn)
      have hrb : B ≤ w1.heap.size := (Nat.le_trans HSZ.out hh0.2.size)
      have hrs : ¬ S w1.heap.size := fun z => by have := HBK0.out.sub z; omega
      clear hbn
      obtain ⟨V, hV⟩ : ∃ V, V = w1.alloc (.cells (zeros 32) 37) := ⟨_, rfl⟩
      rw [← hV] at hr hh10 ⊢
      rw [← hV] at HBK10
      obtain ⟨r, hrr⟩ : ∃ r, r = w1.heap.size := ⟨_, rfl⟩
      rw [← hrr] at hr hrb ⊢
      rw [← hrr] at hrs
      have HRS := Lib.hid hrs
      clear hrs
      have HR10 := Lib.hid hr
      have HRB := Lib.hid hrb
      clear hV hrr hr hrb
      refine wpAnyF_ready (rs := [5]) (by kernel_rfl) (by simp) ?_
      refine AllReadyF.cons (o := _) rfl (fun K hK => ?_) AllReadyF.nil
      go_simp
      (go_at_call 9)
      refine (digests_new m c A ps _ (HDS.out.below (HB0.out.trans (hh10.2.mono (by have := HKW.out; omega)))) (by omega)).mono ?_
      rintro e w2 ⟨A2, c2, rfl, hc2, hd2, hbn, hnew⟩
      refine hK.out _ _ (HK.out _ (hh10.2.trans (hbn.mono (Nat.le_trans HSZ.out hh10.2.size)))) (fun hh5 => ?_)
      clear hK K
      (try simp only [Act.put, List.getElem_toArray, List.getElem_cons_succ, List.getElem_cons_zero, List.setIfInBounds_toArray, List.set_cons_zero, List.set_cons_succ])
      have HBK5 := Lib.hid (HBK10.out.below hbn)
      have HD5 := Lib.hid hd2
      have HC2 := Lib.hid hc2
      have HOFF : Hid (∀ ad, A2 = some ad → ¬ S ad.block) := Lib.hid (fun ad e z => by have h1 := hnew ad e; have h2 := HBK10.out.sub z; omega)
      have HR5 := Lib.hid ((hbn.block _ (blk_lt HR10.out)).trans HR10.out)
      clear hd2 hc2 hbn hnew
      refine wpAnyF_ready (rs := [6]) (by kernel_rfl) (by simp) ?_
      refine AllReadyF.cons (o := _) rfl (fun K hK => ?_) AllReadyF.nil
      go_simp
      (go_at_call 15)
      refine (HUP.out b A2 c2 _).mono ?_
      rintro e w3 ⟨rfl, hbn⟩
      refine hK.out _ _ (HK.out _ (hh5.2.trans (hbn.mono (Nat.le_trans HSZ.out hh5.2.size)))) (fun hh6 => ?_)
      clear hK K
      (try simp only [Act.put, List.getElem_toArray, List.getElem_cons_succ, List.getElem_cons_zero, List.setIfInBounds_toArray, List.set_cons_zero, List.set_cons_succ])
      have HR6 := Lib.hid ((hbn.block _ (blk_lt HR5.out)).trans HR5.out)
      clear hbn
      refine wpAnyF_take (i := 7) (oi := _) (v := ?_) rfl (by kernel_rfl) (by kernel_rfl) (by kernel_rfl) (by kernel_rfl) (fun _ _ _ h => h) (Or.inl ⟨by rfl, ?_⟩) (by assumption) ?_
      rotate_left 1
      · intro w _
        (first | (go_simp; done) | (go_simp; with_reducible rfl))
      (try simp only [Act.put, List.getElem_toArray, List.getElem_cons_succ, List.getElem_cons_zero, List.setIfInBounds_toArray, List.set_cons_zero, List.set_cons_succ])
      refine wpAnyF_take (i := 8) (oi := _) (v := ?_) rfl (by kernel_rfl) (by kernel_rfl) (by kernel_rfl) (by kernel_rfl) (fun _ _ _ h => h) (Or.inl ⟨by rfl, ?_⟩) (by assumption) ?_
      rotate_left 1
      · intro w _
        (first | (go_simp; done) | (go_simp; with_reducible rfl))
      (try simp only [Act.put, List.getElem_toArray, List.getElem_cons_succ, List.getElem_cons_zero, List.setIfInBounds_toArray, List.set_cons_zero, List.set_cons_succ])
      refine wpAnyF_take (i := 9) (oi := _) (v := ?_) rfl (by kernel_rfl) (by kernel_rfl) (by kernel_rfl) (by kernel_rfl) (fun _ _ _ h => h) (Or.inl ⟨by rfl, ?_⟩) (by assumption) ?_
      rotate_left 1
      · intro w _
        (first | (go_simp; done) | (go_simp; with_reducible rfl))
      (try simp only [Act.put, List.getElem_toArray, List.getElem_cons_succ, List.getElem_cons_zero, List.setIfInBounds_toArray, List.set_cons_zero, List.set_cons_succ])
      refine wpAnyF_ready (rs := [11]) (by kernel_rfl) (by simp) ?_
      refine AllReadyF.cons (o := _) rfl (fun K hK => ?_) AllReadyF.nil
      rw [if_pos (by kernel_rfl)]
      refine wp_store_row 37 (.tmp 9) (.tmp 27) rfl r (zeros 32) rfl rfl _ (zeros 32) HR6.out HIZ.out rfl HOZ.out ?_
      refine hK.out _ _ (HK.out _ (below_setRow hh6.2 HRB.out _)) (fun hh11 => ?_)
      clear hK K
      (try simp only [Act.put, List.getElem_toArray, List.getElem_cons_succ, List.getElem_cons_zero, List.setIfInBounds_toArray, List.set_cons_zero, List.set_cons_succ])
      refine wpAnyF_ready (rs := [12]) (by kernel_rfl) (by simp) ?_
      refine AllReadyF.cons (o := _) rfl (fun K hK => ?_) AllReadyF.nil
      go_simp
      refine hK.out _ _ (by assumption) (fun hh12 => ?_)
      clear hK K
      (try simp only [Act.put, List.getElem_toArray, List.getElem_cons_succ, List.getElem_cons_zero, List.setIfInBounds_toArray, List.set_cons_zero, List.set_cons_succ])
      refine wpAnyF_done (by kernel_rfl) ?_ _
      have hrf := setRow_heap w3 r (zeros 32) (zeros 32) _ _ HR6.out
      obtain ⟨VF, hVF⟩ : ∃ VF, VF = w3.setRow r (zeros 32) := ⟨_, rfl⟩
      rw [← hVF] at hrf hh11 ⊢
      have HRF := Lib.hid hrf
      have HPF := Lib.hid hh11.1
      have HWF : Hid (Below w.heap.size w VF) := Lib.hid (HB0.out.trans (hh11.2.mono (by have := HKW.out; omega)))
      have HRG : Hid (w.heap.size < r) := Lib.hid (by have := HRB.out; have := HKW.out; omega)
      clear hrf hVF
      go_wp2_with fail
      refine (HRD.out _).mono ?_
      rintro e w' ⟨rfl, rfl⟩
      go_wp2_with (first
        | (with_reducible refine wpList_load_row_wU (by with_unfolding_all rfl) 37 (.tmp 9) rfl _ rfl 37 _ _ _ HRF.out Try.underlying37 rfl HIZ.out ?_)
        | (with_reducible refine wpList_binU (by with_unfolding_all rfl) .eql 37 37 (.tmp 54) (.tmp 55) rfl (.agg (zeros 32)) (.agg (zeros 32)) (.bool true) rfl (by with_unfolding_all rfl) (bk_guard _ _ _ _ _) (zero_eqU _) ?_))
      refine (awake12_any _).mono ?_
      rintro e w4 ⟨rfl, hb4⟩
      have HB4 := Lib.hid (HWF.out.trans (hb4.mono HWF.out.size))
      clear hb4
      go_wp2
      go_ret
      exact ⟨rfl, HB4.out⟩
  · go_simp
    refine hK.out _ _ (HK.out _ ((hh.2).alloc (Nat.le_trans HSZ.out hh.2.size) _)) (fun hh10 => ?_)
    clear hK K
    (try simp only [Act.put, List.getElem_toArray, List.getElem_cons_succ, List.getElem_cons_zero, List.setIfInBounds_toArray, List.set_cons_zero, List.set_cons_succ])
    have hr := heap_alloc_new W0 (.cells (zeros 32) 37)
    have hbn : Below W0.heap.size W0 (W0.alloc (.cells (zeros 32) 37)) := (Below.refl _ _).alloc (Nat.le_refl _) _
    have hrb : B ≤ W0.heap.size := (Nat.le_trans HSZ.out hh.2.size)
    clear hbn
    obtain ⟨V, hV⟩ : ∃ V, V = W0.alloc (.cells (zeros 32) 37) := ⟨_, rfl⟩
    rw [← hV] at hr hh10 ⊢
    obtain ⟨r, hrr⟩ : ∃ r, r = W0.heap.size := ⟨_, rfl⟩
    rw [← hrr] at hr hrb ⊢
    have HR10 := Lib.hid hr
    have HRB := Lib.hid hrb
    clear hV hrr hr hrb
    refine wpAnyF_ready (rs := [0]) (by kernel_rfl) (by simp) ?_
    refine AllReadyF.cons (o := _) rfl (fun K hK => ?_) AllReadyF.nil
    go_simp
    (go_at_call 8)
    refine (book12_any _).mono ?_
    rintro e w1 ⟨b, g, S, rfl, hbk, hS, hbn⟩
    refine hK.out _ _ (HK.out _ (hh10.2.trans (hbn.mono (Nat.le_trans HSZ.out hh10.2.size)))) (fun hh0 => ?_)
    clear hK K
    (try simp only [Act.put, List.getElem_toArray, List.getElem_cons_succ, List.getElem_cons_zero, List.setIfInBounds_toArray, List.set_cons_zero, List.set_cons_succ])
    have HBK0 := Lib.hid hbk
    have HS : Hid (∀ j, S j → B ≤ j) := Lib.hid (fun j hj => Nat.le_trans (Nat.le_trans HSZ.out hh10.2.size) (hS j hj))
    have HR0 := Lib.hid ((hbn.block _ (blk_lt HR10.out)).trans HR10.out)
    have HRS : Hid (¬ S r) := Lib.hid (fun z => by have h1 := hS r z; have h2 := blk_lt HR10.out; exact absurd h1 (Nat.not_le.2 h2))
    clear hbk hS hbn
    refine wpAnyF_ready (rs := [5]) (by kernel_rfl) (by simp) ?_
    refine AllReadyF.cons (o := _) rfl (fun K hK => ?_) AllReadyF.nil
    go_simp
    (go_at_call 9)
    refine (digests_new m c A ps _ (HDS.out.below (HB0.out.trans (hh0.2.mono (by have := HKW.out; omega)))) (by omega)).mono ?_
    rintro e w2 ⟨A2, c2, rfl, hc2, hd2, hbn, hnew⟩
    refine hK.out _ _ (HK.out _ (hh0.2.trans (hbn.mono (Nat.le_trans HSZ.out hh0.2.size)))) (fun hh5 => ?_)
    clear hK K
    (try simp only [Act.put, List.getElem_toArray, List.getElem_cons_succ, List.getElem_cons_zero, List.setIfInBounds_toArray, List.set_cons_zero, List.set_cons_succ])
    have HBK5 := Lib.hid (HBK0.out.below hbn)
    have HD5 := Lib.hid hd2
    have HC2 := Lib.hid hc2
    have HOFF : Hid (∀ ad, A2 = some ad → ¬ S ad.block) := Lib.hid (fun ad e z => by have h1 := hnew ad e; have h2 := HBK0.out.sub z; omega)
    have HR5 := Lib.hid ((hbn.block _ (blk_lt HR0.out)).trans HR0.out)
    clear hd2 hc2 hbn hnew
    refine wpAnyF_ready (rs := [6]) (by kernel_rfl) (by simp) ?_
    refine AllReadyF.cons (o := _) rfl (fun K hK => ?_) AllReadyF.nil
    go_simp
    (go_at_call 15)
    refine (HUP.out b A2 c2 _).mono ?_
    rintro e w3 ⟨rfl, hbn⟩
    refine hK.out _ _ (HK.out _ (hh5.2.trans (hbn.mono (Nat.le_trans HSZ.out hh5.2.size)))) (fun hh6 => ?_)
    clear hK K
    (try simp only [Act.put, List.getElem_toArray, List.getElem_cons_succ, List.getElem_cons_zero, List.setIfInBounds_toArray, List.set_cons_zero, List.set_cons_succ])
    have HR6 := Lib.hid ((hbn.block _ (blk_lt HR5.out)).trans HR5.out)
    clear hbn
    refine wpAnyF_take (i := 7) (oi := _) (v := ?_) rfl (by kernel_rfl) (by kernel_rfl) (by kernel_rfl) (by kernel_rfl) (fun _ _ _ h => h) (Or.inl ⟨by rfl, ?_⟩) (by assumption) ?_
    rotate_left 1
    · intro w _
      (first | (go_simp; done) | (go_simp; with_reducible rfl))
    (try simp only [Act.put, List.getElem_toArray, List.getElem_cons_succ, List.getElem_cons_zero, List.setIfInBounds_toArray, List.set_cons_zero, List.set_cons_succ])
    refine wpAnyF_take (i := 8) (oi := _) (v := ?_) rfl (by kernel_rfl) (by kernel_rfl) (by kernel_rfl) (by kernel_rfl) (fun _ _ _ h => h) (Or.inl ⟨by rfl, ?_⟩) (by assumption) ?_
    rotate_left 1
    · intro w _
      (first | (go_simp; done) | (go_simp; with_reducible rfl))
    (try simp only [Act.put, List.getElem_toArray, List.getElem_cons_succ, List.getElem_cons_zero, List.setIfInBounds_toArray, List.set_cons_zero, List.set_cons_succ])
    refine wpAnyF_take (i := 9) (oi := _) (v := ?_) rfl (by kernel_rfl) (by kernel_rfl) (by kernel_rfl) (by kernel_rfl) (fun _ _ _ h => h) (Or.inl ⟨by rfl, ?_⟩) (by assumption) ?_
    rotate_left 1
    · intro w _
      (first | (go_simp; done) | (go_simp; with_reducible rfl))
    (try simp only [Act.put, List.getElem_toArray, List.getElem_cons_succ, List.getElem_cons_zero, List.setIfInBounds_toArray, List.set_cons_zero, List.set_cons_succ])
    refine wpAnyF_ready (rs := [11]) (by kernel_rfl) (by simp) ?_
    refine AllReadyF.cons (o := _) rfl (fun K hK => ?_) AllReadyF.nil
    rw [if_pos (by kernel_rfl)]
    refine wp_store_row 37 (.tmp 9) (.tmp 27) rfl r (zeros 32) rfl rfl _ (zeros 32) HR6.out HIZ.out rfl HOZ.out ?_
    refine hK.out _ _ (HK.out _ (below_setRow hh6.2 HRB.out _)) (fun hh11 => ?_)
    clear hK K
    (try simp only [Act.put, List.getElem_toArray, List.getElem_cons_succ, List.getElem_cons_zero, List.setIfInBounds_toArray, List.set_cons_zero, List.set_cons_succ])
    refine wpAnyF_ready (rs := [12]) (by kernel_rfl) (by simp) ?_
    refine AllReadyF.cons (o := _) rfl (fun K hK => ?_) AllReadyF.nil
    go_simp
    refine hK.out _ _ (by assumption) (fun hh12 => ?_)
    clear hK K
    (try simp only [Act.put, List.getElem_toArray, List.getElem_cons_succ, List.getElem_cons_zero, List.setIfInBounds_toArray, List.set_cons_zero, List.set_cons_succ])
    refine wpAnyF_done (by kernel_rfl) ?_ _
    have hrf := setRow_heap w3 r (zeros 32) (zeros 32) _ _ HR6.out
    obtain ⟨VF, hVF⟩ : ∃ VF, VF = w3.setRow r (zeros 32) := ⟨_, rfl⟩
    rw [← hVF] at hrf hh11 ⊢
    have HRF := Lib.hid hrf
    have HPF := Lib.hid hh11.1
    have HWF : Hid (Below w.heap.size w VF) := Lib.hid (HB0.out.trans (hh11.2.mono (by have := HKW.out; omega)))
    have HRG : Hid (w.heap.size < r) := Lib.hid (by have := HRB.out; have := HKW.out; omega)
    clear hrf hVF
    go_wp2_with fail
    refine (HRD.out _).mono ?_
    rintro e w' ⟨rfl, rfl⟩
    go_wp2_with (first
      | (with_reducible refine wpList_load_row_wU (by with_unfolding_all rfl) 37 (.tmp 9) rfl _ rfl 37 _ _ _ HRF.out Try.underlying37 rfl HIZ.out ?_)
      | (with_reducible refine wpList_binU (by with_unfolding_all rfl) .eql 37 37 (.tmp 54) (.tmp 55) rfl (.agg (zeros 32)) (.agg (zeros 32)) (.bool true) rfl (by with_unfolding_all rfl) (bk_guard _ _ _ _ _) (zero_eqU _) ?_))
    refine (awake12_any _).mono ?_
    rintro e w4 ⟨rfl, hb4⟩
    have HB4 := Lib.hid (HWF.out.trans (hb4.mono HWF.out.size))
    clear hb4
    go_wp2
    go_ret
    exact ⟨rfl, HB4.out⟩
end
section
open Go.RowKit Go
set_option linter.unusedVariables false
set_option linter.unusedSimpArgs false
set_option maxRecDepth 100000
set_option maxHeartbeats 4000000 in
theorem treeUp_cn1 (n k : Int) (x : List Nat) (b0 o0 m0 c : Nat) (ps : Nat → List Nat) (w : World) (hds : DgS w (some ⟨b0, o0, none⟩) 12 ps) (h12 : 12 < m0) (hc : m0 ≤ c) (hcm : c ≤ 9223372036854775807) (hx : IsDig x) (h1 : n < 1) :
    Calls Try.prog 4 #[.int .i64 n, .int .i64 k, .agg (dA x), .slice (some ⟨b0, o0, none⟩) m0 c] w fun e w' => e = .returned (.bool true) ∧ Below w.heap.size w w' := by
  have hz := zero_dig
  have hzr := zero32
  obtain ⟨W0, hW0⟩ : ∃ W0, W0 = w.alloc (.cells (dA x) 34) := ⟨_, rfl⟩
  have HB0 : Hid (Below w.heap.size w W0) := Lib.hid (by rw [hW0]; exact (Below.refl _ _).alloc (Nat.le_refl _) _)
  have HP6 : Hid (W0.heap[w.heap.size]? = some (.cells (dA x) 34 (0, 0))) := Lib.hid (by rw [hW0]; exact heap_alloc_new w _)
  have HW0 := Lib.hid hW0
  have hx32 : (dA x).size = 32 := by rw [rowV_size]
  have HIX := Lib.hid (info_d32 hx32)
  have HOX : Hid ((dA x).all (·.oneCell') = true) := Lib.hid (dA_one _)
  have HDS := Lib.hid hds
  have HX := Lib.hid hx
  obtain ⟨B, hB⟩ : ∃ B, B = W0.heap.size := ⟨_, rfl⟩
  have HKW : Hid (B = w.heap.size + 1) := Lib.hid (by rw [hB, hW0]; simp)
  have HBB := Lib.hid hB
  have HSZ : Hid (B ≤ W0.heap.size) := Lib.hid (Nat.le_of_eq hB)
  have HIZ := Lib.hid (info_dig (cs := zeros 32) (by simp [zeros]))
  have HOZ : Hid ((zeros 32).all (·.oneCell') = true) := Lib.hid (by kernel_rfl)
  have HUP : Hid (∀ (b : Nat) (A2 : Option Addr) (c2 : Nat) (W : World), Calls Try.prog 15 #[.pointer (some ⟨b, 0, none⟩), .int .i64 n, .int .i64 k, .agg (dA x), .slice A2 12 c2] W (UpNo W)) := Lib.hid (fun b A2 c2 W => tup_no b n k x A2 12 c2 W (by have := dpX_le n.toNat; omega))
  obtain ⟨xd, hxd⟩ : ∃ z, z = dA x := ⟨_, rfl⟩
  have HXD := Lib.hid hxd
  rw [← hxd] at HW0 HP6 HIX HOX HUP ⊢
  clear hW0 hx32 hxd hds hx hB
  have hm1 : (12 : Int) < (m0 : Int) := by omega
  have hm2 : 12 < m0 := h12
  have hc12 : 12 ≤ c := by omega
  have hm : 12 ≤ 12 := Nat.le_refl _
  go_enter Try.func4, Try.ntmps4
  go_wp2_with (with_reducible refine Go.Great.wpList_boxTo rfl 34 (.tmp 2) rfl (some 6) rfl w.heap.size (by simp) xd rfl ?_)
  rw [← HW0.out]
  go_upto_region 3 with (fail)
  have HK : Hid (∀ W, Below B W0 W → W.heap[w.heap.size]? = some (.cells xd 34 (0, 0)) ∧ Below B W0 W) := Lib.hid (fun W hW => ⟨(hW.block _ (by have := HKW.out; omega)).trans HP6.out, hW⟩)
  refine wp_region_F (S := (fun W : World => W.heap[w.heap.size]? = some (.cells xd 34 (0, 0)) ∧ Below B W0 W)) [] (by kernel_rfl) (HK.out _ (by have e := HBB.out; rw [e]; exact (Below.refl _ _).drew)) (fun hh => ?_)
  refine wpAnyF_take (i := 1) (oi := _) (v := ?_) rfl (by kernel_rfl) (by kernel_rfl) (by kernel_rfl) (by kernel_rfl) (fun _ _ _ h => h) (Or.inl ⟨by rfl, ?_⟩) (by assumption) ?_
  rotate_left 1
  · intro w _
    (first | (go_simp; done) | (go_simp; with_reducible rfl))
  (try simp only [Act.put, List.getElem_toArray, List.getElem_cons_succ, List.getElem_cons_zero, List.setIfInBounds_toArray, List.set_cons_zero, List.set_cons_succ])
  refine wpAnyF_take (i := 2) (oi := _) (v := ?_) rfl (by kernel_rfl) (by kernel_rfl) (by kernel_rfl) (by kernel_rfl) (fun _ _ _ h => h) (Or.inl ⟨by rfl, ?_⟩) (by assumption) ?_
  rotate_left 1
  · intro w _
    (first | (go_simp; done) | (go_simp; with_reducible rfl))
  (try simp only [Act.put, List.getElem_toArray, List.getElem_cons_succ, List.getElem_cons_zero, List.setIfInBounds_toArray, List.set_cons_zero, List.set_cons_succ])
  refine wpAnyF_take (i := 3) (oi := _) (v := _) rfl (by kernel_rfl) (by kernel_rfl) (by kernel_rfl) (by kernel_rfl) (fun _ _ _ h => h) (yields_rowU (by rfl) 34 (.tmp 6) rfl w.heap.size 0 rfl xd _ (fun W h => range_cells h.1) Try.underlying34 rfl HIX.out) (by assumption) ?_
  (try simp only [Act.put, List.getElem_toArray, List.getElem_cons_succ, List.getElem_cons_zero, List.setIfInBounds_toArray, List.set_cons_zero, List.set_cons_succ])
  refine wpAnyF_take (i := 4) (oi := _) (v := ?_) rfl (by kernel_rfl) (by kernel_rfl) (by kernel_rfl) (by kernel_rfl) (fun _ _ _ h => h) (Or.inl ⟨by rfl, ?_⟩) (by assumption) ?_
  rotate_left 1
  · intro w _
    (first | (go_simp; done) | (go_simp; with_reducible rfl))
  (try simp only [Act.put, List.getElem_toArray, List.getElem_cons_succ, List.getElem_cons_zero, List.setIfInBounds_toArray, List.set_cons_zero, List.set_cons_succ])
  refine wpAnyF_ready (rs := [0, 10]) (by kernel_rfl) (by simp) ?_
  refine AllReadyF.cons (o := _) rfl (fun K hK => ?_) (AllReadyF.cons (o := _) rfl (fun K hK => ?_) AllReadyF.nil)
  · go_simp
    (go_at_call 8)
    refine (book12_any _).mono ?_
    rintro e w1 ⟨b, g, S, rfl, hbk, hS, hbn⟩
    refine hK.out _ _ (HK.out _ (hh.2.trans (hbn.mono (Nat.le_trans HSZ.out hh.2.size)))) (fun hh0 => ?_)
    clear hK K
    (try simp only [Act.put, List.getElem_toArray, List.getElem_cons_succ, List.getElem_cons_zero, List.setIfInBounds_toArray, List.set_cons_zero, List.set_cons_succ])
    have HBK0 := Lib.hid hbk
    have HS : Hid (∀ j, S j → B ≤ j) := Lib.hid (fun j hj => Nat.le_trans (Nat.le_trans HSZ.out hh.2.size) (hS j hj))
    clear hbk hS hbn
    refine wpAnyF_ready (rs := [5, 10]) (by kernel_rfl) (by simp) ?_
    refine AllReadyF.cons (o := _) rfl (fun K hK => ?_) (AllReadyF.cons (o := _) rfl (fun K hK => ?_) AllReadyF.nil)
    · go_simp
      (go_at_call 9)
      refine (digests_new 12 c (some ⟨b0, o0, none⟩) ps _ (HDS.out.below (HB0.out.trans (hh0.2.mono (by have := HKW.out; omega)))) (by omega)).mono ?_
      rintro e w2 ⟨A2, c2, rfl, hc2, hd2, hbn, hnew⟩
      refine hK.out _ _ (HK.out _ (hh0.2.trans (hbn.mono (Nat.le_trans HSZ.out hh0.2.size)))) (fun hh5 => ?_)
      clear hK K
      (try simp only [Act.put, List.getElem_toArray, List.getElem_cons_succ, List.getElem_cons_zero, List.setIfInBounds_toArray, List.set_cons_zero, List.set_cons_succ])
      have HBK5 := Lib.hid (HBK0.out.below hbn)
      have HD5 := Lib.hid hd2
      have HC2 := Lib.hid hc2
      have HOFF : Hid (∀ ad, A2 = some ad → ¬ S ad.block) := Lib.hid (fun ad e z => by have h1 := hnew ad e; have h2 := HBK0.out.sub z; omega)
      clear hd2 hc2 hbn hnew
      refine wpAnyF_ready (rs := [6, 10]) (by kernel_rfl) (by simp) ?_
      refine AllReadyF.cons (o := _) rfl (fun K hK => ?_) (AllReadyF.cons (o := _) rfl (fun K hK => ?_) AllReadyF.nil)
      · go_simp
        (go_at_call 15)
        refine (HUP.out b A2 c2 _).mono ?_
        rintro e w3 ⟨rfl, hbn⟩
        refine hK.out _ _ (HK.out _ (hh5.2.trans (hbn.mono (Nat.le_trans HSZ.out hh5.2.size)))) (fun hh6 => ?_)
        clear hK K
        (try simp only [Act.put, List.getElem_toArray, List.getElem_cons_succ, List.getElem_cons_zero, List.setIfInBounds_toArray, List.set_cons_zero, List.set_cons_succ])
        clear hbn
        refine wpAnyF_take (i := 7) (oi := _) (v := ?_) rfl (by kernel_rfl) (by kernel_rfl) (by kernel_rfl) (by kernel_rfl) (fun _ _ _ h => h) (Or.inl ⟨by rfl, ?_⟩) (by assumption) ?_
        rotate_left 1
        · intro w _
          (first | (go_simp; done) | (go_simp; with_reducible rfl))
        (try simp only [Act.put, List.getElem_toArray, List.getElem_cons_succ, List.getElem_cons_zero, List.setIfInBounds_toArray, List.set_cons_zero, List.set_cons_succ])
        refine wpAnyF_take (i := 8) (oi := _) (v := ?_) rfl (by kernel_rfl) (by kernel_rfl) (by kernel_rfl) (by kernel_rfl) (fun _ _ _ h => h) (Or.inl ⟨by rfl, ?_⟩) (by assumption) ?_
        rotate_left 1
        · intro w _
          (first | (go_simp; done) | (go_simp; with_reducible rfl))
        (try simp only [Act.put, List.getElem_toArray, List.getElem_cons_succ, List.getElem_cons_zero, List.setIfInBounds_toArray, List.set_cons_zero, List.set_cons_succ])
        refine wpAnyF_take (i := 9) (oi := _) (v := ?_) rfl (by kernel_rfl) (by kernel_rfl) (by kernel_rfl) (by kernel_rfl) (fun _ _ _ h => h) (Or.inl ⟨by rfl, ?_⟩) (by assumption) ?_
        rotate_left 1
        · intro w _
          (first | (go_simp; done) | (go_simp; with_reducible rfl))
        (try simp only [Act.put, List.getElem_toArray, List.getElem_cons_succ, List.getElem_cons_zero, List.setIfInBounds_toArray, List.set_cons_zero, List.set_cons_succ])
        refine wpAnyF_ready (rs := [10]) (by kernel_rfl) (by simp) ?_
        refine AllReadyF.cons (o := _) rfl (fun K hK => ?_) AllReadyF.nil
        go_simp
        refine hK.out _ _ (HK.out _ ((hh6.2).alloc (Nat.le_trans HSZ.out hh6.2.size) _)) (fun hh10 => ?_)
        clear hK K
        (try simp only [Act.put, List.getElem_toArray, List.getElem_cons_succ, List.getElem_cons_zero, List.setIfInBounds_toArray, List.set_cons_zero, List.set_cons_succ])
        have hr := heap_alloc_new w3 (.cells (zeros 32) 37)
        have hbn : Below w3.heap.size w3 (w3.alloc (.cells (zeros 32) 37)) := (Below.refl _ _).alloc (Nat.le_refl _) _
        have hrb : B ≤ w3.heap.size := (Nat.le_trans HSZ.out hh6.2.size)
        clear hbn
        obtain ⟨V, hV⟩ : ∃ V, V = w3.alloc (.cells (zeros 32) 37) := ⟨_, rfl⟩
        rw [← hV] at hr hh10 ⊢
        obtain ⟨r, hrr⟩ : ∃ r, r = w3.heap.size := ⟨_, rfl⟩
        rw [← hrr] at hr hrb ⊢
        have HR10 := Lib.hid hr
        have HRB := Lib.hid hrb
        clear hV hrr hr hrb
        refine wpAnyF_ready (rs := [11]) (by kernel_rfl) (by simp) ?_
        refine AllReadyF.cons (o := _) rfl (fun K hK => ?_) AllReadyF.nil
        rw [if_pos (by kernel_rfl)]
        refine wp_store_row 37 (.tmp 9) (.tmp 27) rfl r (zeros 32) rfl rfl _ (zeros 32) HR10.out HIZ.out rfl HOZ.out ?_
        refine hK.out _ _ (HK.out _ (below_setRow hh10.2 HRB.out _)) (fun hh11 => ?_)
        clear hK K
        (try simp only [Act.put, List.getElem_toArray, List.getElem_cons_succ, List.getElem_cons_zero, List.setIfInBounds_toArray, List.set_cons_zero, List.set_cons_succ])
        refine wpAnyF_ready (rs := [12]) (by kernel_rfl) (by simp) ?_
        refine AllReadyF.cons (o := _) rfl (fun K hK => ?_) AllReadyF.nil
        go_simp
        refine hK.out _ _ (by assumption) (fun hh12 => ?_)
        clear hK K
        (try simp only [Act.put, List.getElem_toArray, List.getElem_cons_succ, List.getElem_cons_zero, List.setIfInBounds_toArray, List.set_cons_zero, List.set_cons_succ])
        refine wpAnyF_done (by kernel_rfl) ?_ _
        have hrf := setRow_heap V r (zeros 32) (zeros 32) _ _ HR10.out
        obtain ⟨VF, hVF⟩ : ∃ VF, VF = V.setRow r (zeros 32) := ⟨_, rfl⟩
        rw [← hVF] at hrf hh11 ⊢
        have HRF := Lib.hid hrf
        have HPF := Lib.hid hh11.1
        have HWF : Hid (Below w.heap.size w VF) := Lib.hid (HB0.out.trans (hh11.2.mono (by have := HKW.out; omega)))
        have HRG : Hid (w.heap.size < r) := Lib.hid (by have := HRB.out; have := HKW.out; omega)
        clear hrf hVF
        go_wp2_with (first
          | (with_reducible refine wpList_load_row_wU (by with_unfolding_all rfl) 37 (.tmp 9) rfl _ rfl 37 _ _ _ HRF.out Try.underlying37 rfl HIZ.out ?_)
          | (with_reducible refine wpList_binU (by with_unfolding_all rfl) .eql 37 37 (.tmp 54) (.tmp 55) rfl (.agg (zeros 32)) (.agg (zeros 32)) (.bool true) rfl (by with_unfolding_all rfl) (bk_guard _ _ _ _ _) (zero_eqU _) ?_))
        refine (awake12_any _).mono ?_
        rintro e w4 ⟨rfl, hb4⟩
        have HB4 := Lib.hid (HWF.out.trans (hb4.mono HWF.out.size))
        clear hb4
        go_wp2
        go_ret
        exact ⟨rfl, HB4.out⟩
      · go_simp
        refine hK.out _ _ (HK.out _ ((hh5.2).alloc (Nat.le_trans HSZ.out hh5.2.size) _)) (fun hh10 => ?_)
        clear hK K
        (try simp only [Act.put, List.getElem_toArray, List.getElem_cons_succ, List.getElem_cons_zero, List.setIfInBounds_toArray, List.set_cons_zero, List.set_cons_succ])
        have hr := heap_alloc_new w2 (.cells (zeros 32) 37)
        have hbn : Below w2.heap.size w2 (w2.alloc (.cells (zeros 32) 37)) := (Below.refl _ _).alloc (Nat.le_refl _) _
        have HBK10 := Lib.hid (HBK5.out.below hbn)
        have HD10 := Lib.hid (HD5.out.below hbn)
        have hrb : B ≤ w2.heap.size := (Nat.le_trans HSZ.out hh5.2.size)
        have hrs : ¬ S w2.heap.size := fun z => by have := HBK5.out.sub z; omega
        clear hbn
        obtain ⟨V, hV⟩ : ∃ V, V = w2.alloc (.cells (zeros 32) 37) := ⟨_, rfl⟩
        rw [← hV] at hr hh10 ⊢
        rw [← hV] at HBK10
        rw [← hV] at HD10
        obtain ⟨r, hrr⟩ : ∃ r, r = w2.heap.size := ⟨_, rfl⟩
        rw [← hrr] at hr hrb ⊢
        rw [← hrr] at hrs
        have HRS := Lib.hid hrs
        clear hrs
        have HR10 := Lib.hid hr
        have HRB := Lib.hid hrb
        clear hV hrr hr hrb
        refine wpAnyF_ready (rs := [6]) (by kernel_rfl) (by simp) ?_
        refine AllReadyF.cons (o := _) rfl (fun K hK => ?_) AllReadyF.nil
        go_simp
        (go_at_call 15)
        refine (HUP.out b A2 c2 _).mono ?_
        rintro e w3 ⟨rfl, hbn⟩
        refine hK.out _ _ (HK.out _ (hh10.2.trans (hbn.mono (Nat.le_trans HSZ.out hh10.2.size)))) (fun hh6 => ?_)
        clear hK K
        (try simp only [Act.put, List.getElem_toArray, List.getElem_cons_succ, List.getElem_cons_zero, List.setIfInBounds_toArray, List.set_cons_zero, List.set_cons_succ])
        have HR6 := Lib.hid ((hbn.block _ (blk_lt HR10.out)).trans HR10.out)
        clear hbn
        refine wpAnyF_take (i := 7) (oi := _) (v := ?_) rfl (by kernel_rfl) (by kernel_rfl) (by kernel_rfl) (by kernel_rfl) (fun _ _ _ h => h) (Or.inl ⟨by rfl, ?_⟩) (by assumption) ?_
        rotate_left 1
        · intro w _
          (first | (go_simp; done) | (go_simp; with_reducible rfl))
        (try simp only [Act.put, List.getElem_toArray, List.getElem_cons_succ, List.getElem_cons_zero, List.setIfInBounds_toArray, List.set_cons_zero, List.set_cons_succ])
        refine wpAnyF_take (i := 8) (oi := _) (v := ?_) rfl (by kernel_rfl) (by kernel_rfl) (by kernel_rfl) (by kernel_rfl) (fun _ _ _ h => h) (Or.inl ⟨by rfl, ?_⟩) (by assumption) ?_
        rotate_left 1
        · intro w _
          (first | (go_simp; done) | (go_simp; with_reducible rfl))
        (try simp only [Act.put, List.getElem_toArray, List.getElem_cons_succ, List.getElem_cons_zero, List.setIfInBounds_toArray, List.set_cons_zero, List.set_cons_succ])
        refine wpAnyF_take (i := 9) (oi := _) (v := ?_) rfl (by kernel_rfl) (by kernel_rfl) (by kernel_rfl) (by kernel_rfl) (fun _ _ _ h => h) (Or.inl ⟨by rfl, ?_⟩) (by assumption) ?_
        rotate_left 1
        · intro w _
          (first | (go_simp; done) | (go_simp; with_reducible rfl))
        (try simp only [Act.put, List.getElem_toArray, List.getElem_cons_succ, List.getElem_cons_zero, List.setIfInBounds_toArray, List.set_cons_zero, List.set_cons_succ])
        refine wpAnyF_ready (rs := [11]) (by kernel_rfl) (by simp) ?_
        refine AllReadyF.cons (o := _) rfl (fun K hK => ?_) AllReadyF.nil
        rw [if_pos (by kernel_rfl)]
        refine wp_store_row 37 (.tmp 9) (.tmp 27) rfl r (zeros 32) rfl rfl _ (zeros 32) HR6.out HIZ.out rfl HOZ.out ?_
        refine hK.out _ _ (HK.out _ (below_setRow hh6.2 HRB.out _)) (fun hh11 => ?_)
        clear hK K
        (try simp only [Act.put, List.getElem_toArray, List.getElem_cons_succ, List.getElem_cons_zero, List.setIfInBounds_toArray, List.set_cons_zero, List.set_cons_succ])
        refine wpAnyF_ready (rs := [12]) (by kernel_rfl) (by simp) ?_
        refine AllReadyF.cons (o := _) rfl (fun K hK => ?_) AllReadyF.nil
        go_simp
        refine hK.out _ _ (by assumption) (fun hh12 => ?_)
        clear hK K
        (try simp only [Act.put, List.getElem_toArray, List.getElem_cons_succ, List.getElem_cons_zero, List.setIfInBounds_toArray, List.set_cons_zero, List.set_cons_succ])
        refine wpAnyF_done (by kernel_rfl) ?_ _
        have hrf := setRow_heap w3 r (zeros 32) (zeros 32) _ _ HR6.out
        obtain ⟨VF, hVF⟩ : ∃ VF, VF = w3.setRow r (zeros 32) := ⟨_, rfl⟩
        rw [← hVF] at hrf hh11 ⊢
        have HRF := Lib.hid hrf
        have HPF := Lib.hid hh11.1
        have HWF : Hid (Below w.heap.size w VF) := Lib.hid (HB0.out.trans (hh11.2.mono (by have := HKW.out; omega)))
        have HRG : Hid (w.heap.size < r) := Lib.hid (by have := HRB.out; have := HKW.out; omega)
        clear hrf hVF
        go_wp2_with (first
          | (with_reducible refine wpList_load_row_wU (by with_unfolding_all rfl) 37 (.tmp 9) rfl _ rfl 37 _ _ _ HRF.out Try.underlying37 rfl HIZ.out ?_)
          | (with_reducible refine wpList_binU (by with_unfolding_all rfl) .eql 37 37 (.tmp 54) (.tmp 55) rfl (.agg (zeros 32)) (.agg (zeros 32)) (.bool true) rfl (by with_unfolding_all rfl) (bk_guard _ _ _ _ _) (zero_eqU _) ?_))
        refine (awake12_any _).mono ?_
        rintro e w4 ⟨rfl, hb4⟩
        have HB4 := Lib.hid (HWF.out.trans (hb4.mono HWF.out.size))
        clear hb4
        go_wp2
        go_ret
        exact ⟨rfl, HB4.out⟩
    · go_simp
      refine hK.out _ _ (HK.out _ ((hh0.2).alloc (Nat.le_trans HSZ.out hh0.2.size) _)) (fun hh10 => ?_)
      clear hK K
      (try simp only [Act.put, List.getElem_toArray, List.getElem_cons_succ, List.getElem_cons_zero, List.setIfInBounds_toArray, List.set_cons_zero, List.set_cons_succ])
      have hr := heap_alloc_new w1 (.cells (zeros 32) 37)
      have hbn : Below w1.heap.size w1 (w1.alloc (.cells (zeros 32) 37)) := (Below.refl _ _).alloc (Nat.le_refl _) _
      have HBK10 := Lib.hid (HBK0.out.below hbn)
      have hrb : B ≤ w1.heap.size := (Nat.le_trans HSZ.out hh0.2.size)
      have hrs : ¬ S w1.heap.size := fun z => by have := HBK0.out.sub z; omega
      clear hbn
      obtain ⟨V, hV⟩ : ∃ V, V = w1.alloc (.cells (zeros 32) 37) := ⟨_, rfl⟩
      rw [← hV] at hr hh10 ⊢
      rw [← hV] at HBK10
      obtain ⟨r, hrr⟩ : ∃ r, r = w1.heap.size := ⟨_, rfl⟩
      rw [← hrr] at hr hrb ⊢
      rw [← hrr] at hrs
      have HRS := Lib.hid hrs
      clear hrs
      have HR10 := Lib.hid hr
      have HRB := Lib.hid hrb
      clear hV hrr hr hrb
      refine wpAnyF_ready (rs := [5]) (by kernel_rfl) (by simp) ?_
      refine AllReadyF.cons (o := _) rfl (fun K hK => ?_) AllReadyF.nil
      go_simp
      (go_at_call 9)
      refine (digests_new 12 c (some ⟨b0, o0, none⟩) ps _ (HDS.out.below (HB0.out.trans (hh10.2.mono (by have := HKW.out; omega)))) (by omega)).mono ?_
      rintro e w2 ⟨A2, c2, rfl, hc2, hd2, hbn, hnew⟩
      refine hK.out _ _ (HK.out _ (hh10.2.trans (hbn.mono (Nat.le_trans HSZ.out hh10.2.size)))) (fun hh5 => ?_)
      clear hK K
      (try simp only [Act.put, List.getElem_toArray, List.getElem_cons_succ, List.getElem_cons_zero, List.setIfInBounds_toArray, List.set_cons_zero, List.set_cons_succ])
      have HBK5 := Lib.hid (HBK10.out.below hbn)
      have HD5 := Lib.hid hd2
      have HC2 := Lib.hid hc2
      have HOFF : Hid (∀ ad, A2 = some ad → ¬ S ad.block) := Lib.hid (fun ad e z => by have h1 := hnew ad e; have h2 := HBK10.out.sub z; omega)
      have HR5 := Lib.hid ((hbn.block _ (blk_lt HR10.out)).trans HR10.out)
      clear hd2 hc2 hbn hnew
      refine wpAnyF_ready (rs := [6]) (by kernel_rfl) (by simp) ?_
      refine AllReadyF.cons (o := _) rfl (fun K hK => ?_) AllReadyF.nil
      go_simp
      (go_at_call 15)
      refine (HUP.out b A2 c2 _).mono ?_
      rintro e w3 ⟨rfl, hbn⟩
      refine hK.out _ _ (HK.out _ (hh5.2.trans (hbn.mono (Nat.le_trans HSZ.out hh5.2.size)))) (fun hh6 => ?_)
      clear hK K
      (try simp only [Act.put, List.getElem_toArray, List.getElem_cons_succ, List.getElem_cons_zero, List.setIfInBounds_toArray, List.set_cons_zero, List.set_cons_succ])
      have HR6 := Lib.hid ((hbn.block _ (blk_lt HR5.out)).trans HR5.out)
      clear hbn
      refine wpAnyF_take (i := 7) (oi := _) (v := ?_) rfl (by kernel_rfl) (by kernel_rfl) (by kernel_rfl) (by kernel_rfl) (fun _ _ _ h => h) (Or.inl ⟨by rfl, ?_⟩) (by assumption) ?_
      rotate_left 1
      · intro w _
        (first | (go_simp; done) | (go_simp; with_reducible rfl))
      (try simp only [Act.put, List.getElem_toArray, List.getElem_cons_succ, List.getElem_cons_zero, List.setIfInBounds_toArray, List.set_cons_zero, List.set_cons_succ])
      refine wpAnyF_take (i := 8) (oi := _) (v := ?_) rfl (by kernel_rfl) (by kernel_rfl) (by kernel_rfl) (by kernel_rfl) (fun _ _ _ h => h) (Or.inl ⟨by rfl, ?_⟩) (by assumption) ?_
      rotate_left 1
      · intro w _
        (first | (go_simp; done) | (go_simp; with_reducible rfl))
      (try simp only [Act.put, List.getElem_toArray, List.getElem_cons_succ, List.getElem_cons_zero, List.setIfInBounds_toArray, List.set_cons_zero, List.set_cons_succ])
      refine wpAnyF_take (i := 9) (oi := _) (v := ?_) rfl (by kernel_rfl) (by kernel_rfl) (by kernel_rfl) (by kernel_rfl) (fun _ _ _ h => h) (Or.inl ⟨by rfl, ?_⟩) (by assumption) ?_
      rotate_left 1
      · intro w _
        (first | (go_simp; done) | (go_simp; with_reducible rfl))
      (try simp only [Act.put, List.getElem_toArray, List.getElem_cons_succ, List.getElem_cons_zero, List.setIfInBounds_toArray, List.set_cons_zero, List.set_cons_succ])
      refine wpAnyF_ready (rs := [11]) (by kernel_rfl) (by simp) ?_
      refine AllReadyF.cons (o := _) rfl (fun K hK => ?_) AllReadyF.nil
      rw [if_pos (by kernel_rfl)]
      refine wp_store_row 37 (.tmp 9) (.tmp 27) rfl r (zeros 32) rfl rfl _ (zeros 32) HR6.out HIZ.out rfl HOZ.out ?_
      refine hK.out _ _ (HK.out _ (below_setRow hh6.2 HRB.out _)) (fun hh11 => ?_)
      clear hK K
      (try simp only [Act.put, List.getElem_toArray, List.getElem_cons_succ, List.getElem_cons_zero, List.setIfInBounds_toArray, List.set_cons_zero, List.set_cons_succ])
      refine wpAnyF_ready (rs := [12]) (by kernel_rfl) (by simp) ?_
      refine AllReadyF.cons (o := _) rfl (fun K hK => ?_) AllReadyF.nil
      go_simp
      refine hK.out _ _ (by assumption) (fun hh12 => ?_)
      clear hK K
      (try simp only [Act.put, List.getElem_toArray, List.getElem_cons_succ, List.getElem_cons_zero, List.setIfInBounds_toArray, List.set_cons_zero, List.set_cons_succ])
      refine wpAnyF_done (by kernel_rfl) ?_ _
      have hrf := setRow_heap w3 r (zeros 32) (zeros 32) _ _ HR6.out
      obtain ⟨VF, hVF⟩ : ∃ VF, VF = w3.setRow r (zeros 32) := ⟨_, rfl⟩
      rw [← hVF] at hrf hh11 ⊢
      have HRF := Lib.hid hrf
      have HPF := Lib.hid hh11.1
      have HWF : Hid (Below w.heap.size w VF) := Lib.hid (HB0.out.trans (hh11.2.mono (by have := HKW.out; omega)))
      have HRG : Hid (w.heap.size < r) := Lib.hid (by have := HRB.out; have := HKW.out; omega)
      clear hrf hVF
      go_wp2_with (first
        | (with_reducible refine wpList_load_row_wU (by with_unfolding_all rfl) 37 (.tmp 9) rfl _ rfl 37 _ _ _ HRF.out Try.underlying37 rfl HIZ.out ?_)
        | (with_reducible refine wpList_binU (by with_unfolding_all rfl) .eql 37 37 (.tmp 54) (.tmp 55) rfl (.agg (zeros 32)) (.agg (zeros 32)) (.bool true) rfl (by with_unfolding_all rfl) (bk_guard _ _ _ _ _) (zero_eqU _) ?_))
      refine (awake12_any _).mono ?_
      rintro e w4 ⟨rfl, hb4⟩
      have HB4 := Lib.hid (HWF.out.trans (hb4.mono HWF.out.size))
      clear hb4
      go_wp2
      go_ret
      exact ⟨rfl, HB4.out⟩
  · go_simp
    refine hK.out _ _ (HK.out _ ((hh.2).alloc (Nat.le_trans HSZ.out hh.2.size) _)) (fun hh10 => ?_)
    clear hK K
    (try simp only [Act.put, List.getElem_toArray, List.getElem_cons_succ, List.getElem_cons_zero, List.setIfInBounds_toArray, List.set_cons_zero, List.set_cons_succ])
    have hr := heap_alloc_new W0 (.cells (zeros 32) 37)
    have hbn : Below W0.heap.size W0 (W0.alloc (.cells (zeros 32) 37)) := (Below.refl _ _).alloc (Nat.le_refl _) _
    have hrb : B ≤ W0.heap.size := (Nat.le_trans HSZ.out hh.2.size)
    clear hbn
    obtain ⟨V, hV⟩ : ∃ V, V = W0.alloc (.cells (zeros 32) 37) := ⟨_, rfl⟩
    rw [← hV] at hr hh10 ⊢
    obtain ⟨r, hrr⟩ : ∃ r, r = W0.heap.size := ⟨_, rfl⟩
    rw [← hrr] at hr hrb ⊢
    have HR10 := Lib.hid hr
    have HRB := Lib.hid hrb
    clear hV hrr hr hrb
    refine wpAnyF_ready (rs := [0]) (by kernel_rfl) (by simp) ?_
    refine AllReadyF.cons (o := _) rfl (fun K hK => ?_) AllReadyF.nil
    go_simp
    (go_at_call 8)
    refine (book12_any _).mono ?_
    rintro e w1 ⟨b, g, S, rfl, hbk, hS, hbn⟩
    refine hK.out _ _ (HK.out _ (hh10.2.trans (hbn.mono (Nat.le_trans HSZ.out hh10.2.size)))) (fun hh0 => ?_)
    clear hK K
    (try simp only [Act.put, List.getElem_toArray, List.getElem_cons_succ, List.getElem_cons_zero, List.setIfInBounds_toArray, List.set_cons_zero, List.set_cons_succ])
    have HBK0 := Lib.hid hbk
    have HS : Hid (∀ j, S j → B ≤ j) := Lib.hid (fun j hj => Nat.le_trans (Nat.le_trans HSZ.out hh10.2.size) (hS j hj))
    have HR0 := Lib.hid ((hbn.block _ (blk_lt HR10.out)).trans HR10.out)
    have HRS : Hid (¬ S r) := Lib.hid (fun z => by have h1 := hS r z; have h2 := blk_lt HR10.out; exact absurd h1 (Nat.not_le.2 h2))
    clear hbk hS hbn
    refine wpAnyF_ready (rs := [5]) (by kernel_rfl) (by simp) ?_
    refine AllReadyF.cons (o := _) rfl (fun K hK => ?_) AllReadyF.nil
    go_simp
    (go_at_call 9)
    refine (digests_new 12 c (some ⟨b0, o0, none⟩) ps _ (HDS.out.below (HB0.out.trans (hh0.2.mono (by have := HKW.out; omega)))) (by omega)).mono ?_
    rintro e w2 ⟨A2, c2, rfl, hc2, hd2, hbn, hnew⟩
    refine hK.out _ _ (HK.out _ (hh0.2.trans (hbn.mono (Nat.le_trans HSZ.out hh0.2.size)))) (fun hh5 => ?_)
    clear hK K
    (try simp only [Act.put, List.getElem_toArray, List.getElem_cons_succ, List.getElem_cons_zero, List.setIfInBounds_toArray, List.set_cons_zero, List.set_cons_succ])
    have HBK5 := Lib.hid (HBK0.out.below hbn)
    have HD5 := Lib.hid hd2
    have HC2 := Lib.hid hc2
    have HOFF : Hid (∀ ad, A2 = some ad → ¬ S ad.block) := Lib.hid (fun ad e z => by have h1 := hnew ad e; have h2 := HBK0.out.sub z; omega)
    have HR5 := Lib.hid ((hbn.block _ (blk_lt HR0.out)).trans HR0.out)
    clear hd2 hc2 hbn hnew
    refine wpAnyF_ready (rs := [6]) (by kernel_rfl) (by simp) ?_
    refine AllReadyF.cons (o := _) rfl (fun K hK => ?_) AllReadyF.nil
    go_simp
    (go_at_call 15)
    refine (HUP.out b A2 c2 _).mono ?_
    rintro e w3 ⟨rfl, hbn⟩
    refine hK.out _ _ (HK.out _ (hh5.2.trans (hbn.mono (Nat.le_trans HSZ.out hh5.2.size)))) (fun hh6 => ?_)
    clear hK K
    (try simp only [Act.put, List.getElem_toArray, List.getElem_cons_succ, List.getElem_cons_zero, List.setIfInBounds_toArray, List.set_cons_zero, List.set_cons_succ])
    have HR6 := Lib.hid ((hbn.block _ (blk_lt HR5.out)).trans HR5.out)
    clear hbn
    refine wpAnyF_take (i := 7) (oi := _) (v := ?_) rfl (by kernel_rfl) (by kernel_rfl) (by kernel_rfl) (by kernel_rfl) (fun _ _ _ h => h) (Or.inl ⟨by rfl, ?_⟩) (by assumption) ?_
    rotate_left 1
    · intro w _
      (first | (go_simp; done) | (go_simp; with_reducible rfl))
    (try simp only [Act.put, List.getElem_toArray, List.getElem_cons_succ, List.getElem_cons_zero, List.setIfInBounds_toArray, List.set_cons_zero, List.set_cons_succ])
    refine wpAnyF_take (i := 8) (oi := _) (v := ?_) rfl (by kernel_rfl) (by kernel_rfl) (by kernel_rfl) (by kernel_rfl) (fun _ _ _ h => h) (Or.inl ⟨by rfl, ?_⟩) (by assumption) ?_
    rotate_left 1
    · intro w _
      (first | (go_simp; done) | (go_simp; with_reducible rfl))
    (try simp only [Act.put, List.getElem_toArray, List.getElem_cons_succ, List.getElem_cons_zero, List.setIfInBounds_toArray, List.set_cons_zero, List.set_cons_succ])
    refine wpAnyF_take (i := 9) (oi := _) (v := ?_) rfl (by kernel_rfl) (by kernel_rfl) (by kernel_rfl) (by kernel_rfl) (fun _ _ _ h => h) (Or.inl ⟨by rfl, ?_⟩) (by assumption) ?_
    rotate_left 1
    · intro w _
      (first | (go_simp; done) | (go_simp; with_reducible rfl))
    (try simp only [Act.put, List.getElem_toArray, List.getElem_cons_succ, List.getElem_cons_zero, List.setIfInBounds_toArray, List.set_cons_zero, List.set_cons_succ])
    refine wpAnyF_ready (rs := [11]) (by kernel_rfl) (by simp) ?_
    refine AllReadyF.cons (o := _) rfl (fun K hK => ?_) AllReadyF.nil
    rw [if_pos (by kernel_rfl)]
    refine wp_store_row 37 (.tmp 9) (.tmp 27) rfl r (zeros 32) rfl rfl _ (zeros 32) HR6.out HIZ.out rfl HOZ.out ?_
    refine hK.out _ _ (HK.out _ (below_setRow hh6.2 HRB.out _)) (fun hh11 => ?_)
    clear hK K
    (try simp only [Act.put, List.getElem_toArray, List.getElem_cons_succ, List.getElem_cons_zero, List.setIfInBounds_toArray, List.set_cons_zero, List.set_cons_succ])
    refine wpAnyF_ready (rs := [12]) (by kernel_rfl) (by simp) ?_
    refine AllReadyF.cons (o := _) rfl (fun K hK => ?_) AllReadyF.nil
    go_simp
    refine hK.out _ _ (by assumption) (fun hh12 => ?_)
    clear hK K
    (try simp only [Act.put, List.getElem_toArray, List.getElem_cons_succ, List.getElem_cons_zero, List.setIfInBounds_toArray, List.set_cons_zero, List.set_cons_succ])
    refine wpAnyF_done (by kernel_rfl) ?_ _
    have hrf := setRow_heap w3 r (zeros 32) (zeros 32) _ _ HR6.out
    obtain ⟨VF, hVF⟩ : ∃ VF, VF = w3.setRow r (zeros 32) := ⟨_, rfl⟩
    rw [← hVF] at hrf hh11 ⊢
    have HRF := Lib.hid hrf
    have HPF := Lib.hid hh11.1
    have HWF : Hid (Below w.heap.size w VF) := Lib.hid (HB0.out.trans (hh11.2.mono (by have := HKW.out; omega)))
    have HRG : Hid (w.heap.size < r) := Lib.hid (by have := HRB.out; have := HKW.out; omega)
    clear hrf hVF
    go_wp2_with (first
      | (with_reducible refine wpList_load_row_wU (by with_unfolding_all rfl) 37 (.tmp 9) rfl _ rfl 37 _ _ _ HRF.out Try.underlying37 rfl HIZ.out ?_)
      | (with_reducible refine wpList_binU (by with_unfolding_all rfl) .eql 37 37 (.tmp 54) (.tmp 55) rfl (.agg (zeros 32)) (.agg (zeros 32)) (.bool true) rfl (by with_unfolding_all rfl) (bk_guard _ _ _ _ _) (zero_eqU _) ?_))
    refine (awake12_any _).mono ?_
    rintro e w4 ⟨rfl, hb4⟩
    have HB4 := Lib.hid (HWF.out.trans (hb4.mono HWF.out.size))
    clear hb4
    go_wp2
    go_ret
    exact ⟨rfl, HB4.out⟩
end
end Go.Proofs.Ytogipflmnnmhiaa
