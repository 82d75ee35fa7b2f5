/-
  Joined: TwRy, TwRb, TwRc.
-/
import Derived.Test.YtogipflmnnmhiaaZUpA
namespace Go.Proofs.Ytogipflmnnmhiaa
set_option maxRecDepth 100000
section
open Go.RowKit Go
set_option linter.unusedVariables false
set_option linter.unusedSimpArgs false
set_option maxRecDepth 100000
set_option maxHeartbeats 8000000 in
theorem treeUp_yes (n k : Nat) (x : List Nat) (A : Option Addr) (m c : Nat) (ps : Nat → List Nat) (w : World) (hds : DgS w A m ps) (hm : m ≤ 12) (hc : m ≤ c) (hx : IsDig x) (hn1 : 1 ≤ n) (hn2 : n ≤ 1024) (hk : k < n) (hmd : m = dpX n) :
    Calls Try.prog 4 #[.int .i64 (n : Int), .int .i64 (k : Int), .agg (dA x), .slice A m c] w fun e w' => e = .returned (.bool true) ∧ Below w.heap.size w w' := by
  have hz := zero_dig
  have hzr := zero32
  obtain ⟨W0, hW0⟩ : ∃ W0, W0 = w.alloc (.cells (dA x) 34) := ⟨_, rfl⟩
  have HB0 : Hid (Below w.heap.size w W0) := Lib.hid (by rw [hW0]; exact (Below.refl _ _).alloc (Nat.le_refl _) _)
  have HP6 : Hid (W0.heap[w.heap.size]? = some (.cells (dA x) 34 (0, 0))) := Lib.hid (by rw [hW0]; exact heap_alloc_new w _)
  have HW0 := Lib.hid hW0
  have hx32 : (dA x).size = 32 := by rw [rowV_size]
  have HIX := Lib.hid (info_d32 hx32)
  have HOX : Hid ((dA x).all (·.oneCell') = true) := Lib.hid (dA_one _)
  have HDS := Lib.hid hds
  have HX := Lib.hid hx
  obtain ⟨B, hB⟩ : ∃ B, B = W0.heap.size := ⟨_, rfl⟩
  have HKW : Hid (B = w.heap.size + 1) := Lib.hid (by rw [hB, hW0]; simp)
  have HBB := Lib.hid hB
  have HSZ : Hid (B ≤ W0.heap.size) := Lib.hid (Nat.le_of_eq hB)
  have HIZ := Lib.hid (info_dig (cs := zeros 32) (by simp [zeros]))
  have HOZ : Hid ((zeros 32).all (·.oneCell') = true) := Lib.hid (by kernel_rfl)
  obtain ⟨da, hda⟩ : ∃ z, z = digA (txt 2 [putL 4 n, upS k x ps m]) := ⟨_, rfl⟩
  have hda2 : da.size = 32 := by rw [hda]; unfold digA; rw [rowV_size]
  have HIA := Lib.hid (info_dig hda2)
  have HOA : Hid (da.all (·.oneCell') = true) := Lib.hid (by rw [hda]; exact one_dig _)
  have HZA : Hid ((zeros 32).size = da.size) := Lib.hid (by rw [hda2]; simp [zeros])
  have HDA := Lib.hid hda
  have HEQ : Hid (∀ W, (binOp .eql 37 (.agg da) (.agg da)).run Try.prog W = .ok (.bool true) W) := Lib.hid (fun W => by rw [hda, bk_dig_eq]; simp)
  have HUP : Hid (∀ (b g c2 : Nat) (A2 : Option Addr) (S : Nat → Prop) (W : World), IsBook W b g S [] [] → DgS W A2 m ps → (∀ ad, A2 = some ad → ¬ S ad.block) → m ≤ c2 → Calls Try.prog 15 #[.pointer (some ⟨b, 0, none⟩), .int .i64 (n : Int), .int .i64 (k : Int), .agg (dA x), .slice A2 m c2] W (UpYes W b g S (txt 2 [putL 4 n, upS k x ps m]))) := Lib.hid (fun b g c2 A2 S W h1' h2' h3' h4' => tup_yes b g n k m c2 x A2 ps S [] [] W h1' h2' h3' hn1 hn2 hk hmd h4' hx)
  have HRD := Lib.hid (fun W => rdepth_x n hn2 W)
  rw [← hmd] at HRD
  have hm10 : m ≤ 10 := by rw [hmd]; exact dpX_le n
  clear hda hda2 hmd
  have g1 : ¬ (n : Int) < 1 := by omega
  have g2 : ¬ (1024 : Int) < (n : Int) := by omega
  have g2' : ¬ 1024 < n := by omega
  have g3 : ¬ (k : Int) < 0 := by omega
  have g4 : ¬ (n : Int) ≤ (k : Int) := by omega
  have g4' : ¬ n ≤ k := by omega
  obtain ⟨xd, hxd⟩ : ∃ z, z = dA x := ⟨_, rfl⟩
  have HXD := Lib.hid hxd
  rw [← hxd] at HW0 HP6 HIX HOX HUP ⊢
  clear hW0 hx32 hxd hds hx hB
  have hm1 : ¬ (12 : Int) < (m : Int) := by omega
  have hm2 : ¬ 12 < m := by omega
  go_enter Try.func4, Try.ntmps4
  go_wp2_with (with_reducible refine Go.Great.wpList_boxTo rfl 34 (.tmp 2) rfl (some 6) rfl w.heap.size (by simp) xd rfl ?_)
  rw [← HW0.out]
  go_upto_region 3 with (fail)
  have HK : Hid (∀ W, Below B W0 W → W.heap[w.heap.size]? = some (.cells xd 34 (0, 0)) ∧ Below B W0 W) := Lib.hid (fun W hW => ⟨(hW.block _ (by have := HKW.out; omega)).trans HP6.out, hW⟩)
  refine wp_region_F (S := (fun W : World => W.heap[w.heap.size]? = some (.cells xd 34 (0, 0)) ∧ Below B W0 W)) [] (by kernel_rfl) (HK.out _ (by have e := HBB.out; rw [e]; exact (Below.refl _ _).drew)) (fun hHeld => ?_)
  refine wpAnyF_take (i := 1) (oi := _) (v := ?_) rfl (by kernel_rfl) (by kernel_rfl) (by kernel_rfl) (by kernel_rfl) (fun _ _ _ h => h) (Or.inl ⟨by rfl, ?_⟩) (by assumption) ?_
  rotate_left 1
  · intro w hSw
    (try dsimp only at hSw)
    (first | (go_simp; done) | (go_simp; with_reducible rfl))
  (try simp only [Act.put, List.getElem_toArray, List.getElem_cons_succ, List.getElem_cons_zero, List.setIfInBounds_toArray, List.set_cons_zero, List.set_cons_succ])
  refine wpAnyF_take (i := 2) (oi := _) (v := ?_) rfl (by kernel_rfl) (by kernel_rfl) (by kernel_rfl) (by kernel_rfl) (fun _ _ _ h => h) (Or.inl ⟨by rfl, ?_⟩) (by assumption) ?_
  rotate_left 1
  · intro w hSw
    (try dsimp only at hSw)
    (first | (go_simp; done) | (go_simp; with_reducible rfl))
  (try simp only [Act.put, List.getElem_toArray, List.getElem_cons_succ, List.getElem_cons_zero, List.setIfInBounds_toArray, List.set_cons_zero, List.set_cons_succ])
  refine wpAnyF_take (i := 3) (oi := _) (v := _) rfl (by kernel_rfl) (by kernel_rfl) (by kernel_rfl) (by kernel_rfl) (fun _ _ _ h => h) (yields_rowU (by rfl) 34 (.tmp 6) rfl w.heap.size 0 rfl xd _ (fun W h => range_cells h.1) Try.underlying34 rfl HIX.out) (by assumption) ?_
  (try simp only [Act.put, List.getElem_toArray, List.getElem_cons_succ, List.getElem_cons_zero, List.setIfInBounds_toArray, List.set_cons_zero, List.set_cons_succ])
  refine wpAnyF_take (i := 4) (oi := _) (v := ?_) rfl (by kernel_rfl) (by kernel_rfl) (by kernel_rfl) (by kernel_rfl) (fun _ _ _ h => h) (Or.inl ⟨by rfl, ?_⟩) (by assumption) ?_
  rotate_left 1
  · intro w hSw
    (try dsimp only at hSw)
    (first | (go_simp; done) | (go_simp; with_reducible rfl))
  (try simp only [Act.put, List.getElem_toArray, List.getElem_cons_succ, List.getElem_cons_zero, List.setIfInBounds_toArray, List.set_cons_zero, List.set_cons_succ])
  refine wpAnyF_ready (rs := [0, 10]) (by kernel_rfl) (by simp) ?_
  refine AllReadyF.cons (o := _) rfl (fun K hK => ?_) (AllReadyF.cons (o := _) rfl (fun K hK => ?_) AllReadyF.nil)
  · go_simp
    (go_at_call 8)
    refine (book12_any _).mono ?_
    rintro e w1 ⟨b, g, S, rfl, hbk, hS, hbn⟩
    refine hK.out _ _ (HK.out _ (hHeld.2.trans (hbn.mono (Nat.le_trans HSZ.out hHeld.2.size)))) (fun hHeld0 => ?_)
    clear hK K
    (try simp only [Act.put, List.getElem_toArray, List.getElem_cons_succ, List.getElem_cons_zero, List.setIfInBounds_toArray, List.set_cons_zero, List.set_cons_succ])
    have HBK0 := Lib.hid hbk
    have HS : Hid (∀ j, S j → B ≤ j) := Lib.hid (fun j hj => Nat.le_trans (Nat.le_trans HSZ.out hHeld.2.size) (hS j hj))
    clear hbk hS hbn
    refine wpAnyF_ready (rs := [5, 10]) (by kernel_rfl) (by simp) ?_
    refine AllReadyF.cons (o := _) rfl (fun K hK => ?_) (AllReadyF.cons (o := _) rfl (fun K hK => ?_) AllReadyF.nil)
    · go_simp
      (go_at_call 9)
      refine (digests_new m c A ps _ (HDS.out.below (HB0.out.trans (hHeld0.2.mono (by have := HKW.out; omega)))) (by omega)).mono ?_
      rintro e w2 ⟨A2, c2, rfl, hc2, hd2, hbn, hnew⟩
      refine hK.out _ _ (HK.out _ (hHeld0.2.trans (hbn.mono (Nat.le_trans HSZ.out hHeld0.2.size)))) (fun hHeld5 => ?_)
      clear hK K
      (try simp only [Act.put, List.getElem_toArray, List.getElem_cons_succ, List.getElem_cons_zero, List.setIfInBounds_toArray, List.set_cons_zero, List.set_cons_succ])
      have HBK5 := Lib.hid (HBK0.out.below hbn)
      have HD5 := Lib.hid hd2
      have HC2 := Lib.hid hc2
      have HOFF : Hid (∀ ad, A2 = some ad → ¬ S ad.block) := Lib.hid (fun ad e z => by have h1 := hnew ad e; have h2 := HBK0.out.sub z; omega)
      clear hd2 hc2 hbn hnew
      refine wpAnyF_ready (rs := [6, 10]) (by kernel_rfl) (by simp) ?_
      refine AllReadyF.cons (o := _) rfl (fun K hK => ?_) (AllReadyF.cons (o := _) rfl (fun K hK => ?_) AllReadyF.nil)
      · go_simp
        (go_at_call 15)
        refine (HUP.out b g c2 A2 S _ HBK5.out HD5.out HOFF.out HC2.out).mono ?_
        rintro e w3 ⟨he, ht, hbk'⟩
        rw [← HDA.out] at he
        subst he
        refine hK.out _ _ (HK.out _ (hHeld5.2.trans (ht.below (Nat.le_trans HSZ.out hHeld5.2.size) (fun j hj => HS.out j hj)))) (fun hHeld6 => ?_)
        clear hK K
        (try simp only [Act.put, List.getElem_toArray, List.getElem_cons_succ, List.getElem_cons_zero, List.setIfInBounds_toArray, List.set_cons_zero, List.set_cons_succ])
        clear ht hbk'
        refine wpAnyF_take (i := 7) (oi := _) (v := ?_) rfl (by kernel_rfl) (by kernel_rfl) (by kernel_rfl) (by kernel_rfl) (fun _ _ _ h => h) (Or.inl ⟨by rfl, ?_⟩) (by assumption) ?_
        rotate_left 1
        · intro w hSw
          (try dsimp only at hSw)
          (first | (go_simp; done) | (go_simp; with_reducible rfl))
        (try simp only [Act.put, List.getElem_toArray, List.getElem_cons_succ, List.getElem_cons_zero, List.setIfInBounds_toArray, List.set_cons_zero, List.set_cons_succ])
        refine wpAnyF_take (i := 8) (oi := _) (v := ?_) rfl (by kernel_rfl) (by kernel_rfl) (by kernel_rfl) (by kernel_rfl) (fun _ _ _ h => h) (Or.inl ⟨by rfl, ?_⟩) (by assumption) ?_
        rotate_left 1
        · intro w hSw
          (try dsimp only at hSw)
          (first | (go_simp; done) | (go_simp; with_reducible rfl))
        (try simp only [Act.put, List.getElem_toArray, List.getElem_cons_succ, List.getElem_cons_zero, List.setIfInBounds_toArray, List.set_cons_zero, List.set_cons_succ])
        refine wpAnyF_take (i := 9) (oi := _) (v := ?_) rfl (by kernel_rfl) (by kernel_rfl) (by kernel_rfl) (by kernel_rfl) (fun _ _ _ h => h) (Or.inl ⟨by rfl, ?_⟩) (by assumption) ?_
        rotate_left 1
        · intro w hSw
          (try dsimp only at hSw)
          (first | (go_simp; done) | (go_simp; with_reducible rfl))
        (try simp only [Act.put, List.getElem_toArray, List.getElem_cons_succ, List.getElem_cons_zero, List.setIfInBounds_toArray, List.set_cons_zero, List.set_cons_succ])
        refine wpAnyF_ready (rs := [10]) (by kernel_rfl) (by simp) ?_
        refine AllReadyF.cons (o := _) rfl (fun K hK => ?_) AllReadyF.nil
        go_simp
        refine hK.out _ _ (HK.out _ ((hHeld6.2).alloc (Nat.le_trans HSZ.out hHeld6.2.size) _)) (fun hHeld10 => ?_)
        clear hK K
        (try simp only [Act.put, List.getElem_toArray, List.getElem_cons_succ, List.getElem_cons_zero, List.setIfInBounds_toArray, List.set_cons_zero, List.set_cons_succ])
        have hr := heap_alloc_new w3 (.cells (zeros 32) 37)
        have hbn : Below w3.heap.size w3 (w3.alloc (.cells (zeros 32) 37)) := (Below.refl _ _).alloc (Nat.le_refl _) _
        have hrb : B ≤ w3.heap.size := (Nat.le_trans HSZ.out hHeld6.2.size)
        clear hbn
        obtain ⟨V, hV⟩ : ∃ V, V = w3.alloc (.cells (zeros 32) 37) := ⟨_, rfl⟩
        rw [← hV] at hr hHeld10 ⊢
        obtain ⟨r, hrr⟩ : ∃ r, r = w3.heap.size := ⟨_, rfl⟩
        rw [← hrr] at hr hrb ⊢
        have HR10 := Lib.hid hr
        have HRB := Lib.hid hrb
        clear hV hrr hr hrb
        refine wpAnyF_ready (rs := [11]) (by kernel_rfl) (by simp) ?_
        refine AllReadyF.cons (o := _) rfl (fun K hK => ?_) AllReadyF.nil
        rw [if_pos (by kernel_rfl)]
        refine wp_store_row 37 (.tmp 9) (.tmp 27) rfl r da rfl rfl _ (zeros 32) HR10.out HIA.out HZA.out HOA.out ?_
        refine hK.out _ _ (HK.out _ (below_setRow hHeld10.2 HRB.out _)) (fun hHeld11 => ?_)
        clear hK K
        (try simp only [Act.put, List.getElem_toArray, List.getElem_cons_succ, List.getElem_cons_zero, List.setIfInBounds_toArray, List.set_cons_zero, List.set_cons_succ])
        refine wpAnyF_ready (rs := [12]) (by kernel_rfl) (by simp) ?_
        refine AllReadyF.cons (o := _) rfl (fun K hK => ?_) AllReadyF.nil
        go_simp
        refine hK.out _ _ (by assumption) (fun hHeld12 => ?_)
        clear hK K
        (try simp only [Act.put, List.getElem_toArray, List.getElem_cons_succ, List.getElem_cons_zero, List.setIfInBounds_toArray, List.set_cons_zero, List.set_cons_succ])
        refine wpAnyF_done (by kernel_rfl) ?_ _
        have hrf := setRow_heap V r (zeros 32) da _ _ HR10.out
        obtain ⟨VF, hVF⟩ : ∃ VF, VF = V.setRow r da := ⟨_, rfl⟩
        rw [← hVF] at hrf hHeld11 ⊢
        have HRF := Lib.hid hrf
        have HPF := Lib.hid hHeld11.1
        have HWF : Hid (Below w.heap.size w VF) := Lib.hid (HB0.out.trans (hHeld11.2.mono (by have := HKW.out; omega)))
        have HRG : Hid (w.heap.size < r) := Lib.hid (by have := HRB.out; have := HKW.out; omega)
        clear hrf hVF
        go_wp2_with fail
        refine (HRD.out _).mono ?_
        rintro e w' ⟨rfl, rfl⟩
        go_wp2_with fail
        go_loopw [64, 11] (fun iv kv W => ∃ d : Nat, iv = .int .i64 (d : Int) ∧ kv = .int .i64 ((k / 2 ^ d : Nat) : Int) ∧ d ≤ m ∧ W.heap[w.heap.size]? = some (.cells (dA (upS k x ps d)) 34 (0, 0)) ∧ W.heap[r]? = some (.cells da 37 (0, 0)) ∧ Below w.heap.size w W) (fun iv _ _ => (m - intOf iv).toNat)
        case atStart => exact ⟨0, rfl, by rw [Nat.pow_zero, Nat.div_one], Nat.zero_le _, by rw [upS, ← HXD.out]; exact HPF.out, HRF.out, HWF.out⟩
        case round =>
          obtain ⟨d, rfl, rfl, hd, hx6, hr6, hb⟩ := hrel
          have hsd := upS_dig (k := k) (ps := ps) HX.out d
          have hsz32 : (dA (upS k x ps d)).size = 32 := by rw [rowV_size]
          have HS32' := hsz32
          have HIS := Lib.hid (info_d32 hsz32)
          by_cases hlt : d < m
          · obtain ⟨bb, oo, rfl, hbb, hrg⟩ := HDS.out.1 (by omega)
            have HRGE := Lib.hid (range_of (hb.block bb hbb) (hrg d hlt))
            have hyd := HDS.out.2 d
            have hy32 : (dA (ps d)).size = 32 := by rw [rowV_size]
            have HIY := Lib.hid (info_d32 hy32)
            have HIYL : Hid ((Try.prog.info? 34).map (·.size) = some (dA (ps d)).toList.length) := Lib.hid (by rw [Array.length_toList]; exact info_d32 hy32)
            have HOY : Hid ((dA (ps d)).all (·.oneCell') = true) := Lib.hid (dA_one _)
            have HZY : Hid ((zeros 32).size = (dA (ps d)).size) := Lib.hid (by rw [hy32]; simp [zeros])
            have HYD := Lib.hid hyd
            have HSD := Lib.hid hsd
            have HS32 := Lib.hid hsz32
            obtain ⟨W1, hW1⟩ : ∃ W1, W1 = (wr.alloc (.cells (zeros 32) 34)).setRow wr.heap.size (dA (ps d)) := ⟨_, rfl⟩
            have hbw : Below wr.heap.size wr W1 := by rw [hW1]; exact below_setRow ((Below.refl _ _).alloc (Nat.le_refl _) _) (Nat.le_refl _) _
            have h15 := heap_alloc_new wr (.cells (zeros 32) 34)
            have HA2 : Hid (W1.heap[wr.heap.size]? = some (.cells (dA (ps d)) 34 (0, 0))) := Lib.hid (by rw [hW1]; exact setRow_heap _ _ _ _ _ _ h15)
            have HX2 := Lib.hid ((hbw.block _ (blk_lt hx6)).trans hx6)
            have HR2 := Lib.hid ((hbw.block _ (blk_lt hr6)).trans hr6)
            have HB2 := Lib.hid (hb.trans (hbw.mono hb.size))
            have H15 := Lib.hid h15
            have HW1 := Lib.hid hW1
            obtain ⟨yd, hydd⟩ : ∃ z, z = dA (ps d) := ⟨_, rfl⟩
            obtain ⟨sd, hsdd⟩ : ∃ z, z = dA (upS k x ps d) := ⟨_, rfl⟩
            have hxa : yd.toList.toArray = yd := by simp
            obtain ⟨kd, hkd⟩ : ∃ kd, kd = k / 2 ^ d := ⟨_, rfl⟩
            have hkdb : kd ≤ 1024 := by rw [hkd]; exact Nat.le_trans (Nat.div_le_self _ _) (by omega)
            have HKD := Lib.hid hkd
            rw [← hydd] at HRGE HIY HIYL HOY HZY HA2 HW1
            rw [← hsdd] at HIS HX2 HS32
            rw [← hkd]
            have HYDD := Lib.hid hydd
            have HSDD := Lib.hid hsdd
            have hm10' : d ≤ 10 := by omega
            clear hx6 hr6 hb hrg hyd hsd hy32 hsz32 HS32' hW1 hbw h15 hydd hsdd hkd
            by_cases hpar : kd % 2 = 1
            · have hpi : (kd : Int) % 2 = 1 := by omega
              have hpb : (((kd : Int) % 2) == 1) = true := by rw [beq_iff_eq]; omega
              have hpn : (kd % 2 == 1) = true := by rw [beq_iff_eq]; exact hpar
              have HND := Lib.hid (fun W => rnode_any (d + 1) (kd / 2) (ps d) (upS k x ps d) W (by omega) (by omega) HYD.out HSD.out)
              rw [nodeT_doc (d + 1) (kd / 2) _ _ (by omega), Int.natCast_add, Int.natCast_ediv, Int.natCast_one, show ((2 : Nat) : Int) = 2 from rfl, ← HYDD.out, ← HSDD.out] at HND
              obtain ⟨na, hna⟩ : ∃ z, z = digA (nodeT (d + 1) (kd / 2) (ps d) (upS k x ps d)) := ⟨_, rfl⟩
              have hna2 : na.size = 32 := by rw [hna]; unfold digA; rw [rowV_size]
              have HIN := Lib.hid (info_d32 hna2)
              have HON : Hid (na.all (·.oneCell') = true) := Lib.hid (by rw [hna]; exact one_dig _)
              have HZN : Hid (sd.size = na.size) := Lib.hid (by rw [hna2]; exact HS32.out)
              have HNA := Lib.hid hna
              have HUPN : Hid (na = dA (upS k x ps (d + 1))) := Lib.hid (by
                rw [hna, upS]
                have e1 : k / 2 ^ (d + 1) = kd / 2 := by rw [HKD.out, Nat.pow_succ, Nat.div_div_eq_div_mul]
                rw [← HKD.out, e1, if_pos hpar, if_pos hpar]
                rfl)
              rw [← hna] at HND
              clear hna hna2
              go_wp2_with (first
                | (with_reducible refine wpList_load_mid rfl 34 (.tmp 67) rfl bb (oo + d * 32) rfl yd.toList _ HRGE.out Try.underlying34 rfl HIYL.out ?_)
                | (with_reducible refine wpList_store_row rfl 34 (.tmp 13) (.tmp 68) rfl _ _ rfl (by simp [Act.eval, Act.put]) 34 _ H15.out HIY.out HZY.out HOY.out ?_; rw [← HW1.out])
                | (with_reducible refine wpList_load_row rfl 34 (.tmp 13) rfl _ rfl 34 _ _ _ HA2.out Try.underlying34 rfl HIY.out ?_)
                | (with_reducible refine wpList_load_row rfl 34 (.tmp 6) rfl _ rfl 34 _ _ _ HX2.out Try.underlying34 rfl HIS.out ?_))
              refine (HND.out _).mono ?_
              rintro e w5 ⟨rfl, hb5⟩
              have HX5 := Lib.hid ((hb5.block _ (blk_lt HX2.out)).trans HX2.out)
              have HR5 := Lib.hid ((hb5.block _ (blk_lt HR2.out)).trans HR2.out)
              have HB5 := Lib.hid (HB2.out.trans (hb5.mono HB2.out.size))
              clear hb5
              obtain ⟨W6, hW6⟩ : ∃ W6, W6 = w5.setRow w.heap.size na := ⟨_, rfl⟩
              have H9 : Hid (∃ d' : Nat, (Value.int .i64 ((d : Int) + 1)) = .int .i64 (d' : Int) ∧ (Value.int .i64 ((kd : Int) / 2)) = .int .i64 ((k / 2 ^ d' : Nat) : Int) ∧ d' ≤ m ∧ W6.heap[w.heap.size]? = some (.cells (dA (upS k x ps d')) 34 (0, 0)) ∧ W6.heap[r]? = some (.cells da 37 (0, 0)) ∧ Below w.heap.size w W6) := Lib.hid (by
                refine ⟨d + 1, rfl, ?_, hlt, ?_, ?_, ?_⟩
                · have e1 : k / 2 ^ (d + 1) = kd / 2 := by rw [HKD.out, Nat.pow_succ, Nat.div_div_eq_div_mul]
                  rw [e1, Int.natCast_ediv]; rfl
                · rw [hW6, ← HUPN.out]; exact setRow_heap _ _ _ _ _ _ HX5.out
                · rw [hW6]; exact (setRow_other _ _ _ _ (by have := HRG.out; omega)).trans HR5.out
                · rw [hW6]; exact below_setRow HB5.out (Nat.le_refl _) _)
              have HW6 := Lib.hid hW6
              clear hW6
              go_wp2_with (with_reducible refine wpList_store_row rfl 34 (.tmp 6) (.tmp 78) rfl _ _ rfl rfl 34 _ HX5.out HIN.out HZN.out HON.out ?_; rw [← HW6.out])
              go_roundw
              case rel => exact H9.out
              case measure => simp [intOf]; omega
            · have hpi : ¬ (kd : Int) % 2 = 1 := by omega
              have hpb : (((kd : Int) % 2) == 1) = false := by rw [beq_eq_false_iff_ne]; omega
              have hpn : (kd % 2 == 1) = false := by rw [beq_eq_false_iff_ne]; exact hpar
              have HND := Lib.hid (fun W => rnode_any (d + 1) (kd / 2) (upS k x ps d) (ps d) W (by omega) (by omega) HSD.out HYD.out)
              rw [nodeT_doc (d + 1) (kd / 2) _ _ (by omega), Int.natCast_add, Int.natCast_ediv, Int.natCast_one, show ((2 : Nat) : Int) = 2 from rfl, ← HSDD.out, ← HYDD.out] at HND
              obtain ⟨na, hna⟩ : ∃ z, z = digA (nodeT (d + 1) (kd / 2) (upS k x ps d) (ps d)) := ⟨_, rfl⟩
              have hna2 : na.size = 32 := by rw [hna]; unfold digA; rw [rowV_size]
              have HIN := Lib.hid (info_d32 hna2)
              have HON : Hid (na.all (·.oneCell') = true) := Lib.hid (by rw [hna]; exact one_dig _)
              have HZN : Hid (sd.size = na.size) := Lib.hid (by rw [hna2]; exact HS32.out)
              have HNA := Lib.hid hna
              have HUPN : Hid (na = dA (upS k x ps (d + 1))) := Lib.hid (by
                rw [hna, upS]
                have e1 : k / 2 ^ (d + 1) = kd / 2 := by rw [HKD.out, Nat.pow_succ, Nat.div_div_eq_div_mul]
                rw [← HKD.out, e1, if_neg hpar, if_neg hpar]
                rfl)
              rw [← hna] at HND
              clear hna hna2
              go_wp2_with (first
                | (with_reducible refine wpList_load_mid rfl 34 (.tmp 67) rfl bb (oo + d * 32) rfl yd.toList _ HRGE.out Try.underlying34 rfl HIYL.out ?_)
                | (with_reducible refine wpList_store_row rfl 34 (.tmp 13) (.tmp 68) rfl _ _ rfl (by simp [Act.eval, Act.put]) 34 _ H15.out HIY.out HZY.out HOY.out ?_; rw [← HW1.out])
                | (with_reducible refine wpList_load_row rfl 34 (.tmp 13) rfl _ rfl 34 _ _ _ HA2.out Try.underlying34 rfl HIY.out ?_)
                | (with_reducible refine wpList_load_row rfl 34 (.tmp 6) rfl _ rfl 34 _ _ _ HX2.out Try.underlying34 rfl HIS.out ?_))
              refine (HND.out _).mono ?_
              rintro e w5 ⟨rfl, hb5⟩
              have HX5 := Lib.hid ((hb5.block _ (blk_lt HX2.out)).trans HX2.out)
              have HR5 := Lib.hid ((hb5.block _ (blk_lt HR2.out)).trans HR2.out)
              have HB5 := Lib.hid (HB2.out.trans (hb5.mono HB2.out.size))
              clear hb5
              obtain ⟨W6, hW6⟩ : ∃ W6, W6 = w5.setRow w.heap.size na := ⟨_, rfl⟩
              have H9 : Hid (∃ d' : Nat, (Value.int .i64 ((d : Int) + 1)) = .int .i64 (d' : Int) ∧ (Value.int .i64 ((kd : Int) / 2)) = .int .i64 ((k / 2 ^ d' : Nat) : Int) ∧ d' ≤ m ∧ W6.heap[w.heap.size]? = some (.cells (dA (upS k x ps d')) 34 (0, 0)) ∧ W6.heap[r]? = some (.cells da 37 (0, 0)) ∧ Below w.heap.size w W6) := Lib.hid (by
                refine ⟨d + 1, rfl, ?_, hlt, ?_, ?_, ?_⟩
                · have e1 : k / 2 ^ (d + 1) = kd / 2 := by rw [HKD.out, Nat.pow_succ, Nat.div_div_eq_div_mul]
                  rw [e1, Int.natCast_ediv]; rfl
                · rw [hW6, ← HUPN.out]; exact setRow_heap _ _ _ _ _ _ HX5.out
                · rw [hW6]; exact (setRow_other _ _ _ _ (by have := HRG.out; omega)).trans HR5.out
                · rw [hW6]; exact below_setRow HB5.out (Nat.le_refl _) _)
              have HW6 := Lib.hid hW6
              clear hW6
              go_wp2_with (with_reducible refine wpList_store_row rfl 34 (.tmp 6) (.tmp 85) rfl _ _ rfl rfl 34 _ HX5.out HIN.out HZN.out HON.out ?_; rw [← HW6.out])
              go_roundw
              case rel => exact H9.out
              case measure => simp [intOf]; omega
          · obtain rfl : d = m := by omega
            have HTOP := Lib.hid (fun W => rtop_any n (upS k x ps d) W (by omega) hsd)
            obtain ⟨xm, hxm⟩ : ∃ z, z = dA (upS k x ps d) := ⟨_, rfl⟩
            rw [← hxm, ← HDA.out] at HTOP
            rw [← hxm] at HIS hx6
            have HIM := Lib.hid HIS.out
            have HXM := Lib.hid hx6
            have HRM := Lib.hid hr6
            have HBM := Lib.hid hb
            clear hx6 hr6 hb hsd hsz32 HS32' hxm
            go_upto_region 15 with (fail)
            refine wp_region_F (S := (fun W : World => W.heap[w.heap.size]? = some (.cells xm 34 (0, 0)) ∧ W.heap[r]? = some (.cells da 37 (0, 0)) ∧ Below wr.heap.size wr W)) [] (by kernel_rfl) (⟨HXM.out, HRM.out, (Below.refl _ _).drew⟩) (fun hHeld => ?_)
            refine wpAnyF_take (i := 0) (oi := _) (v := ?_) rfl (by kernel_rfl) (by kernel_rfl) (by kernel_rfl) (by kernel_rfl) (fun _ _ _ h => h) (Or.inl ⟨by rfl, ?_⟩) (by assumption) ?_
            rotate_left 1
            · intro w hSw
              (try dsimp only at hSw)
              (first | (go_simp; done) | (go_simp; with_reducible rfl))
            (try simp only [Act.put, List.getElem_toArray, List.getElem_cons_succ, List.getElem_cons_zero, List.setIfInBounds_toArray, List.set_cons_zero, List.set_cons_succ])
            refine wpAnyF_take (i := 1) (oi := _) (v := ?_) rfl (by kernel_rfl) (by kernel_rfl) (by kernel_rfl) (by kernel_rfl) (fun _ _ _ h => h) (Or.inl ⟨by rfl, ?_⟩) (by assumption) ?_
            rotate_left 1
            · intro w hSw
              (try dsimp only at hSw)
              (first | (go_simp; done) | (go_simp; with_reducible rfl))
            (try simp only [Act.put, List.getElem_toArray, List.getElem_cons_succ, List.getElem_cons_zero, List.setIfInBounds_toArray, List.set_cons_zero, List.set_cons_succ])
            refine wpAnyF_take (i := 2) (oi := _) (v := ?_) rfl (by kernel_rfl) (by kernel_rfl) (by kernel_rfl) (by kernel_rfl) (fun _ _ _ h => h) (Or.inl ⟨by rfl, ?_⟩) (by assumption) ?_
            rotate_left 1
            · intro w hSw
              (try dsimp only at hSw)
              (first | (go_simp; done) | (go_simp; with_reducible rfl))
            (try simp only [Act.put, List.getElem_toArray, List.getElem_cons_succ, List.getElem_cons_zero, List.setIfInBounds_toArray, List.set_cons_zero, List.set_cons_succ])
            refine wpAnyF_take (i := 3) (oi := _) (v := _) rfl (by kernel_rfl) (by kernel_rfl) (by kernel_rfl) (by kernel_rfl) (fun _ _ _ h => h) (yields_rowU (by with_unfolding_all rfl) 37 (.tmp 9) rfl r 0 rfl da _ (fun W h => range_cells h.2.1) Try.underlying37 rfl HIA.out) (by assumption) ?_
            (try simp only [Act.put, List.getElem_toArray, List.getElem_cons_succ, List.getElem_cons_zero, List.setIfInBounds_toArray, List.set_cons_zero, List.set_cons_succ])
            refine wpAnyF_take (i := 4) (oi := _) (v := ?_) rfl (by kernel_rfl) (by kernel_rfl) (by kernel_rfl) (by kernel_rfl) (fun _ _ _ h => h) (Or.inl ⟨by rfl, ?_⟩) (by assumption) ?_
            rotate_left 1
            · intro w hSw
              (try dsimp only at hSw)
              (first | (go_simp; done) | (go_simp; with_reducible rfl))
            (try simp only [Act.put, List.getElem_toArray, List.getElem_cons_succ, List.getElem_cons_zero, List.setIfInBounds_toArray, List.set_cons_zero, List.set_cons_succ])
            refine wpAnyF_take (i := 5) (oi := _) (v := _) rfl (by kernel_rfl) (by kernel_rfl) (by kernel_rfl) (by kernel_rfl) (fun _ _ _ h => h) (yields_rowU (by with_unfolding_all rfl) 34 (.tmp 6) rfl w.heap.size 0 rfl xm _ (fun W h => range_cells h.1) Try.underlying34 rfl HIM.out) (by assumption) ?_
            (try simp only [Act.put, List.getElem_toArray, List.getElem_cons_succ, List.getElem_cons_zero, List.setIfInBounds_toArray, List.set_cons_zero, List.set_cons_succ])
            refine wpAnyF_ready (rs := [6]) (by kernel_rfl) (by simp) ?_
            refine AllReadyF.cons (o := _) rfl (fun K hK => ?_) AllReadyF.nil
            go_simp
            (go_at_call 17)
            refine (HTOP.out _).mono ?_
            rintro e w11 ⟨rfl, hb11⟩
            refine hK.out _ _ (⟨(hb11.block _ (blk_lt hHeld.1)).trans hHeld.1, (hb11.block _ (blk_lt hHeld.2.1)).trans hHeld.2.1, hHeld.2.2.trans (hb11.mono hHeld.2.2.size)⟩) (fun hHeld6 => ?_)
            clear hK K
            (try simp only [Act.put, List.getElem_toArray, List.getElem_cons_succ, List.getElem_cons_zero, List.setIfInBounds_toArray, List.set_cons_zero, List.set_cons_succ])
            refine wpAnyF_take (i := 7) (oi := _) (v := _) rfl (by kernel_rfl) (by kernel_rfl) (by kernel_rfl) (by kernel_rfl) (fun _ _ _ h => h) (.inl ⟨by with_unfolding_all rfl, fun w h => exec_bin .eql 37 37 (.tmp 92) (.tmp 95) rfl (.agg da) (.agg da) (.bool true) rfl rfl (bk_guard _ _ _ _ _) (HEQ.out w)⟩) (by assumption) ?_
            (try simp only [Act.put, List.getElem_toArray, List.getElem_cons_succ, List.getElem_cons_zero, List.setIfInBounds_toArray, List.set_cons_zero, List.set_cons_succ])
            refine wpAnyF_take (i := 8) (oi := _) (v := ?_) rfl (by kernel_rfl) (by kernel_rfl) (by kernel_rfl) (by kernel_rfl) (fun _ _ _ h => h) (Or.inl ⟨by rfl, ?_⟩) (by assumption) ?_
            rotate_left 1
            · intro w hSw
              (try dsimp only at hSw)
              (first | (go_simp; done) | (go_simp; with_reducible rfl))
            (try simp only [Act.put, List.getElem_toArray, List.getElem_cons_succ, List.getElem_cons_zero, List.setIfInBounds_toArray, List.set_cons_zero, List.set_cons_succ])
            refine wpAnyF_take (i := 9) (oi := _) (v := ?_) rfl (by kernel_rfl) (by kernel_rfl) (by kernel_rfl) (by kernel_rfl) (fun _ _ _ h => h) (Or.inl ⟨by rfl, ?_⟩) (by assumption) ?_
            rotate_left 1
            · intro w hSw
              (try dsimp only at hSw)
              (first | (go_simp; done) | (go_simp; with_reducible rfl))
            (try simp only [Act.put, List.getElem_toArray, List.getElem_cons_succ, List.getElem_cons_zero, List.setIfInBounds_toArray, List.set_cons_zero, List.set_cons_succ])
            refine wpAnyF_ready (rs := [10]) (by kernel_rfl) (by simp) ?_
            refine AllReadyF.cons (o := _) rfl (fun K hK => ?_) AllReadyF.nil
            go_simp
            refine (awake12_any _).mono ?_
            rintro e w12 ⟨rfl, hb12⟩
            refine hK.out _ _ (⟨(hb12.block _ (blk_lt hHeld6.1)).trans hHeld6.1, (hb12.block _ (blk_lt hHeld6.2.1)).trans hHeld6.2.1, hHeld6.2.2.trans (hb12.mono hHeld6.2.2.size)⟩) (fun hHeld10 => ?_)
            clear hK K
            (try simp only [Act.put, List.getElem_toArray, List.getElem_cons_succ, List.getElem_cons_zero, List.setIfInBounds_toArray, List.set_cons_zero, List.set_cons_succ])
            refine wpAnyF_take (i := 11) (oi := _) (v := ?_) rfl (by kernel_rfl) (by kernel_rfl) (by kernel_rfl) (by kernel_rfl) (fun _ _ _ h => h) (Or.inl ⟨by rfl, ?_⟩) (by assumption) ?_
            rotate_left 1
            · intro w hSw
              (try dsimp only at hSw)
              (first | (go_simp; done) | (go_simp; with_reducible rfl))
            (try simp only [Act.put, List.getElem_toArray, List.getElem_cons_succ, List.getElem_cons_zero, List.setIfInBounds_toArray, List.set_cons_zero, List.set_cons_succ])
            refine wpAnyF_ready (rs := [12]) (by kernel_rfl) (by simp) ?_
            refine AllReadyF.cons (o := _) rfl (fun K hK => ?_) AllReadyF.nil
            go_simp
            refine hK.out _ _ (by assumption) (fun hHeld12 => ?_)
            clear hK K
            (try simp only [Act.put, List.getElem_toArray, List.getElem_cons_succ, List.getElem_cons_zero, List.setIfInBounds_toArray, List.set_cons_zero, List.set_cons_succ])
            refine wpAnyF_done (by kernel_rfl) ?_ _
            have HB12 := Lib.hid (HBM.out.trans (hHeld12.2.2.mono HBM.out.size))
            clear hHeld hHeld6 hHeld10 hHeld12 hb11 hb12
            go_wp2_with fail
            go_ret
            exact ⟨rfl, HB12.out⟩
      · go_simp
        refine hK.out _ _ (HK.out _ ((hHeld5.2).alloc (Nat.le_trans HSZ.out hHeld5.2.size) _)) (fun hHeld10 => ?_)
        clear hK K
        (try simp only [Act.put, List.getElem_toArray, List.getElem_cons_succ, List.getElem_cons_zero, List.setIfInBounds_toArray, List.set_cons_zero, List.set_cons_succ])
        have hr := heap_alloc_new w2 (.cells (zeros 32) 37)
        have hbn : Below w2.heap.size w2 (w2.alloc (.cells (zeros 32) 37)) := (Below.refl _ _).alloc (Nat.le_refl _) _
        have HBK10 := Lib.hid (HBK5.out.below hbn)
        have HD10 := Lib.hid (HD5.out.below hbn)
        have hrb : B ≤ w2.heap.size := (Nat.le_trans HSZ.out hHeld5.2.size)
        have hrs : ¬ S w2.heap.size := fun z => by have := HBK5.out.sub z; omega
        clear hbn
        obtain ⟨V, hV⟩ : ∃ V, V = w2.alloc (.cells (zeros 32) 37) := ⟨_, rfl⟩
        rw [← hV] at hr hHeld10 ⊢
        rw [← hV] at HBK10
        rw [← hV] at HD10
        obtain ⟨r, hrr⟩ : ∃ r, r = w2.heap.size := ⟨_, rfl⟩
        rw [← hrr] at hr hrb ⊢
        rw [← hrr] at hrs
        have HRS := Lib.hid hrs
        clear hrs
        have HR10 := Lib.hid hr
        have HRB := Lib.hid hrb
        clear hV hrr hr hrb
        refine wpAnyF_ready (rs := [6]) (by kernel_rfl) (by simp) ?_
        refine AllReadyF.cons (o := _) rfl (fun K hK => ?_) AllReadyF.nil
        go_simp
        (go_at_call 15)
        refine (HUP.out b g c2 A2 S _ HBK10.out HD10.out HOFF.out HC2.out).mono ?_
        rintro e w3 ⟨he, ht, hbk'⟩
        rw [← HDA.out] at he
        subst he
        refine hK.out _ _ (HK.out _ (hHeld10.2.trans (ht.below (Nat.le_trans HSZ.out hHeld10.2.size) (fun j hj => HS.out j hj)))) (fun hHeld6 => ?_)
        clear hK K
        (try simp only [Act.put, List.getElem_toArray, List.getElem_cons_succ, List.getElem_cons_zero, List.setIfInBounds_toArray, List.set_cons_zero, List.set_cons_succ])
        have HR6 := Lib.hid (turnsU ht HRS.out HR10.out)
        clear ht hbk'
        refine wpAnyF_take (i := 7) (oi := _) (v := ?_) rfl (by kernel_rfl) (by kernel_rfl) (by kernel_rfl) (by kernel_rfl) (fun _ _ _ h => h) (Or.inl ⟨by rfl, ?_⟩) (by assumption) ?_
        rotate_left 1
        · intro w hSw
          (try dsimp only at hSw)
          (first | (go_simp; done) | (go_simp; with_reducible rfl))
        (try simp only [Act.put, List.getElem_toArray, List.getElem_cons_succ, List.getElem_cons_zero, List.setIfInBounds_toArray, List.set_cons_zero, List.set_cons_succ])
        refine wpAnyF_take (i := 8) (oi := _) (v := ?_) rfl (by kernel_rfl) (by kernel_rfl) (by kernel_rfl) (by kernel_rfl) (fun _ _ _ h => h) (Or.inl ⟨by rfl, ?_⟩) (by assumption) ?_
        rotate_left 1
        · intro w hSw
          (try dsimp only at hSw)
          (first | (go_simp; done) | (go_simp; with_reducible rfl))
        (try simp only [Act.put, List.getElem_toArray, List.getElem_cons_succ, List.getElem_cons_zero, List.setIfInBounds_toArray, List.set_cons_zero, List.set_cons_succ])
        refine wpAnyF_take (i := 9) (oi := _) (v := ?_) rfl (by kernel_rfl) (by kernel_rfl) (by kernel_rfl) (by kernel_rfl) (fun _ _ _ h => h) (Or.inl ⟨by rfl, ?_⟩) (by assumption) ?_
        rotate_left 1
        · intro w hSw
          (try dsimp only at hSw)
          (first | (go_simp; done) | (go_simp; with_reducible rfl))
        (try simp only [Act.put, List.getElem_toArray, List.getElem_cons_succ, List.getElem_cons_zero, List.setIfInBounds_toArray, List.set_cons_zero, List.set_cons_succ])
        refine wpAnyF_ready (rs := [11]) (by kernel_rfl) (by simp) ?_
        refine AllReadyF.cons (o := _) rfl (fun K hK => ?_) AllReadyF.nil
        rw [if_pos (by kernel_rfl)]
        refine wp_store_row 37 (.tmp 9) (.tmp 27) rfl r da rfl rfl _ (zeros 32) HR6.out HIA.out HZA.out HOA.out ?_
        refine hK.out _ _ (HK.out _ (below_setRow hHeld6.2 HRB.out _)) (fun hHeld11 => ?_)
        clear hK K
        (try simp only [Act.put, List.getElem_toArray, List.getElem_cons_succ, List.getElem_cons_zero, List.setIfInBounds_toArray, List.set_cons_zero, List.set_cons_succ])
        refine wpAnyF_ready (rs := [12]) (by kernel_rfl) (by simp) ?_
        refine AllReadyF.cons (o := _) rfl (fun K hK => ?_) AllReadyF.nil
        go_simp
        refine hK.out _ _ (by assumption) (fun hHeld12 => ?_)
        clear hK K
        (try simp only [Act.put, List.getElem_toArray, List.getElem_cons_succ, List.getElem_cons_zero, List.setIfInBounds_toArray, List.set_cons_zero, List.set_cons_succ])
        refine wpAnyF_done (by kernel_rfl) ?_ _
        have hrf := setRow_heap w3 r (zeros 32) da _ _ HR6.out
        obtain ⟨VF, hVF⟩ : ∃ VF, VF = w3.setRow r da := ⟨_, rfl⟩
        rw [← hVF] at hrf hHeld11 ⊢
        have HRF := Lib.hid hrf
        have HPF := Lib.hid hHeld11.1
        have HWF : Hid (Below w.heap.size w VF) := Lib.hid (HB0.out.trans (hHeld11.2.mono (by have := HKW.out; omega)))
        have HRG : Hid (w.heap.size < r) := Lib.hid (by have := HRB.out; have := HKW.out; omega)
        clear hrf hVF
        go_wp2_with fail
        refine (HRD.out _).mono ?_
        rintro e w' ⟨rfl, rfl⟩
        go_wp2_with fail
        go_loopw [64, 11] (fun iv kv W => ∃ d : Nat, iv = .int .i64 (d : Int) ∧ kv = .int .i64 ((k / 2 ^ d : Nat) : Int) ∧ d ≤ m ∧ W.heap[w.heap.size]? = some (.cells (dA (upS k x ps d)) 34 (0, 0)) ∧ W.heap[r]? = some (.cells da 37 (0, 0)) ∧ Below w.heap.size w W) (fun iv _ _ => (m - intOf iv).toNat)
        case atStart => exact ⟨0, rfl, by rw [Nat.pow_zero, Nat.div_one], Nat.zero_le _, by rw [upS, ← HXD.out]; exact HPF.out, HRF.out, HWF.out⟩
        case round =>
          obtain ⟨d, rfl, rfl, hd, hx6, hr6, hb⟩ := hrel
          have hsd := upS_dig (k := k) (ps := ps) HX.out d
          have hsz32 : (dA (upS k x ps d)).size = 32 := by rw [rowV_size]
          have HS32' := hsz32
          have HIS := Lib.hid (info_d32 hsz32)
          by_cases hlt : d < m
          · obtain ⟨bb, oo, rfl, hbb, hrg⟩ := HDS.out.1 (by omega)
            have HRGE := Lib.hid (range_of (hb.block bb hbb) (hrg d hlt))
            have hyd := HDS.out.2 d
            have hy32 : (dA (ps d)).size = 32 := by rw [rowV_size]
            have HIY := Lib.hid (info_d32 hy32)
            have HIYL : Hid ((Try.prog.info? 34).map (·.size) = some (dA (ps d)).toList.length) := Lib.hid (by rw [Array.length_toList]; exact info_d32 hy32)
            have HOY : Hid ((dA (ps d)).all (·.oneCell') = true) := Lib.hid (dA_one _)
            have HZY : Hid ((zeros 32).size = (dA (ps d)).size) := Lib.hid (by rw [hy32]; simp [zeros])
            have HYD := Lib.hid hyd
            have HSD := Lib.hid hsd
            have HS32 := Lib.hid hsz32
            obtain ⟨W1, hW1⟩ : ∃ W1, W1 = (wr.alloc (.cells (zeros 32) 34)).setRow wr.heap.size (dA (ps d)) := ⟨_, rfl⟩
            have hbw : Below wr.heap.size wr W1 := by rw [hW1]; exact below_setRow ((Below.refl _ _).alloc (Nat.le_refl _) _) (Nat.le_refl _) _
            have h15 := heap_alloc_new wr (.cells (zeros 32) 34)
            have HA2 : Hid (W1.heap[wr.heap.size]? = some (.cells (dA (ps d)) 34 (0, 0))) := Lib.hid (by rw [hW1]; exact setRow_heap _ _ _ _ _ _ h15)
            have HX2 := Lib.hid ((hbw.block _ (blk_lt hx6)).trans hx6)
            have HR2 := Lib.hid ((hbw.block _ (blk_lt hr6)).trans hr6)
            have HB2 := Lib.hid (hb.trans (hbw.mono hb.size))
            have H15 := Lib.hid h15
            have HW1 := Lib.hid hW1
            obtain ⟨yd, hydd⟩ : ∃ z, z = dA (ps d) := ⟨_, rfl⟩
            obtain ⟨sd, hsdd⟩ : ∃ z, z = dA (upS k x ps d) := ⟨_, rfl⟩
            have hxa : yd.toList.toArray = yd := by simp
            obtain ⟨kd, hkd⟩ : ∃ kd, kd = k / 2 ^ d := ⟨_, rfl⟩
            have hkdb : kd ≤ 1024 := by rw [hkd]; exact Nat.le_trans (Nat.div_le_self _ _) (by omega)
            have HKD := Lib.hid hkd
            rw [← hydd] at HRGE HIY HIYL HOY HZY HA2 HW1
            rw [← hsdd] at HIS HX2 HS32
            rw [← hkd]
            have HYDD := Lib.hid hydd
            have HSDD := Lib.hid hsdd
            have hm10' : d ≤ 10 := by omega
            clear hx6 hr6 hb hrg hyd hsd hy32 hsz32 HS32' hW1 hbw h15 hydd hsdd hkd
            by_cases hpar : kd % 2 = 1
            · have hpi : (kd : Int) % 2 = 1 := by omega
              have hpb : (((kd : Int) % 2) == 1) = true := by rw [beq_iff_eq]; omega
              have hpn : (kd % 2 == 1) = true := by rw [beq_iff_eq]; exact hpar
              have HND := Lib.hid (fun W => rnode_any (d + 1) (kd / 2) (ps d) (upS k x ps d) W (by omega) (by omega) HYD.out HSD.out)
              rw [nodeT_doc (d + 1) (kd / 2) _ _ (by omega), Int.natCast_add, Int.natCast_ediv, Int.natCast_one, show ((2 : Nat) : Int) = 2 from rfl, ← HYDD.out, ← HSDD.out] at HND
              obtain ⟨na, hna⟩ : ∃ z, z = digA (nodeT (d + 1) (kd / 2) (ps d) (upS k x ps d)) := ⟨_, rfl⟩
              have hna2 : na.size = 32 := by rw [hna]; unfold digA; rw [rowV_size]
              have HIN := Lib.hid (info_d32 hna2)
              have HON : Hid (na.all (·.oneCell') = true) := Lib.hid (by rw [hna]; exact one_dig _)
              have HZN : Hid (sd.size = na.size) := Lib.hid (by rw [hna2]; exact HS32.out)
              have HNA := Lib.hid hna
              have HUPN : Hid (na = dA (upS k x ps (d + 1))) := Lib.hid (by
                rw [hna, upS]
                have e1 : k / 2 ^ (d + 1) = kd / 2 := by rw [HKD.out, Nat.pow_succ, Nat.div_div_eq_div_mul]
                rw [← HKD.out, e1, if_pos hpar, if_pos hpar]
                rfl)
              rw [← hna] at HND
              clear hna hna2
              go_wp2_with (first
                | (with_reducible refine wpList_load_mid rfl 34 (.tmp 67) rfl bb (oo + d * 32) rfl yd.toList _ HRGE.out Try.underlying34 rfl HIYL.out ?_)
                | (with_reducible refine wpList_store_row rfl 34 (.tmp 13) (.tmp 68) rfl _ _ rfl (by simp [Act.eval, Act.put]) 34 _ H15.out HIY.out HZY.out HOY.out ?_; rw [← HW1.out])
                | (with_reducible refine wpList_load_row rfl 34 (.tmp 13) rfl _ rfl 34 _ _ _ HA2.out Try.underlying34 rfl HIY.out ?_)
                | (with_reducible refine wpList_load_row rfl 34 (.tmp 6) rfl _ rfl 34 _ _ _ HX2.out Try.underlying34 rfl HIS.out ?_))
              refine (HND.out _).mono ?_
              rintro e w5 ⟨rfl, hb5⟩
              have HX5 := Lib.hid ((hb5.block _ (blk_lt HX2.out)).trans HX2.out)
              have HR5 := Lib.hid ((hb5.block _ (blk_lt HR2.out)).trans HR2.out)
              have HB5 := Lib.hid (HB2.out.trans (hb5.mono HB2.out.size))
              clear hb5
              obtain ⟨W6, hW6⟩ : ∃ W6, W6 = w5.setRow w.heap.size na := ⟨_, rfl⟩
              have H9 : Hid (∃ d' : Nat, (Value.int .i64 ((d : Int) + 1)) = .int .i64 (d' : Int) ∧ (Value.int .i64 ((kd : Int) / 2)) = .int .i64 ((k / 2 ^ d' : Nat) : Int) ∧ d' ≤ m ∧ W6.heap[w.heap.size]? = some (.cells (dA (upS k x ps d')) 34 (0, 0)) ∧ W6.heap[r]? = some (.cells da 37 (0, 0)) ∧ Below w.heap.size w W6) := Lib.hid (by
                refine ⟨d + 1, rfl, ?_, hlt, ?_, ?_, ?_⟩
                · have e1 : k / 2 ^ (d + 1) = kd / 2 := by rw [HKD.out, Nat.pow_succ, Nat.div_div_eq_div_mul]
                  rw [e1, Int.natCast_ediv]; rfl
                · rw [hW6, ← HUPN.out]; exact setRow_heap _ _ _ _ _ _ HX5.out
                · rw [hW6]; exact (setRow_other _ _ _ _ (by have := HRG.out; omega)).trans HR5.out
                · rw [hW6]; exact below_setRow HB5.out (Nat.le_refl _) _)
              have HW6 := Lib.hid hW6
              clear hW6
              go_wp2_with (with_reducible refine wpList_store_row rfl 34 (.tmp 6) (.tmp 78) rfl _ _ rfl rfl 34 _ HX5.out HIN.out HZN.out HON.out ?_; rw [← HW6.out])
              go_roundw
              case rel => exact H9.out
              case measure => simp [intOf]; omega
            · have hpi : ¬ (kd : Int) % 2 = 1 := by omega
              have hpb : (((kd : Int) % 2) == 1) = false := by rw [beq_eq_false_iff_ne]; omega
              have hpn : (kd % 2 == 1) = false := by rw [beq_eq_false_iff_ne]; exact hpar
              have HND := Lib.hid (fun W => rnode_any (d + 1) (kd / 2) (upS k x ps d) (ps d) W (by omega) (by omega) HSD.out HYD.out)
              rw [nodeT_doc (d + 1) (kd / 2) _ _ (by omega), Int.natCast_add, Int.natCast_ediv, Int.natCast_one, show ((2 : Nat) : Int) = 2 from rfl, ← HSDD.out, ← HYDD.out] at HND
              obtain ⟨na, hna⟩ : ∃ z, z = digA (nodeT (d + 1) (kd / 2) (upS k x ps d) (ps d)) := ⟨_, rfl⟩
              have hna2 : na.size = 32 := by rw [hna]; unfold digA; rw [rowV_size]
              have HIN := Lib.hid (info_d32 hna2)
              have HON : Hid (na.all (·.oneCell') = true) := Lib.hid (by rw [hna]; exact one_dig _)
              have HZN : Hid (sd.size = na.size) := Lib.hid (by rw [hna2]; exact HS32.out)
              have HNA := Lib.hid hna
              have HUPN : Hid (na = dA (upS k x ps (d + 1))) := Lib.hid (by
                rw [hna, upS]
                have e1 : k / 2 ^ (d + 1) = kd / 2 := by rw [HKD.out, Nat.pow_succ, Nat.div_div_eq_div_mul]
                rw [← HKD.out, e1, if_neg hpar, if_neg hpar]
                rfl)
              rw [← hna] at HND
              clear hna hna2
              go_wp2_with (first
                | (with_reducible refine wpList_load_mid rfl 34 (.tmp 67) rfl bb (oo + d * 32) rfl yd.toList _ HRGE.out Try.underlying34 rfl HIYL.out ?_)
                | (with_reducible refine wpList_store_row rfl 34 (.tmp 13) (.tmp 68) rfl _ _ rfl (by simp [Act.eval, Act.put]) 34 _ H15.out HIY.out HZY.out HOY.out ?_; rw [← HW1.out])
                | (with_reducible refine wpList_load_row rfl 34 (.tmp 13) rfl _ rfl 34 _ _ _ HA2.out Try.underlying34 rfl HIY.out ?_)
                | (with_reducible refine wpList_load_row rfl 34 (.tmp 6) rfl _ rfl 34 _ _ _ HX2.out Try.underlying34 rfl HIS.out ?_))
              refine (HND.out _).mono ?_
              rintro e w5 ⟨rfl, hb5⟩
              have HX5 := Lib.hid ((hb5.block _ (blk_lt HX2.out)).trans HX2.out)
              have HR5 := Lib.hid ((hb5.block _ (blk_lt HR2.out)).trans HR2.out)
              have HB5 := Lib.hid (HB2.out.trans (hb5.mono HB2.out.size))
              clear hb5
              obtain ⟨W6, hW6⟩ : ∃ W6, W6 = w5.setRow w.heap.size na := ⟨_, rfl⟩
              have H9 : Hid (∃ d' : Nat, (Value.int .i64 ((d : Int) + 1)) = .int .i64 (d' : Int) ∧ (Value.int .i64 ((kd : Int) / 2)) = .int .i64 ((k / 2 ^ d' : Nat) : Int) ∧ d' ≤ m ∧ W6.heap[w.heap.size]? = some (.cells (dA (upS k x ps d')) 34 (0, 0)) ∧ W6.heap[r]? = some (.cells da 37 (0, 0)) ∧ Below w.heap.size w W6) := Lib.hid (by
                refine ⟨d + 1, rfl, ?_, hlt, ?_, ?_, ?_⟩
                · have e1 : k / 2 ^ (d + 1) = kd / 2 := by rw [HKD.out, Nat.pow_succ, Nat.div_div_eq_div_mul]
                  rw [e1, Int.natCast_ediv]; rfl
                · rw [hW6, ← HUPN.out]; exact setRow_heap _ _ _ _ _ _ HX5.out
                · rw [hW6]; exact (setRow_other _ _ _ _ (by have := HRG.out; omega)).trans HR5.out
                · rw [hW6]; exact below_setRow HB5.out (Nat.le_refl _) _)
              have HW6 := Lib.hid hW6
              clear hW6
              go_wp2_with (with_reducible refine wpList_store_row rfl 34 (.tmp 6) (.tmp 85) rfl _ _ rfl rfl 34 _ HX5.out HIN.out HZN.out HON.out ?_; rw [← HW6.out])
              go_roundw
              case rel => exact H9.out
              case measure => simp [intOf]; omega
          · obtain rfl : d = m := by omega
            have HTOP := Lib.hid (fun W => rtop_any n (upS k x ps d) W (by omega) hsd)
            obtain ⟨xm, hxm⟩ : ∃ z, z = dA (upS k x ps d) := ⟨_, rfl⟩
            rw [← hxm, ← HDA.out] at HTOP
            rw [← hxm] at HIS hx6
            have HIM := Lib.hid HIS.out
            have HXM := Lib.hid hx6
            have HRM := Lib.hid hr6
            have HBM := Lib.hid hb
            clear hx6 hr6 hb hsd hsz32 HS32' hxm
            go_upto_region 15 with (fail)
            refine wp_region_F (S := (fun W : World => W.heap[w.heap.size]? = some (.cells xm 34 (0, 0)) ∧ W.heap[r]? = some (.cells da 37 (0, 0)) ∧ Below wr.heap.size wr W)) [] (by kernel_rfl) (⟨HXM.out, HRM.out, (Below.refl _ _).drew⟩) (fun hHeld => ?_)
            refine wpAnyF_take (i := 0) (oi := _) (v := ?_) rfl (by kernel_rfl) (by kernel_rfl) (by kernel_rfl) (by kernel_rfl) (fun _ _ _ h => h) (Or.inl ⟨by rfl, ?_⟩) (by assumption) ?_
            rotate_left 1
            · intro w hSw
              (try dsimp only at hSw)
              (first | (go_simp; done) | (go_simp; with_reducible rfl))
            (try simp only [Act.put, List.getElem_toArray, List.getElem_cons_succ, List.getElem_cons_zero, List.setIfInBounds_toArray, List.set_cons_zero, List.set_cons_succ])
            refine wpAnyF_take (i := 1) (oi := _) (v := ?_) rfl (by kernel_rfl) (by kernel_rfl) (by kernel_rfl) (by kernel_rfl) (fun _ _ _ h => h) (Or.inl ⟨by rfl, ?_⟩) (by assumption) ?_
            rotate_left 1
            · intro w hSw
              (try dsimp only at hSw)
              (first | (go_simp; done) | (go_simp; with_reducible rfl))
            (try simp only [Act.put, List.getElem_toArray, List.getElem_cons_succ, List.getElem_cons_zero, List.setIfInBounds_toArray, List.set_cons_zero, List.set_cons_succ])
            refine wpAnyF_take (i := 2) (oi := _) (v := ?_) rfl (by kernel_rfl) (by kernel_rfl) (by kernel_rfl) (by kernel_rfl) (fun _ _ _ h => h) (Or.inl ⟨by rfl, ?_⟩) (by assumption) ?_
            rotate_left 1
            · intro w hSw
              (try dsimp only at hSw)
              (first | (go_simp; done) | (go_simp; with_reducible rfl))
            (try simp only [Act.put, List.getElem_toArray, List.getElem_cons_succ, List.getElem_cons_zero, List.setIfInBounds_toArray, List.set_cons_zero, List.set_cons_succ])
            refine wpAnyF_take (i := 3) (oi := _) (v := _) rfl (by kernel_rfl) (by kernel_rfl) (by kernel_rfl) (by kernel_rfl) (fun _ _ _ h => h) (yields_rowU (by with_unfolding_all rfl) 37 (.tmp 9) rfl r 0 rfl da _ (fun W h => range_cells h.2.1) Try.underlying37 rfl HIA.out) (by assumption) ?_
            (try simp only [Act.put, List.getElem_toArray, List.getElem_cons_succ, List.getElem_cons_zero, List.setIfInBounds_toArray, List.set_cons_zero, List.set_cons_succ])
            refine wpAnyF_take (i := 4) (oi := _) (v := ?_) rfl (by kernel_rfl) (by kernel_rfl) (by kernel_rfl) (by kernel_rfl) (fun _ _ _ h => h) (Or.inl ⟨by rfl, ?_⟩) (by assumption) ?_
            rotate_left 1
            · intro w hSw
              (try dsimp only at hSw)
              (first | (go_simp; done) | (go_simp; with_reducible rfl))
            (try simp only [Act.put, List.getElem_toArray, List.getElem_cons_succ, List.getElem_cons_zero, List.setIfInBounds_toArray, List.set_cons_zero, List.set_cons_succ])
            refine wpAnyF_take (i := 5) (oi := _) (v := _) rfl (by kernel_rfl) (by kernel_rfl) (by kernel_rfl) (by kernel_rfl) (fun _ _ _ h => h) (yields_rowU (by with_unfolding_all rfl) 34 (.tmp 6) rfl w.heap.size 0 rfl xm _ (fun W h => range_cells h.1) Try.underlying34 rfl HIM.out) (by assumption) ?_
            (try simp only [Act.put, List.getElem_toArray, List.getElem_cons_succ, List.getElem_cons_zero, List.setIfInBounds_toArray, List.set_cons_zero, List.set_cons_succ])
            refine wpAnyF_ready (rs := [6]) (by kernel_rfl) (by simp) ?_
            refine AllReadyF.cons (o := _) rfl (fun K hK => ?_) AllReadyF.nil
            go_simp
            (go_at_call 17)
            refine (HTOP.out _).mono ?_
            rintro e w11 ⟨rfl, hb11⟩
            refine hK.out _ _ (⟨(hb11.block _ (blk_lt hHeld.1)).trans hHeld.1, (hb11.block _ (blk_lt hHeld.2.1)).trans hHeld.2.1, hHeld.2.2.trans (hb11.mono hHeld.2.2.size)⟩) (fun hHeld6 => ?_)
            clear hK K
            (try simp only [Act.put, List.getElem_toArray, List.getElem_cons_succ, List.getElem_cons_zero, List.setIfInBounds_toArray, List.set_cons_zero, List.set_cons_succ])
            refine wpAnyF_take (i := 7) (oi := _) (v := _) rfl (by kernel_rfl) (by kernel_rfl) (by kernel_rfl) (by kernel_rfl) (fun _ _ _ h => h) (.inl ⟨by with_unfolding_all rfl, fun w h => exec_bin .eql 37 37 (.tmp 92) (.tmp 95) rfl (.agg da) (.agg da) (.bool true) rfl rfl (bk_guard _ _ _ _ _) (HEQ.out w)⟩) (by assumption) ?_
            (try simp only [Act.put, List.getElem_toArray, List.getElem_cons_succ, List.getElem_cons_zero, List.setIfInBounds_toArray, List.set_cons_zero, List.set_cons_succ])
            refine wpAnyF_take (i := 8) (oi := _) (v := ?_) rfl (by kernel_rfl) (by kernel_rfl) (by kernel_rfl) (by kernel_rfl) (fun _ _ _ h => h) (Or.inl ⟨by rfl, ?_⟩) (by assumption) ?_
            rotate_left 1
            · intro w hSw
              (try dsimp only at hSw)
              (first | (go_simp; done) | (go_simp; with_reducible rfl))
            (try simp only [Act.put, List.getElem_toArray, List.getElem_cons_succ, List.getElem_cons_zero, List.setIfInBounds_toArray, List.set_cons_zero, List.set_cons_succ])
            refine wpAnyF_take (i := 9) (oi := _) (v := ?_) rfl (by kernel_rfl) (by kernel_rfl) (by kernel_rfl) (by kernel_rfl) (fun _ _ _ h => h) (Or.inl ⟨by rfl, ?_⟩) (by assumption) ?_
            rotate_left 1
            · intro w hSw
              (try dsimp only at hSw)
              (first | (go_simp; done) | (go_simp; with_reducible rfl))
            (try simp only [Act.put, List.getElem_toArray, List.getElem_cons_succ, List.getElem_cons_zero, List.setIfInBounds_toArray, List.set_cons_zero, List.set_cons_succ])
            refine wpAnyF_ready (rs := [10]) (by kernel_rfl) (by simp) ?_
            refine AllReadyF.cons (o := _) rfl (fun K hK => ?_) AllReadyF.nil
            go_simp
            refine (awake12_any _).mono ?_
            rintro e w12 ⟨rfl, hb12⟩
            refine hK.out _ _ (⟨(hb12.block _ (blk_lt hHeld6.1)).trans hHeld6.1, (hb12.block _ (blk_lt hHeld6.2.1)).trans hHeld6.2.1, hHeld6.2.2.trans (hb12.mono hHeld6.2.2.size)⟩) (fun hHeld10 => ?_)
            clear hK K
            (try simp only [Act.put, List.getElem_toArray, List.getElem_cons_succ, List.getElem_cons_zero, List.setIfInBounds_toArray, List.set_cons_zero, List.set_cons_succ])
            refine wpAnyF_take (i := 11) (oi := _) (v := ?_) rfl (by kernel_rfl) (by kernel_rfl) (by kernel_rfl) (by kernel_rfl) (fun _ _ _ h => h) (Or.inl ⟨by rfl, ?_⟩) (by assumption) ?_
            rotate_left 1
            · intro w hSw
              (try dsimp only at hSw)
              (first | (go_simp; done) | (go_simp; with_reducible rfl))
            (try simp only [Act.put, List.getElem_toArray, List.getElem_cons_succ, List.getElem_cons_zero, List.setIfInBounds_toArray, List.set_cons_zero, List.set_cons_succ])
            refine wpAnyF_ready (rs := [12]) (by kernel_rfl) (by simp) ?_
            refine AllReadyF.cons (o := _) rfl (fun K hK => ?_) AllReadyF.nil
            go_simp
            refine hK.out _ _ (by assumption) (fun hHeld12 => ?_)
            clear hK K
            (try simp only [Act.put, List.getElem_toArray, List.getElem_cons_succ, List.getElem_cons_zero, List.setIfInBounds_toArray, List.set_cons_zero, List.set_cons_succ])
            refine wpAnyF_done (by kernel_rfl) ?_ _
            have HB12 := Lib.hid (HBM.out.trans (hHeld12.2.2.mono HBM.out.size))
            clear hHeld hHeld6 hHeld10 hHeld12 hb11 hb12
            go_wp2_with fail
            go_ret
            exact ⟨rfl, HB12.out⟩
    · go_simp
      refine hK.out _ _ (HK.out _ ((hHeld0.2).alloc (Nat.le_trans HSZ.out hHeld0.2.size) _)) (fun hHeld10 => ?_)
      clear hK K
      (try simp only [Act.put, List.getElem_toArray, List.getElem_cons_succ, List.getElem_cons_zero, List.setIfInBounds_toArray, List.set_cons_zero, List.set_cons_succ])
      have hr := heap_alloc_new w1 (.cells (zeros 32) 37)
      have hbn : Below w1.heap.size w1 (w1.alloc (.cells (zeros 32) 37)) := (Below.refl _ _).alloc (Nat.le_refl _) _
      have HBK10 := Lib.hid (HBK0.out.below hbn)
      have hrb : B ≤ w1.heap.size := (Nat.le_trans HSZ.out hHeld0.2.size)
      have hrs : ¬ S w1.heap.size := fun z => by have := HBK0.out.sub z; omega
      clear hbn
      obtain ⟨V, hV⟩ : ∃ V, V = w1.alloc (.cells (zeros 32) 37) := ⟨_, rfl⟩
      rw [← hV] at hr hHeld10 ⊢
      rw [← hV] at HBK10
      obtain ⟨r, hrr⟩ : ∃ r, r = w1.heap.size := ⟨_, rfl⟩
      rw [← hrr] at hr hrb ⊢
      rw [← hrr] at hrs
      have HRS := Lib.hid hrs
      clear hrs
      have HR10 := Lib.hid hr
      have HRB := Lib.hid hrb
      clear hV hrr hr hrb
      refine wpAnyF_ready (rs := [5]) (by kernel_rfl) (by simp) ?_
      refine AllReadyF.cons (o := _) rfl (fun K hK => ?_) AllReadyF.nil
      go_simp
      (go_at_call 9)
      refine (digests_new m c A ps _ (HDS.out.below (HB0.out.trans (hHeld10.2.mono (by have := HKW.out; omega)))) (by omega)).mono ?_
      rintro e w2 ⟨A2, c2, rfl, hc2, hd2, hbn, hnew⟩
      refine hK.out _ _ (HK.out _ (hHeld10.2.trans (hbn.mono (Nat.le_trans HSZ.out hHeld10.2.size)))) (fun hHeld5 => ?_)
      clear hK K
      (try simp only [Act.put, List.getElem_toArray, List.getElem_cons_succ, List.getElem_cons_zero, List.setIfInBounds_toArray, List.set_cons_zero, List.set_cons_succ])
      have HBK5 := Lib.hid (HBK10.out.below hbn)
      have HD5 := Lib.hid hd2
      have HC2 := Lib.hid hc2
      have HOFF : Hid (∀ ad, A2 = some ad → ¬ S ad.block) := Lib.hid (fun ad e z => by have h1 := hnew ad e; have h2 := HBK10.out.sub z; omega)
      have HR5 := Lib.hid ((hbn.block _ (blk_lt HR10.out)).trans HR10.out)
      clear hd2 hc2 hbn hnew
      refine wpAnyF_ready (rs := [6]) (by kernel_rfl) (by simp) ?_
      refine AllReadyF.cons (o := _) rfl (fun K hK => ?_) AllReadyF.nil
      go_simp
      (go_at_call 15)
      refine (HUP.out b g c2 A2 S _ HBK5.out HD5.out HOFF.out HC2.out).mono ?_
      rintro e w3 ⟨he, ht, hbk'⟩
      rw [← HDA.out] at he
      subst he
      refine hK.out _ _ (HK.out _ (hHeld5.2.trans (ht.below (Nat.le_trans HSZ.out hHeld5.2.size) (fun j hj => HS.out j hj)))) (fun hHeld6 => ?_)
      clear hK K
      (try simp only [Act.put, List.getElem_toArray, List.getElem_cons_succ, List.getElem_cons_zero, List.setIfInBounds_toArray, List.set_cons_zero, List.set_cons_succ])
      have HR6 := Lib.hid (turnsU ht HRS.out HR5.out)
      clear ht hbk'
      refine wpAnyF_take (i := 7) (oi := _) (v := ?_) rfl (by kernel_rfl) (by kernel_rfl) (by kernel_rfl) (by kernel_rfl) (fun _ _ _ h => h) (Or.inl ⟨by rfl, ?_⟩) (by assumption) ?_
      rotate_left 1
      · intro w hSw
        (try dsimp only at hSw)
        (first | (go_simp; done) | (go_simp; with_reducible rfl))
      (try simp only [Act.put, List.getElem_toArray, List.getElem_cons_succ, List.getElem_cons_zero, List.setIfInBounds_toArray, List.set_cons_zero, List.set_cons_succ])
      refine wpAnyF_take (i := 8) (oi := _) (v := ?_) rfl (by kernel_rfl) (by kernel_rfl) (by kernel_rfl) (by kernel_rfl) (fun _ _ _ h => h) (Or.inl ⟨by rfl, ?_⟩) (by assumption) ?_
      rotate_left 1
      · intro w hSw
        (try dsimp only at hSw)
        (first | (go_simp; done) | (go_simp; with_reducible rfl))
      (try simp only [Act.put, List.getElem_toArray, List.getElem_cons_succ, List.getElem_cons_zero, List.setIfInBounds_toArray, List.set_cons_zero, List.set_cons_succ])
      refine wpAnyF_take (i := 9) (oi := _) (v := ?_) rfl (by kernel_rfl) (by kernel_rfl) (by kernel_rfl) (by kernel_rfl) (fun _ _ _ h => h) (Or.inl ⟨by rfl, ?_⟩) (by assumption) ?_
      rotate_left 1
      · intro w hSw
        (try dsimp only at hSw)
        (first | (go_simp; done) | (go_simp; with_reducible rfl))
      (try simp only [Act.put, List.getElem_toArray, List.getElem_cons_succ, List.getElem_cons_zero, List.setIfInBounds_toArray, List.set_cons_zero, List.set_cons_succ])
      refine wpAnyF_ready (rs := [11]) (by kernel_rfl) (by simp) ?_
      refine AllReadyF.cons (o := _) rfl (fun K hK => ?_) AllReadyF.nil
      rw [if_pos (by kernel_rfl)]
      refine wp_store_row 37 (.tmp 9) (.tmp 27) rfl r da rfl rfl _ (zeros 32) HR6.out HIA.out HZA.out HOA.out ?_
      refine hK.out _ _ (HK.out _ (below_setRow hHeld6.2 HRB.out _)) (fun hHeld11 => ?_)
      clear hK K
      (try simp only [Act.put, List.getElem_toArray, List.getElem_cons_succ, List.getElem_cons_zero, List.setIfInBounds_toArray, List.set_cons_zero, List.set_cons_succ])
      refine wpAnyF_ready (rs := [12]) (by kernel_rfl) (by simp) ?_
      refine AllReadyF.cons (o := _) rfl (fun K hK => ?_) AllReadyF.nil
      go_simp
      refine hK.out _ _ (by assumption) (fun hHeld12 => ?_)
      clear hK K
      (try simp only [Act.put, List.getElem_toArray, List.getElem_cons_succ, List.getElem_cons_zero, List.setIfInBounds_toArray, List.set_cons_zero, List.set_cons_succ])
      refine wpAnyF_done (by kernel_rfl) ?_ _
      have hrf := setRow_heap w3 r (zeros 32) da _ _ HR6.out
      obtain ⟨VF, hVF⟩ : ∃ VF, VF = w3.setRow r da := ⟨_, rfl⟩
      rw [← hVF] at hrf hHeld11 ⊢
      have HRF := Lib.hid hrf
      have HPF := Lib.hid hHeld11.1
      have HWF : Hid (Below w.heap.size w VF) := Lib.hid (HB0.out.trans (hHeld11.2.mono (by have := HKW.out; omega)))
      have HRG : Hid (w.heap.size < r) := Lib.hid (by have := HRB.out; have := HKW.out; omega)
      clear hrf hVF
      go_wp2_with fail
      refine (HRD.out _).mono ?_
      rintro e w' ⟨rfl, rfl⟩
      go_wp2_with fail
      go_loopw [64, 11] (fun iv kv W => ∃ d : Nat, iv = .int .i64 (d : Int) ∧ kv = .int .i64 ((k / 2 ^ d : Nat) : Int) ∧ d ≤ m ∧ W.heap[w.heap.size]? = some (.cells (dA (upS k x ps d)) 34 (0, 0)) ∧ W.heap[r]? = some (.cells da 37 (0, 0)) ∧ Below w.heap.size w W) (fun iv _ _ => (m - intOf iv).toNat)
      case atStart => exact ⟨0, rfl, by rw [Nat.pow_zero, Nat.div_one], Nat.zero_le _, by rw [upS, ← HXD.out]; exact HPF.out, HRF.out, HWF.out⟩
      case round =>
        obtain ⟨d, rfl, rfl, hd, hx6, hr6, hb⟩ := hrel
        have hsd := upS_dig (k := k) (ps := ps) HX.out d
        have hsz32 : (dA (upS k x ps d)).size = 32 := by rw [rowV_size]
        have HS32' := hsz32
        have HIS := Lib.hid (info_d32 hsz32)
        by_cases hlt : d < m
        · obtain ⟨bb, oo, rfl, hbb, hrg⟩ := HDS.out.1 (by omega)
          have HRGE := Lib.hid (range_of (hb.block bb hbb) (hrg d hlt))
          have hyd := HDS.out.2 d
          have hy32 : (dA (ps d)).size = 32 := by rw [rowV_size]
          have HIY := Lib.hid (info_d32 hy32)
          have HIYL : Hid ((Try.prog.info? 34).map (·.size) = some (dA (ps d)).toList.length) := Lib.hid (by rw [Array.length_toList]; exact info_d32 hy32)
          have HOY : Hid ((dA (ps d)).all (·.oneCell') = true) := Lib.hid (dA_one _)
          have HZY : Hid ((zeros 32).size = (dA (ps d)).size) := Lib.hid (by rw [hy32]; simp [zeros])
          have HYD := Lib.hid hyd
          have HSD := Lib.hid hsd
          have HS32 := Lib.hid hsz32
          obtain ⟨W1, hW1⟩ : ∃ W1, W1 = (wr.alloc (.cells (zeros 32) 34)).setRow wr.heap.size (dA (ps d)) := ⟨_, rfl⟩
          have hbw : Below wr.heap.size wr W1 := by rw [hW1]; exact below_setRow ((Below.refl _ _).alloc (Nat.le_refl _) _) (Nat.le_refl _) _
          have h15 := heap_alloc_new wr (.cells (zeros 32) 34)
          have HA2 : Hid (W1.heap[wr.heap.size]? = some (.cells (dA (ps d)) 34 (0, 0))) := Lib.hid (by rw [hW1]; exact setRow_heap _ _ _ _ _ _ h15)
          have HX2 := Lib.hid ((hbw.block _ (blk_lt hx6)).trans hx6)
          have HR2 := Lib.hid ((hbw.block _ (blk_lt hr6)).trans hr6)
          have HB2 := Lib.hid (hb.trans (hbw.mono hb.size))
          have H15 := Lib.hid h15
          have HW1 := Lib.hid hW1
          obtain ⟨yd, hydd⟩ : ∃ z, z = dA (ps d) := ⟨_, rfl⟩
          obtain ⟨sd, hsdd⟩ : ∃ z, z = dA (upS k x ps d) := ⟨_, rfl⟩
          have hxa : yd.toList.toArray = yd := by simp
          obtain ⟨kd, hkd⟩ : ∃ kd, kd = k / 2 ^ d := ⟨_, rfl⟩
          have hkdb : kd ≤ 1024 := by rw [hkd]; exact Nat.le_trans (Nat.div_le_self _ _) (by omega)
          have HKD := Lib.hid hkd
          rw [← hydd] at HRGE HIY HIYL HOY HZY HA2 HW1
          rw [← hsdd] at HIS HX2 HS32
          rw [← hkd]
          have HYDD := Lib.hid hydd
          have HSDD := Lib.hid hsdd
          have hm10' : d ≤ 10 := by omega
          clear hx6 hr6 hb hrg hyd hsd hy32 hsz32 HS32' hW1 hbw h15 hydd hsdd hkd
          by_cases hpar : kd % 2 = 1
          · have hpi : (kd : Int) % 2 = 1 := by omega
            have hpb : (((kd : Int) % 2) == 1) = true := by rw [beq_iff_eq]; omega
            have hpn : (kd % 2 == 1) = true := by rw [beq_iff_eq]; exact hpar
            have HND := Lib.hid (fun W => rnode_any (d + 1) (kd / 2) (ps d) (upS k x ps d) W (by omega) (by omega) HYD.out HSD.out)
            rw [nodeT_doc (d + 1) (kd / 2) _ _ (by omega), Int.natCast_add, Int.natCast_ediv, Int.natCast_one, show ((2 : Nat) : Int) = 2 from rfl, ← HYDD.out, ← HSDD.out] at HND
            obtain ⟨na, hna⟩ : ∃ z, z = digA (nodeT (d + 1) (kd / 2) (ps d) (upS k x ps d)) := ⟨_, rfl⟩
            have hna2 : na.size = 32 := by rw [hna]; unfold digA; rw [rowV_size]
            have HIN := Lib.hid (info_d32 hna2)
            have HON : Hid (na.all (·.oneCell') = true) := Lib.hid (by rw [hna]; exact one_dig _)
            have HZN : Hid (sd.size = na.size) := Lib.hid (by rw [hna2]; exact HS32.out)
            have HNA := Lib.hid hna
            have HUPN : Hid (na = dA (upS k x ps (d + 1))) := Lib.hid (by
              rw [hna, upS]
              have e1 : k / 2 ^ (d + 1) = kd / 2 := by rw [HKD.out, Nat.pow_succ, Nat.div_div_eq_div_mul]
              rw [← HKD.out, e1, if_pos hpar, if_pos hpar]
              rfl)
            rw [← hna] at HND
            clear hna hna2
            go_wp2_with (first
              | (with_reducible refine wpList_load_mid rfl 34 (.tmp 67) rfl bb (oo + d * 32) rfl yd.toList _ HRGE.out Try.underlying34 rfl HIYL.out ?_)
              | (with_reducible refine wpList_store_row rfl 34 (.tmp 13) (.tmp 68) rfl _ _ rfl (by simp [Act.eval, Act.put]) 34 _ H15.out HIY.out HZY.out HOY.out ?_; rw [← HW1.out])
              | (with_reducible refine wpList_load_row rfl 34 (.tmp 13) rfl _ rfl 34 _ _ _ HA2.out Try.underlying34 rfl HIY.out ?_)
              | (with_reducible refine wpList_load_row rfl 34 (.tmp 6) rfl _ rfl 34 _ _ _ HX2.out Try.underlying34 rfl HIS.out ?_))
            refine (HND.out _).mono ?_
            rintro e w5 ⟨rfl, hb5⟩
            have HX5 := Lib.hid ((hb5.block _ (blk_lt HX2.out)).trans HX2.out)
            have HR5 := Lib.hid ((hb5.block _ (blk_lt HR2.out)).trans HR2.out)
            have HB5 := Lib.hid (HB2.out.trans (hb5.mono HB2.out.size))
            clear hb5
            obtain ⟨W6, hW6⟩ : ∃ W6, W6 = w5.setRow w.heap.size na := ⟨_, rfl⟩
            have H9 : Hid (∃ d' : Nat, (Value.int .i64 ((d : Int) + 1)) = .int .i64 (d' : Int) ∧ (Value.int .i64 ((kd : Int) / 2)) = .int .i64 ((k / 2 ^ d' : Nat) : Int) ∧ d' ≤ m ∧ W6.heap[w.heap.size]? = some (.cells (dA (upS k x ps d')) 34 (0, 0)) ∧ W6.heap[r]? = some (.cells da 37 (0, 0)) ∧ Below w.heap.size w W6) := Lib.hid (by
              refine ⟨d + 1, rfl, ?_, hlt, ?_, ?_, ?_⟩
              · have e1 : k / 2 ^ (d + 1) = kd / 2 := by rw [HKD.out, Nat.pow_succ, Nat.div_div_eq_div_mul]
                rw [e1, Int.natCast_ediv]; rfl
              · rw [hW6, ← HUPN.out]; exact setRow_heap _ _ _ _ _ _ HX5.out
              · rw [hW6]; exact (setRow_other _ _ _ _ (by have := HRG.out; omega)).trans HR5.out
              · rw [hW6]; exact below_setRow HB5.out (Nat.le_refl _) _)
            have HW6 := Lib.hid hW6
            clear hW6
            go_wp2_with (with_reducible refine wpList_store_row rfl 34 (.tmp 6) (.tmp 78) rfl _ _ rfl rfl 34 _ HX5.out HIN.out HZN.out HON.out ?_; rw [← HW6.out])
            go_roundw
            case rel => exact H9.out
            case measure => simp [intOf]; omega
          · have hpi : ¬ (kd : Int) % 2 = 1 := by omega
            have hpb : (((kd : Int) % 2) == 1) = false := by rw [beq_eq_false_iff_ne]; omega
            have hpn : (kd % 2 == 1) = false := by rw [beq_eq_false_iff_ne]; exact hpar
            have HND := Lib.hid (fun W => rnode_any (d + 1) (kd / 2) (upS k x ps d) (ps d) W (by omega) (by omega) HSD.out HYD.out)
            rw [nodeT_doc (d + 1) (kd / 2) _ _ (by omega), Int.natCast_add, Int.natCast_ediv, Int.natCast_one, show ((2 : Nat) : Int) = 2 from rfl, ← HSDD.out, ← HYDD.out] at HND
            obtain ⟨na, hna⟩ : ∃ z, z = digA (nodeT (d + 1) (kd / 2) (upS k x ps d) (ps d)) := ⟨_, rfl⟩
            have hna2 : na.size = 32 := by rw [hna]; unfold digA; rw [rowV_size]
            have HIN := Lib.hid (info_d32 hna2)
            have HON : Hid (na.all (·.oneCell') = true) := Lib.hid (by rw [hna]; exact one_dig _)
            have HZN : Hid (sd.size = na.size) := Lib.hid (by rw [hna2]; exact HS32.out)
            have HNA := Lib.hid hna
            have HUPN : Hid (na = dA (upS k x ps (d + 1))) := Lib.hid (by
              rw [hna, upS]
              have e1 : k / 2 ^ (d + 1) = kd / 2 := by rw [HKD.out, Nat.pow_succ, Nat.div_div_eq_div_mul]
              rw [← HKD.out, e1, if_neg hpar, if_neg hpar]
              rfl)
            rw [← hna] at HND
            clear hna hna2
            go_wp2_with (first
              | (with_reducible refine wpList_load_mid rfl 34 (.tmp 67) rfl bb (oo + d * 32) rfl yd.toList _ HRGE.out Try.underlying34 rfl HIYL.out ?_)
              | (with_reducible refine wpList_store_row rfl 34 (.tmp 13) (.tmp 68) rfl _ _ rfl (by simp [Act.eval, Act.put]) 34 _ H15.out HIY.out HZY.out HOY.out ?_; rw [← HW1.out])
              | (with_reducible refine wpList_load_row rfl 34 (.tmp 13) rfl _ rfl 34 _ _ _ HA2.out Try.underlying34 rfl HIY.out ?_)
              | (with_reducible refine wpList_load_row rfl 34 (.tmp 6) rfl _ rfl 34 _ _ _ HX2.out Try.underlying34 rfl HIS.out ?_))
            refine (HND.out _).mono ?_
            rintro e w5 ⟨rfl, hb5⟩
            have HX5 := Lib.hid ((hb5.block _ (blk_lt HX2.out)).trans HX2.out)
            have HR5 := Lib.hid ((hb5.block _ (blk_lt HR2.out)).trans HR2.out)
            have HB5 := Lib.hid (HB2.out.trans (hb5.mono HB2.out.size))
            clear hb5
            obtain ⟨W6, hW6⟩ : ∃ W6, W6 = w5.setRow w.heap.size na := ⟨_, rfl⟩
            have H9 : Hid (∃ d' : Nat, (Value.int .i64 ((d : Int) + 1)) = .int .i64 (d' : Int) ∧ (Value.int .i64 ((kd : Int) / 2)) = .int .i64 ((k / 2 ^ d' : Nat) : Int) ∧ d' ≤ m ∧ W6.heap[w.heap.size]? = some (.cells (dA (upS k x ps d')) 34 (0, 0)) ∧ W6.heap[r]? = some (.cells da 37 (0, 0)) ∧ Below w.heap.size w W6) := Lib.hid (by
              refine ⟨d + 1, rfl, ?_, hlt, ?_, ?_, ?_⟩
              · have e1 : k / 2 ^ (d + 1) = kd / 2 := by rw [HKD.out, Nat.pow_succ, Nat.div_div_eq_div_mul]
                rw [e1, Int.natCast_ediv]; rfl
              · rw [hW6, ← HUPN.out]; exact setRow_heap _ _ _ _ _ _ HX5.out
              · rw [hW6]; exact (setRow_other _ _ _ _ (by have := HRG.out; omega)).trans HR5.out
              · rw [hW6]; exact below_setRow HB5.out (Nat.le_refl _) _)
            have HW6 := Lib.hid hW6
            clear hW6
            go_wp2_with (with_reducible refine wpList_store_row rfl 34 (.tmp 6) (.tmp 85) rfl _ _ rfl rfl 34 _ HX5.out HIN.out HZN.out HON.out ?_; rw [← HW6.out])
            go_roundw
            case rel => exact H9.out
            case measure => simp [intOf]; omega
        · obtain rfl : d = m := by omega
          have HTOP := Lib.hid (fun W => rtop_any n (upS k x ps d) W (by omega) hsd)
          obtain ⟨xm, hxm⟩ : ∃ z, z = dA (upS k x ps d) := ⟨_, rfl⟩
          rw [← hxm, ← HDA.out] at HTOP
          rw [← hxm] at HIS hx6
          have HIM := Lib.hid HIS.out
          have HXM := Lib.hid hx6
          have HRM := Lib.hid hr6
          have HBM := Lib.hid hb
          clear hx6 hr6 hb hsd hsz32 HS32' hxm
          go_upto_region 15 with (fail)
          refine wp_region_F (S := (fun W : World => W.heap[w.heap.size]? = some (.cells xm 34 (0, 0)) ∧ W.heap[r]? = some (.cells da 37 (0, 0)) ∧ Below wr.heap.size wr W)) [] (by kernel_rfl) (⟨HXM.out, HRM.out, (Below.refl _ _).drew⟩) (fun hHeld => ?_)
          refine wpAnyF_take (i := 0) (oi := _) (v := ?_) rfl (by kernel_rfl) (by kernel_rfl) (by kernel_rfl) (by kernel_rfl) (fun _ _ _ h => h) (Or.inl ⟨by rfl, ?_⟩) (by assumption) ?_
          rotate_left 1
          · intro w hSw
            (try dsimp only at hSw)
            (first | (go_simp; done) | (go_simp; with_reducible rfl))
          (try simp only [Act.put, List.getElem_toArray, List.getElem_cons_succ, List.getElem_cons_zero, List.setIfInBounds_toArray, List.set_cons_zero, List.set_cons_succ])
          refine wpAnyF_take (i := 1) (oi := _) (v := ?_) rfl (by kernel_rfl) (by kernel_rfl) (by kernel_rfl) (by kernel_rfl) (fun _ _ _ h => h) (Or.inl ⟨by rfl, ?_⟩) (by assumption) ?_
          rotate_left 1
          · intro w hSw
            (try dsimp only at hSw)
            (first | (go_simp; done) | (go_simp; with_reducible rfl))
          (try simp only [Act.put, List.getElem_toArray, List.getElem_cons_succ, List.getElem_cons_zero, List.setIfInBounds_toArray, List.set_cons_zero, List.set_cons_succ])
          refine wpAnyF_take (i := 2) (oi := _) (v := ?_) rfl (by kernel_rfl) (by kernel_rfl) (by kernel_rfl) (by kernel_rfl) (fun _ _ _ h => h) (Or.inl ⟨by rfl, ?_⟩) (by assumption) ?_
          rotate_left 1
          · intro w hSw
            (try dsimp only at hSw)
            (first | (go_simp; done) | (go_simp; with_reducible rfl))
          (try simp only [Act.put, List.getElem_toArray, List.getElem_cons_succ, List.getElem_cons_zero, List.setIfInBounds_toArray, List.set_cons_zero, List.set_cons_succ])
          refine wpAnyF_take (i := 3) (oi := _) (v := _) rfl (by kernel_rfl) (by kernel_rfl) (by kernel_rfl) (by kernel_rfl) (fun _ _ _ h => h) (yields_rowU (by with_unfolding_all rfl) 37 (.tmp 9) rfl r 0 rfl da _ (fun W h => range_cells h.2.1) Try.underlying37 rfl HIA.out) (by assumption) ?_
          (try simp only [Act.put, List.getElem_toArray, List.getElem_cons_succ, List.getElem_cons_zero, List.setIfInBounds_toArray, List.set_cons_zero, List.set_cons_succ])
          refine wpAnyF_take (i := 4) (oi := _) (v := ?_) rfl (by kernel_rfl) (by kernel_rfl) (by kernel_rfl) (by kernel_rfl) (fun _ _ _ h => h) (Or.inl ⟨by rfl, ?_⟩) (by assumption) ?_
          rotate_left 1
          · intro w hSw
            (try dsimp only at hSw)
            (first | (go_simp; done) | (go_simp; with_reducible rfl))
          (try simp only [Act.put, List.getElem_toArray, List.getElem_cons_succ, List.getElem_cons_zero, List.setIfInBounds_toArray, List.set_cons_zero, List.set_cons_succ])
          refine wpAnyF_take (i := 5) (oi := _) (v := _) rfl (by kernel_rfl) (by kernel_rfl) (by kernel_rfl) (by kernel_rfl) (fun _ _ _ h => h) (yields_rowU (by with_unfolding_all rfl) 34 (.tmp 6) rfl w.heap.size 0 rfl xm _ (fun W h => range_cells h.1) Try.underlying34 rfl HIM.out) (by assumption) ?_
          (try simp only [Act.put, List.getElem_toArray, List.getElem_cons_succ, List.getElem_cons_zero, List.setIfInBounds_toArray, List.set_cons_zero, List.set_cons_succ])
          refine wpAnyF_ready (rs := [6]) (by kernel_rfl) (by simp) ?_
          refine AllReadyF.cons (o := _) rfl (fun K hK => ?_) AllReadyF.nil
          go_simp
          (go_at_call 17)
          refine (HTOP.out _).mono ?_
          rintro e w11 ⟨rfl, hb11⟩
          refine hK.out _ _ (⟨(hb11.block _ (blk_lt hHeld.1)).trans hHeld.1, (hb11.block _ (blk_lt hHeld.2.1)).trans hHeld.2.1, hHeld.2.2.trans (hb11.mono hHeld.2.2.size)⟩) (fun hHeld6 => ?_)
          clear hK K
          (try simp only [Act.put, List.getElem_toArray, List.getElem_cons_succ, List.getElem_cons_zero, List.setIfInBounds_toArray, List.set_cons_zero, List.set_cons_succ])
          refine wpAnyF_take (i := 7) (oi := _) (v := _) rfl (by kernel_rfl) (by kernel_rfl) (by kernel_rfl) (by kernel_rfl) (fun _ _ _ h => h) (.inl ⟨by with_unfolding_all rfl, fun w h => exec_bin .eql 37 37 (.tmp 92) (.tmp 95) rfl (.agg da) (.agg da) (.bool true) rfl rfl (bk_guard _ _ _ _ _) (HEQ.out w)⟩) (by assumption) ?_
          (try simp only [Act.put, List.getElem_toArray, List.getElem_cons_succ, List.getElem_cons_zero, List.setIfInBounds_toArray, List.set_cons_zero, List.set_cons_succ])
          refine wpAnyF_take (i := 8) (oi := _) (v := ?_) rfl (by kernel_rfl) (by kernel_rfl) (by kernel_rfl) (by kernel_rfl) (fun _ _ _ h => h) (Or.inl ⟨by rfl, ?_⟩) (by assumption) ?_
          rotate_left 1
          · intro w hSw
            (try dsimp only at hSw)
            (first | (go_simp; done) | (go_simp; with_reducible rfl))
          (try simp only [Act.put, List.getElem_toArray, List.getElem_cons_succ, List.getElem_cons_zero, List.setIfInBounds_toArray, List.set_cons_zero, List.set_cons_succ])
          refine wpAnyF_take (i := 9) (oi := _) (v := ?_) rfl (by kernel_rfl) (by kernel_rfl) (by kernel_rfl) (by kernel_rfl) (fun _ _ _ h => h) (Or.inl ⟨by rfl, ?_⟩) (by assumption) ?_
          rotate_left 1
          · intro w hSw
            (try dsimp only at hSw)
            (first | (go_simp; done) | (go_simp; with_reducible rfl))
          (try simp only [Act.put, List.getElem_toArray, List.getElem_cons_succ, List.getElem_cons_zero, List.setIfInBounds_toArray, List.set_cons_zero, List.set_cons_succ])
          refine wpAnyF_ready (rs := [10]) (by kernel_rfl) (by simp) ?_
          refine AllReadyF.cons (o := _) rfl (fun K hK => ?_) AllReadyF.nil
          go_simp
          refine (awake12_any _).mono ?_
          rintro e w12 ⟨rfl, hb12⟩
          refine hK.out _ _ (⟨(hb12.block _ (blk_lt hHeld6.1)).trans hHeld6.1, (hb12.block _ (blk_lt hHeld6.2.1)).trans hHeld6.2.1, hHeld6.2.2.trans (hb12.mono hHeld6.2.2.size)⟩) (fun hHeld10 => ?_)
          clear hK K
          (try simp only [Act.put, List.getElem_toArray, List.getElem_cons_succ, List.getElem_cons_zero, List.setIfInBounds_toArray, List.set_cons_zero, List.set_cons_succ])
          refine wpAnyF_take (i := 11) (oi := _) (v := ?_) rfl (by kernel_rfl) (by kernel_rfl) (by kernel_rfl) (by kernel_rfl) (fun _ _ _ h => h) (Or.inl ⟨by rfl, ?_⟩) (by assumption) ?_
          rotate_left 1
          · intro w hSw
            (try dsimp only at hSw)
            (first | (go_simp; done) | (go_simp; with_reducible rfl))
          (try simp only [Act.put, List.getElem_toArray, List.getElem_cons_succ, List.getElem_cons_zero, List.setIfInBounds_toArray, List.set_cons_zero, List.set_cons_succ])
          refine wpAnyF_ready (rs := [12]) (by kernel_rfl) (by simp) ?_
          refine AllReadyF.cons (o := _) rfl (fun K hK => ?_) AllReadyF.nil
          go_simp
          refine hK.out _ _ (by assumption) (fun hHeld12 => ?_)
          clear hK K
          (try simp only [Act.put, List.getElem_toArray, List.getElem_cons_succ, List.getElem_cons_zero, List.setIfInBounds_toArray, List.set_cons_zero, List.set_cons_succ])
          refine wpAnyF_done (by kernel_rfl) ?_ _
          have HB12 := Lib.hid (HBM.out.trans (hHeld12.2.2.mono HBM.out.size))
          clear hHeld hHeld6 hHeld10 hHeld12 hb11 hb12
          go_wp2_with fail
          go_ret
          exact ⟨rfl, HB12.out⟩
  · go_simp
    refine hK.out _ _ (HK.out _ ((hHeld.2).alloc (Nat.le_trans HSZ.out hHeld.2.size) _)) (fun hHeld10 => ?_)
    clear hK K
    (try simp only [Act.put, List.getElem_toArray, List.getElem_cons_succ, List.getElem_cons_zero, List.setIfInBounds_toArray, List.set_cons_zero, List.set_cons_succ])
    have hr := heap_alloc_new W0 (.cells (zeros 32) 37)
    have hbn : Below W0.heap.size W0 (W0.alloc (.cells (zeros 32) 37)) := (Below.refl _ _).alloc (Nat.le_refl _) _
    have hrb : B ≤ W0.heap.size := (Nat.le_trans HSZ.out hHeld.2.size)
    clear hbn
    obtain ⟨V, hV⟩ : ∃ V, V = W0.alloc (.cells (zeros 32) 37) := ⟨_, rfl⟩
    rw [← hV] at hr hHeld10 ⊢
    obtain ⟨r, hrr⟩ : ∃ r, r = W0.heap.size := ⟨_, rfl⟩
    rw [← hrr] at hr hrb ⊢
    have HR10 := Lib.hid hr
    have HRB := Lib.hid hrb
    clear hV hrr hr hrb
    refine wpAnyF_ready (rs := [0]) (by kernel_rfl) (by simp) ?_
    refine AllReadyF.cons (o := _) rfl (fun K hK => ?_) AllReadyF.nil
    go_simp
    (go_at_call 8)
    refine (book12_any _).mono ?_
    rintro e w1 ⟨b, g, S, rfl, hbk, hS, hbn⟩
    refine hK.out _ _ (HK.out _ (hHeld10.2.trans (hbn.mono (Nat.le_trans HSZ.out hHeld10.2.size)))) (fun hHeld0 => ?_)
    clear hK K
    (try simp only [Act.put, List.getElem_toArray, List.getElem_cons_succ, List.getElem_cons_zero, List.setIfInBounds_toArray, List.set_cons_zero, List.set_cons_succ])
    have HBK0 := Lib.hid hbk
    have HS : Hid (∀ j, S j → B ≤ j) := Lib.hid (fun j hj => Nat.le_trans (Nat.le_trans HSZ.out hHeld10.2.size) (hS j hj))
    have HR0 := Lib.hid ((hbn.block _ (blk_lt HR10.out)).trans HR10.out)
    have HRS : Hid (¬ S r) := Lib.hid (fun z => by have h1 := hS r z; have h2 := blk_lt HR10.out; exact absurd h1 (Nat.not_le.2 h2))
    clear hbk hS hbn
    refine wpAnyF_ready (rs := [5]) (by kernel_rfl) (by simp) ?_
    refine AllReadyF.cons (o := _) rfl (fun K hK => ?_) AllReadyF.nil
    go_simp
    (go_at_call 9)
    refine (digests_new m c A ps _ (HDS.out.below (HB0.out.trans (hHeld0.2.mono (by have := HKW.out; omega)))) (by omega)).mono ?_
    rintro e w2 ⟨A2, c2, rfl, hc2, hd2, hbn, hnew⟩
    refine hK.out _ _ (HK.out _ (hHeld0.2.trans (hbn.mono (Nat.le_trans HSZ.out hHeld0.2.size)))) (fun hHeld5 => ?_)
    clear hK K
    (try simp only [Act.put, List.getElem_toArray, List.getElem_cons_succ, List.getElem_cons_zero, List.setIfInBounds_toArray, List.set_cons_zero, List.set_cons_succ])
    have HBK5 := Lib.hid (HBK0.out.below hbn)
    have HD5 := Lib.hid hd2
    have HC2 := Lib.hid hc2
    have HOFF : Hid (∀ ad, A2 = some ad → ¬ S ad.block) := Lib.hid (fun ad e z => by have h1 := hnew ad e; have h2 := HBK0.out.sub z; omega)
    have HR5 := Lib.hid ((hbn.block _ (blk_lt HR0.out)).trans HR0.out)
    clear hd2 hc2 hbn hnew
    refine wpAnyF_ready (rs := [6]) (by kernel_rfl) (by simp) ?_
    refine AllReadyF.cons (o := _) rfl (fun K hK => ?_) AllReadyF.nil
    go_simp
    (go_at_call 15)
    refine (HUP.out b g c2 A2 S _ HBK5.out HD5.out HOFF.out HC2.out).mono ?_
    rintro e w3 ⟨he, ht, hbk'⟩
    rw [← HDA.out] at he
    subst he
    refine hK.out _ _ (HK.out _ (hHeld5.2.trans (ht.below (Nat.le_trans HSZ.out hHeld5.2.size) (fun j hj => HS.out j hj)))) (fun hHeld6 => ?_)
    clear hK K
    (try simp only [Act.put, List.getElem_toArray, List.getElem_cons_succ, List.getElem_cons_zero, List.setIfInBounds_toArray, List.set_cons_zero, List.set_cons_succ])
    have HR6 := Lib.hid (turnsU ht HRS.out HR5.out)
    clear ht hbk'
    refine wpAnyF_take (i := 7) (oi := _) (v := ?_) rfl (by kernel_rfl) (by kernel_rfl) (by kernel_rfl) (by kernel_rfl) (fun _ _ _ h => h) (Or.inl ⟨by rfl, ?_⟩) (by assumption) ?_
    rotate_left 1
    · intro w hSw
      (try dsimp only at hSw)
      (first | (go_simp; done) | (go_simp; with_reducible rfl))
    (try simp only [Act.put, List.getElem_toArray, List.getElem_cons_succ, List.getElem_cons_zero, List.setIfInBounds_toArray, List.set_cons_zero, List.set_cons_succ])
    refine wpAnyF_take (i := 8) (oi := _) (v := ?_) rfl (by kernel_rfl) (by kernel_rfl) (by kernel_rfl) (by kernel_rfl) (fun _ _ _ h => h) (Or.inl ⟨by rfl, ?_⟩) (by assumption) ?_
    rotate_left 1
    · intro w hSw
      (try dsimp only at hSw)
      (first | (go_simp; done) | (go_simp; with_reducible rfl))
    (try simp only [Act.put, List.getElem_toArray, List.getElem_cons_succ, List.getElem_cons_zero, List.setIfInBounds_toArray, List.set_cons_zero, List.set_cons_succ])
    refine wpAnyF_take (i := 9) (oi := _) (v := ?_) rfl (by kernel_rfl) (by kernel_rfl) (by kernel_rfl) (by kernel_rfl) (fun _ _ _ h => h) (Or.inl ⟨by rfl, ?_⟩) (by assumption) ?_
    rotate_left 1
    · intro w hSw
      (try dsimp only at hSw)
      (first | (go_simp; done) | (go_simp; with_reducible rfl))
    (try simp only [Act.put, List.getElem_toArray, List.getElem_cons_succ, List.getElem_cons_zero, List.setIfInBounds_toArray, List.set_cons_zero, List.set_cons_succ])
    refine wpAnyF_ready (rs := [11]) (by kernel_rfl) (by simp) ?_
    refine AllReadyF.cons (o := _) rfl (fun K hK => ?_) AllReadyF.nil
    rw [if_pos (by kernel_rfl)]
    refine wp_store_row 37 (.tmp 9) (.tmp 27) rfl r da rfl rfl _ (zeros 32) HR6.out HIA.out HZA.out HOA.out ?_
    refine hK.out _ _ (HK.out _ (below_setRow hHeld6.2 HRB.out _)) (fun hHeld11 => ?_)
    clear hK K
    (try simp only [Act.put, List.getElem_toArray, List.getElem_cons_succ, List.getElem_cons_zero, List.setIfInBounds_toArray, List.set_cons_zero, List.set_cons_succ])
    refine wpAnyF_ready (rs := [12]) (by kernel_rfl) (by simp) ?_
    refine AllReadyF.cons (o := _) rfl (fun K hK => ?_) AllReadyF.nil
    go_simp
    refine hK.out _ _ (by assumption) (fun hHeld12 => ?_)
    clear hK K
    (try simp only [Act.put, List.getElem_toArray, List.getElem_cons_succ, List.getElem_cons_zero, List.setIfInBounds_toArray, List.set_cons_zero, List.set_cons_succ])
    refine wpAnyF_done (by kernel_rfl) ?_ _
    have hrf := setRow_heap w3 r (zeros 32) da _ _ HR6.out
    obtain ⟨VF, hVF⟩ : ∃ VF, VF = w3.setRow r da := ⟨_, rfl⟩
    rw [← hVF] at hrf hHeld11 ⊢
    have HRF := Lib.hid hrf
    have HPF := Lib.hid hHeld11.1
    have HWF : Hid (Below w.heap.size w VF) := Lib.hid (HB0.out.trans (hHeld11.2.mono (by have := HKW.out; omega)))
    have HRG : Hid (w.heap.size < r) := Lib.hid (by have := HRB.out; have := HKW.out; omega)
    clear hrf hVF
    go_wp2_with fail
    refine (HRD.out _).mono ?_
    rintro e w' ⟨rfl, rfl⟩
    go_wp2_with fail
    go_loopw [64, 11] (fun iv kv W => ∃ d : Nat, iv = .int .i64 (d : Int) ∧ kv = .int .i64 ((k / 2 ^ d : Nat) : Int) ∧ d ≤ m ∧ W.heap[w.heap.size]? = some (.cells (dA (upS k x ps d)) 34 (0, 0)) ∧ W.heap[r]? = some (.cells da 37 (0, 0)) ∧ Below w.heap.size w W) (fun iv _ _ => (m - intOf iv).toNat)
    case atStart => exact ⟨0, rfl, by rw [Nat.pow_zero, Nat.div_one], Nat.zero_le _, by rw [upS, ← HXD.out]; exact HPF.out, HRF.out, HWF.out⟩
    case round =>
      obtain ⟨d, rfl, rfl, hd, hx6, hr6, hb⟩ := hrel
      have hsd := upS_dig (k := k) (ps := ps) HX.out d
      have hsz32 : (dA (upS k x ps d)).size = 32 := by rw [rowV_size]
      have HS32' := hsz32
      have HIS := Lib.hid (info_d32 hsz32)
      by_cases hlt : d < m
      · obtain ⟨bb, oo, rfl, hbb, hrg⟩ := HDS.out.1 (by omega)
        have HRGE := Lib.hid (range_of (hb.block bb hbb) (hrg d hlt))
        have hyd := HDS.out.2 d
        have hy32 : (dA (ps d)).size = 32 := by rw [rowV_size]
        have HIY := Lib.hid (info_d32 hy32)
        have HIYL : Hid ((Try.prog.info? 34).map (·.size) = some (dA (ps d)).toList.length) := Lib.hid (by rw [Array.length_toList]; exact info_d32 hy32)
        have HOY : Hid ((dA (ps d)).all (·.oneCell') = true) := Lib.hid (dA_one _)
        have HZY : Hid ((zeros 32).size = (dA (ps d)).size) := Lib.hid (by rw [hy32]; simp [zeros])
        have HYD := Lib.hid hyd
        have HSD := Lib.hid hsd
        have HS32 := Lib.hid hsz32
        obtain ⟨W1, hW1⟩ : ∃ W1, W1 = (wr.alloc (.cells (zeros 32) 34)).setRow wr.heap.size (dA (ps d)) := ⟨_, rfl⟩
        have hbw : Below wr.heap.size wr W1 := by rw [hW1]; exact below_setRow ((Below.refl _ _).alloc (Nat.le_refl _) _) (Nat.le_refl _) _
        have h15 := heap_alloc_new wr (.cells (zeros 32) 34)
        have HA2 : Hid (W1.heap[wr.heap.size]? = some (.cells (dA (ps d)) 34 (0, 0))) := Lib.hid (by rw [hW1]; exact setRow_heap _ _ _ _ _ _ h15)
        have HX2 := Lib.hid ((hbw.block _ (blk_lt hx6)).trans hx6)
        have HR2 := Lib.hid ((hbw.block _ (blk_lt hr6)).trans hr6)
        have HB2 := Lib.hid (hb.trans (hbw.mono hb.size))
        have H15 := Lib.hid h15
        have HW1 := Lib.hid hW1
        obtain ⟨yd, hydd⟩ : ∃ z, z = dA (ps d) := ⟨_, rfl⟩
        obtain ⟨sd, hsdd⟩ : ∃ z, z = dA (upS k x ps d) := ⟨_, rfl⟩
        have hxa : yd.toList.toArray = yd := by simp
        obtain ⟨kd, hkd⟩ : ∃ kd, kd = k / 2 ^ d := ⟨_, rfl⟩
        have hkdb : kd ≤ 1024 := by rw [hkd]; exact Nat.le_trans (Nat.div_le_self _ _) (by omega)
        have HKD := Lib.hid hkd
        rw [← hydd] at HRGE HIY HIYL HOY HZY HA2 HW1
        rw [← hsdd] at HIS HX2 HS32
        rw [← hkd]
        have HYDD := Lib.hid hydd
        have HSDD := Lib.hid hsdd
        have hm10' : d ≤ 10 := by omega
        clear hx6 hr6 hb hrg hyd hsd hy32 hsz32 HS32' hW1 hbw h15 hydd hsdd hkd
        by_cases hpar : kd % 2 = 1
        · have hpi : (kd : Int) % 2 = 1 := by omega
          have hpb : (((kd : Int) % 2) == 1) = true := by rw [beq_iff_eq]; omega
          have hpn : (kd % 2 == 1) = true := by rw [beq_iff_eq]; exact hpar
          have HND := Lib.hid (fun W => rnode_any (d + 1) (kd / 2) (ps d) (upS k x ps d) W (by omega) (by omega) HYD.out HSD.out)
          rw [nodeT_doc (d + 1) (kd / 2) _ _ (by omega), Int.natCast_add, Int.natCast_ediv, Int.natCast_one, show ((2 : Nat) : Int) = 2 from rfl, ← HYDD.out, ← HSDD.out] at HND
          obtain ⟨na, hna⟩ : ∃ z, z = digA (nodeT (d + 1) (kd / 2) (ps d) (upS k x ps d)) := ⟨_, rfl⟩
          have hna2 : na.size = 32 := by rw [hna]; unfold digA; rw [rowV_size]
          have HIN := Lib.hid (info_d32 hna2)
          have HON : Hid (na.all (·.oneCell') = true) := Lib.hid (by rw [hna]; exact one_dig _)
          have HZN : Hid (sd.size = na.size) := Lib.hid (by rw [hna2]; exact HS32.out)
          have HNA := Lib.hid hna
          have HUPN : Hid (na = dA (upS k x ps (d + 1))) := Lib.hid (by
            rw [hna, upS]
            have e1 : k / 2 ^ (d + 1) = kd / 2 := by rw [HKD.out, Nat.pow_succ, Nat.div_div_eq_div_mul]
            rw [← HKD.out, e1, if_pos hpar, if_pos hpar]
            rfl)
          rw [← hna] at HND
          clear hna hna2
          go_wp2_with (first
            | (with_reducible refine wpList_load_mid rfl 34 (.tmp 67) rfl bb (oo + d * 32) rfl yd.toList _ HRGE.out Try.underlying34 rfl HIYL.out ?_)
            | (with_reducible refine wpList_store_row rfl 34 (.tmp 13) (.tmp 68) rfl _ _ rfl (by simp [Act.eval, Act.put]) 34 _ H15.out HIY.out HZY.out HOY.out ?_; rw [← HW1.out])
            | (with_reducible refine wpList_load_row rfl 34 (.tmp 13) rfl _ rfl 34 _ _ _ HA2.out Try.underlying34 rfl HIY.out ?_)
            | (with_reducible refine wpList_load_row rfl 34 (.tmp 6) rfl _ rfl 34 _ _ _ HX2.out Try.underlying34 rfl HIS.out ?_))
          refine (HND.out _).mono ?_
          rintro e w5 ⟨rfl, hb5⟩
          have HX5 := Lib.hid ((hb5.block _ (blk_lt HX2.out)).trans HX2.out)
          have HR5 := Lib.hid ((hb5.block _ (blk_lt HR2.out)).trans HR2.out)
          have HB5 := Lib.hid (HB2.out.trans (hb5.mono HB2.out.size))
          clear hb5
          obtain ⟨W6, hW6⟩ : ∃ W6, W6 = w5.setRow w.heap.size na := ⟨_, rfl⟩
          have H9 : Hid (∃ d' : Nat, (Value.int .i64 ((d : Int) + 1)) = .int .i64 (d' : Int) ∧ (Value.int .i64 ((kd : Int) / 2)) = .int .i64 ((k / 2 ^ d' : Nat) : Int) ∧ d' ≤ m ∧ W6.heap[w.heap.size]? = some (.cells (dA (upS k x ps d')) 34 (0, 0)) ∧ W6.heap[r]? = some (.cells da 37 (0, 0)) ∧ Below w.heap.size w W6) := Lib.hid (by
            refine ⟨d + 1, rfl, ?_, hlt, ?_, ?_, ?_⟩
            · have e1 : k / 2 ^ (d + 1) = kd / 2 := by rw [HKD.out, Nat.pow_succ, Nat.div_div_eq_div_mul]
              rw [e1, Int.natCast_ediv]; rfl
            · rw [hW6, ← HUPN.out]; exact setRow_heap _ _ _ _ _ _ HX5.out
            · rw [hW6]; exact (setRow_other _ _ _ _ (by have := HRG.out; omega)).trans HR5.out
            · rw [hW6]; exact below_setRow HB5.out (Nat.le_refl _) _)
          have HW6 := Lib.hid hW6
          clear hW6
          go_wp2_with (with_reducible refine wpList_store_row rfl 34 (.tmp 6) (.tmp 78) rfl _ _ rfl rfl 34 _ HX5.out HIN.out HZN.out HON.out ?_; rw [← HW6.out])
          go_roundw
          case rel => exact H9.out
          case measure => simp [intOf]; omega
        · have hpi : ¬ (kd : Int) % 2 = 1 := by omega
          have hpb : (((kd : Int) % 2) == 1) = false := by rw [beq_eq_false_iff_ne]; omega
          have hpn : (kd % 2 == 1) = false := by rw [beq_eq_false_iff_ne]; exact hpar
          have HND := Lib.hid (fun W => rnode_any (d + 1) (kd / 2) (upS k x ps d) (ps d) W (by omega) (by omega) HSD.out HYD.out)
          rw [nodeT_doc (d + 1) (kd / 2) _ _ (by omega), Int.natCast_add, Int.natCast_ediv, Int.natCast_one, show ((2 : Nat) : Int) = 2 from rfl, ← HSDD.out, ← HYDD.out] at HND
          obtain ⟨na, hna⟩ : ∃ z, z = digA (nodeT (d + 1) (kd / 2) (upS k x ps d) (ps d)) := ⟨_, rfl⟩
          have hna2 : na.size = 32 := by rw [hna]; unfold digA; rw [rowV_size]
          have HIN := Lib.hid (info_d32 hna2)
          have HON : Hid (na.all (·.oneCell') = true) := Lib.hid (by rw [hna]; exact one_dig _)
          have HZN : Hid (sd.size = na.size) := Lib.hid (by rw [hna2]; exact HS32.out)
          have HNA := Lib.hid hna
          have HUPN : Hid (na = dA (upS k x ps (d + 1))) := Lib.hid (by
            rw [hna, upS]
            have e1 : k / 2 ^ (d + 1) = kd / 2 := by rw [HKD.out, Nat.pow_succ, Nat.div_div_eq_div_mul]
            rw [← HKD.out, e1, if_neg hpar, if_neg hpar]
            rfl)
          rw [← hna] at HND
          clear hna hna2
          go_wp2_with (first
            | (with_reducible refine wpList_load_mid rfl 34 (.tmp 67) rfl bb (oo + d * 32) rfl yd.toList _ HRGE.out Try.underlying34 rfl HIYL.out ?_)
            | (with_reducible refine wpList_store_row rfl 34 (.tmp 13) (.tmp 68) rfl _ _ rfl (by simp [Act.eval, Act.put]) 34 _ H15.out HIY.out HZY.out HOY.out ?_; rw [← HW1.out])
            | (with_reducible refine wpList_load_row rfl 34 (.tmp 13) rfl _ rfl 34 _ _ _ HA2.out Try.underlying34 rfl HIY.out ?_)
            | (with_reducible refine wpList_load_row rfl 34 (.tmp 6) rfl _ rfl 34 _ _ _ HX2.out Try.underlying34 rfl HIS.out ?_))
          refine (HND.out _).mono ?_
          rintro e w5 ⟨rfl, hb5⟩
          have HX5 := Lib.hid ((hb5.block _ (blk_lt HX2.out)).trans HX2.out)
          have HR5 := Lib.hid ((hb5.block _ (blk_lt HR2.out)).trans HR2.out)
          have HB5 := Lib.hid (HB2.out.trans (hb5.mono HB2.out.size))
          clear hb5
          obtain ⟨W6, hW6⟩ : ∃ W6, W6 = w5.setRow w.heap.size na := ⟨_, rfl⟩
          have H9 : Hid (∃ d' : Nat, (Value.int .i64 ((d : Int) + 1)) = .int .i64 (d' : Int) ∧ (Value.int .i64 ((kd : Int) / 2)) = .int .i64 ((k / 2 ^ d' : Nat) : Int) ∧ d' ≤ m ∧ W6.heap[w.heap.size]? = some (.cells (dA (upS k x ps d')) 34 (0, 0)) ∧ W6.heap[r]? = some (.cells da 37 (0, 0)) ∧ Below w.heap.size w W6) := Lib.hid (by
            refine ⟨d + 1, rfl, ?_, hlt, ?_, ?_, ?_⟩
            · have e1 : k / 2 ^ (d + 1) = kd / 2 := by rw [HKD.out, Nat.pow_succ, Nat.div_div_eq_div_mul]
              rw [e1, Int.natCast_ediv]; rfl
            · rw [hW6, ← HUPN.out]; exact setRow_heap _ _ _ _ _ _ HX5.out
            · rw [hW6]; exact (setRow_other _ _ _ _ (by have := HRG.out; omega)).trans HR5.out
            · rw [hW6]; exact below_setRow HB5.out (Nat.le_refl _) _)
          have HW6 := Lib.hid hW6
          clear hW6
          go_wp2_with (with_reducible refine wpList_store_row rfl 34 (.tmp 6) (.tmp 85) rfl _ _ rfl rfl 34 _ HX5.out HIN.out HZN.out HON.out ?_; rw [← HW6.out])
          go_roundw
          case rel => exact H9.out
          case measure => simp [intOf]; omega
      · obtain rfl : d = m := by omega
        have HTOP := Lib.hid (fun W => rtop_any n (upS k x ps d) W (by omega) hsd)
        obtain ⟨xm, hxm⟩ : ∃ z, z = dA (upS k x ps d) := ⟨_, rfl⟩
        rw [← hxm, ← HDA.out] at HTOP
        rw [← hxm] at HIS hx6
        have HIM := Lib.hid HIS.out
        have HXM := Lib.hid hx6
        have HRM := Lib.hid hr6
        have HBM := Lib.hid hb
        clear hx6 hr6 hb hsd hsz32 HS32' hxm
        go_upto_region 15 with (fail)
        refine wp_region_F (S := (fun W : World => W.heap[w.heap.size]? = some (.cells xm 34 (0, 0)) ∧ W.heap[r]? = some (.cells da 37 (0, 0)) ∧ Below wr.heap.size wr W)) [] (by kernel_rfl) (⟨HXM.out, HRM.out, (Below.refl _ _).drew⟩) (fun hHeld => ?_)
        refine wpAnyF_take (i := 0) (oi := _) (v := ?_) rfl (by kernel_rfl) (by kernel_rfl) (by kernel_rfl) (by kernel_rfl) (fun _ _ _ h => h) (Or.inl ⟨by rfl, ?_⟩) (by assumption) ?_
        rotate_left 1
        · intro w hSw
          (try dsimp only at hSw)
          (first | (go_simp; done) | (go_simp; with_reducible rfl))
        (try simp only [Act.put, List.getElem_toArray, List.getElem_cons_succ, List.getElem_cons_zero, List.setIfInBounds_toArray, List.set_cons_zero, List.set_cons_succ])
        refine wpAnyF_take (i := 1) (oi := _) (v := ?_) rfl (by kernel_rfl) (by kernel_rfl) (by kernel_rfl) (by kernel_rfl) (fun _ _ _ h => h) (Or.inl ⟨by rfl, ?_⟩) (by assumption) ?_
        rotate_left 1
        · intro w hSw
          (try dsimp only at hSw)
          (first | (go_simp; done) | (go_simp; with_reducible rfl))
        (try simp only [Act.put, List.getElem_toArray, List.getElem_cons_succ, List.getElem_cons_zero, List.setIfInBounds_toArray, List.set_cons_zero, List.set_cons_succ])
        refine wpAnyF_take (i := 2) (oi := _) (v := ?_) rfl (by kernel_rfl) (by kernel_rfl) (by kernel_rfl) (by kernel_rfl) (fun _ _ _ h => h) (Or.inl ⟨by rfl, ?_⟩) (by assumption) ?_
        rotate_left 1
        · intro w hSw
          (try dsimp only at hSw)
          (first | (go_simp; done) | (go_simp; with_reducible rfl))
        (try simp only [Act.put, List.getElem_toArray, List.getElem_cons_succ, List.getElem_cons_zero, List.setIfInBounds_toArray, List.set_cons_zero, List.set_cons_succ])
        refine wpAnyF_take (i := 3) (oi := _) (v := _) rfl (by kernel_rfl) (by kernel_rfl) (by kernel_rfl) (by kernel_rfl) (fun _ _ _ h => h) (yields_rowU (by with_unfolding_all rfl) 37 (.tmp 9) rfl r 0 rfl da _ (fun W h => range_cells h.2.1) Try.underlying37 rfl HIA.out) (by assumption) ?_
        (try simp only [Act.put, List.getElem_toArray, List.getElem_cons_succ, List.getElem_cons_zero, List.setIfInBounds_toArray, List.set_cons_zero, List.set_cons_succ])
        refine wpAnyF_take (i := 4) (oi := _) (v := ?_) rfl (by kernel_rfl) (by kernel_rfl) (by kernel_rfl) (by kernel_rfl) (fun _ _ _ h => h) (Or.inl ⟨by rfl, ?_⟩) (by assumption) ?_
        rotate_left 1
        · intro w hSw
          (try dsimp only at hSw)
          (first | (go_simp; done) | (go_simp; with_reducible rfl))
        (try simp only [Act.put, List.getElem_toArray, List.getElem_cons_succ, List.getElem_cons_zero, List.setIfInBounds_toArray, List.set_cons_zero, List.set_cons_succ])
        refine wpAnyF_take (i := 5) (oi := _) (v := _) rfl (by kernel_rfl) (by kernel_rfl) (by kernel_rfl) (by kernel_rfl) (fun _ _ _ h => h) (yields_rowU (by with_unfolding_all rfl) 34 (.tmp 6) rfl w.heap.size 0 rfl xm _ (fun W h => range_cells h.1) Try.underlying34 rfl HIM.out) (by assumption) ?_
        (try simp only [Act.put, List.getElem_toArray, List.getElem_cons_succ, List.getElem_cons_zero, List.setIfInBounds_toArray, List.set_cons_zero, List.set_cons_succ])
        refine wpAnyF_ready (rs := [6]) (by kernel_rfl) (by simp) ?_
        refine AllReadyF.cons (o := _) rfl (fun K hK => ?_) AllReadyF.nil
        go_simp
        (go_at_call 17)
        refine (HTOP.out _).mono ?_
        rintro e w11 ⟨rfl, hb11⟩
        refine hK.out _ _ (⟨(hb11.block _ (blk_lt hHeld.1)).trans hHeld.1, (hb11.block _ (blk_lt hHeld.2.1)).trans hHeld.2.1, hHeld.2.2.trans (hb11.mono hHeld.2.2.size)⟩) (fun hHeld6 => ?_)
        clear hK K
        (try simp only [Act.put, List.getElem_toArray, List.getElem_cons_succ, List.getElem_cons_zero, List.setIfInBounds_toArray, List.set_cons_zero, List.set_cons_succ])
        refine wpAnyF_take (i := 7) (oi := _) (v := _) rfl (by kernel_rfl) (by kernel_rfl) (by kernel_rfl) (by kernel_rfl) (fun _ _ _ h => h) (.inl ⟨by with_unfolding_all rfl, fun w h => exec_bin .eql 37 37 (.tmp 92) (.tmp 95) rfl (.agg da) (.agg da) (.bool true) rfl rfl (bk_guard _ _ _ _ _) (HEQ.out w)⟩) (by assumption) ?_
        (try simp only [Act.put, List.getElem_toArray, List.getElem_cons_succ, List.getElem_cons_zero, List.setIfInBounds_toArray, List.set_cons_zero, List.set_cons_succ])
        refine wpAnyF_take (i := 8) (oi := _) (v := ?_) rfl (by kernel_rfl) (by kernel_rfl) (by kernel_rfl) (by kernel_rfl) (fun _ _ _ h => h) (Or.inl ⟨by rfl, ?_⟩) (by assumption) ?_
        rotate_left 1
        · intro w hSw
          (try dsimp only at hSw)
          (first | (go_simp; done) | (go_simp; with_reducible rfl))
        (try simp only [Act.put, List.getElem_toArray, List.getElem_cons_succ, List.getElem_cons_zero, List.setIfInBounds_toArray, List.set_cons_zero, List.set_cons_succ])
        refine wpAnyF_take (i := 9) (oi := _) (v := ?_) rfl (by kernel_rfl) (by kernel_rfl) (by kernel_rfl) (by kernel_rfl) (fun _ _ _ h => h) (Or.inl ⟨by rfl, ?_⟩) (by assumption) ?_
        rotate_left 1
        · intro w hSw
          (try dsimp only at hSw)
          (first | (go_simp; done) | (go_simp; with_reducible rfl))
        (try simp only [Act.put, List.getElem_toArray, List.getElem_cons_succ, List.getElem_cons_zero, List.setIfInBounds_toArray, List.set_cons_zero, List.set_cons_succ])
        refine wpAnyF_ready (rs := [10]) (by kernel_rfl) (by simp) ?_
        refine AllReadyF.cons (o := _) rfl (fun K hK => ?_) AllReadyF.nil
        go_simp
        refine (awake12_any _).mono ?_
        rintro e w12 ⟨rfl, hb12⟩
        refine hK.out _ _ (⟨(hb12.block _ (blk_lt hHeld6.1)).trans hHeld6.1, (hb12.block _ (blk_lt hHeld6.2.1)).trans hHeld6.2.1, hHeld6.2.2.trans (hb12.mono hHeld6.2.2.size)⟩) (fun hHeld10 => ?_)
        clear hK K
        (try simp only [Act.put, List.getElem_toArray, List.getElem_cons_succ, List.getElem_cons_zero, List.setIfInBounds_toArray, List.set_cons_zero, List.set_cons_succ])
        refine wpAnyF_take (i := 11) (oi := _) (v := ?_) rfl (by kernel_rfl) (by kernel_rfl) (by kernel_rfl) (by kernel_rfl) (fun _ _ _ h => h) (Or.inl ⟨by rfl, ?_⟩) (by assumption) ?_
        rotate_left 1
        · intro w hSw
          (try dsimp only at hSw)
          (first | (go_simp; done) | (go_simp; with_reducible rfl))
        (try simp only [Act.put, List.getElem_toArray, List.getElem_cons_succ, List.getElem_cons_zero, List.setIfInBounds_toArray, List.set_cons_zero, List.set_cons_succ])
        refine wpAnyF_ready (rs := [12]) (by kernel_rfl) (by simp) ?_
        refine AllReadyF.cons (o := _) rfl (fun K hK => ?_) AllReadyF.nil
        go_simp
        refine hK.out _ _ (by assumption) (fun hHeld12 => ?_)
        clear hK K
        (try simp only [Act.put, List.getElem_toArray, List.getElem_cons_succ, List.getElem_cons_zero, List.setIfInBounds_toArray, List.set_cons_zero, List.set_cons_succ])
        refine wpAnyF_done (by kernel_rfl) ?_ _
        have HB12 := Lib.hid (HBM.out.trans (hHeld12.2.2.mono HBM.out.size))
        clear hHeld hHeld6 hHeld10 hHeld12 hb11 hb12
        go_wp2_with fail
        go_ret
        exact ⟨rfl, HB12.out⟩
end
section
open Go.RowKit Go
set_option linter.unusedVariables false
set_option linter.unusedSimpArgs false
set_option maxRecDepth 100000
set_option maxHeartbeats 4000000 in
theorem treeUp_cn2 (n k : Int) (x : List Nat) (b0 o0 m0 c : Nat) (ps : Nat → List Nat) (w : World) (hds : DgS w (some ⟨b0, o0, none⟩) 12 ps) (h12 : 12 < m0) (hc : m0 ≤ c) (hcm : c ≤ 9223372036854775807) (hx : IsDig x) (h1 : ¬ n < 1) (h2 : 1024 < n) :
    Calls Try.prog 4 #[.int .i64 n, .int .i64 k, .agg (dA x), .slice (some ⟨b0, o0, none⟩) m0 c] w fun e w' => e = .returned (.bool true) ∧ Below w.heap.size w w' := by
  have hz := zero_dig
  have hzr := zero32
  obtain ⟨W0, hW0⟩ : ∃ W0, W0 = w.alloc (.cells (dA x) 34) := ⟨_, rfl⟩
  have HB0 : Hid (Below w.heap.size w W0) := Lib.hid (by rw [hW0]; exact (Below.refl _ _).alloc (Nat.le_refl _) _)
  have HP6 : Hid (W0.heap[w.heap.size]? = some (.cells (dA x) 34 (0, 0))) := Lib.hid (by rw [hW0]; exact heap_alloc_new w _)
  have HW0 := Lib.hid hW0
  have hx32 : (dA x).size = 32 := by rw [rowV_size]
  have HIX := Lib.hid (info_d32 hx32)
  have HOX : Hid ((dA x).all (·.oneCell') = true) := Lib.hid (dA_one _)
  have HDS := Lib.hid hds
  have HX := Lib.hid hx
  obtain ⟨B, hB⟩ : ∃ B, B = W0.heap.size := ⟨_, rfl⟩
  have HKW : Hid (B = w.heap.size + 1) := Lib.hid (by rw [hB, hW0]; simp)
  have HBB := Lib.hid hB
  have HSZ : Hid (B ≤ W0.heap.size) := Lib.hid (Nat.le_of_eq hB)
  have HIZ := Lib.hid (info_dig (cs := zeros 32) (by simp [zeros]))
  have HOZ : Hid ((zeros 32).all (·.oneCell') = true) := Lib.hid (by kernel_rfl)
  have HUP : Hid (∀ (b : Nat) (A2 : Option Addr) (c2 : Nat) (W : World), Calls Try.prog 15 #[.pointer (some ⟨b, 0, none⟩), .int .i64 n, .int .i64 k, .agg (dA x), .slice A2 12 c2] W (UpNo W)) := Lib.hid (fun b A2 c2 W => tup_no b n k x A2 12 c2 W (by have := dpX_le n.toNat; omega))
  obtain ⟨xd, hxd⟩ : ∃ z, z = dA x := ⟨_, rfl⟩
  have HXD := Lib.hid hxd
  rw [← hxd] at HW0 HP6 HIX HOX HUP ⊢
  clear hW0 hx32 hxd hds hx hB
  have hm1 : (12 : Int) < (m0 : Int) := by omega
  have hm2 : 12 < m0 := h12
  have hc12 : 12 ≤ c := by omega
  have hm : 12 ≤ 12 := Nat.le_refl _
  go_enter Try.func4, Try.ntmps4
  go_wp2_with (with_reducible refine Go.Great.wpList_boxTo rfl 34 (.tmp 2) rfl (some 6) rfl w.heap.size (by simp) xd rfl ?_)
  rw [← HW0.out]
  go_upto_region 3 with (fail)
  have HK : Hid (∀ W, Below B W0 W → W.heap[w.heap.size]? = some (.cells xd 34 (0, 0)) ∧ Below B W0 W) := Lib.hid (fun W hW => ⟨(hW.block _ (by have := HKW.out; omega)).trans HP6.out, hW⟩)
  refine wp_region_F (S := (fun W : World => W.heap[w.heap.size]? = some (.cells xd 34 (0, 0)) ∧ Below B W0 W)) [] (by kernel_rfl) (HK.out _ (by have e := HBB.out; rw [e]; exact (Below.refl _ _).drew)) (fun hHeld => ?_)
  refine wpAnyF_take (i := 1) (oi := _) (v := ?_) rfl (by kernel_rfl) (by kernel_rfl) (by kernel_rfl) (by kernel_rfl) (fun _ _ _ h => h) (Or.inl ⟨by rfl, ?_⟩) (by assumption) ?_
  rotate_left 1
  · intro w hSw
    (try dsimp only at hSw)
    (first | (go_simp; done) | (go_simp; with_reducible rfl))
  (try simp only [Act.put, List.getElem_toArray, List.getElem_cons_succ, List.getElem_cons_zero, List.setIfInBounds_toArray, List.set_cons_zero, List.set_cons_succ])
  refine wpAnyF_take (i := 2) (oi := _) (v := ?_) rfl (by kernel_rfl) (by kernel_rfl) (by kernel_rfl) (by kernel_rfl) (fun _ _ _ h => h) (Or.inl ⟨by rfl, ?_⟩) (by assumption) ?_
  rotate_left 1
  · intro w hSw
    (try dsimp only at hSw)
    (first | (go_simp; done) | (go_simp; with_reducible rfl))
  (try simp only [Act.put, List.getElem_toArray, List.getElem_cons_succ, List.getElem_cons_zero, List.setIfInBounds_toArray, List.set_cons_zero, List.set_cons_succ])
  refine wpAnyF_take (i := 3) (oi := _) (v := _) rfl (by kernel_rfl) (by kernel_rfl) (by kernel_rfl) (by kernel_rfl) (fun _ _ _ h => h) (yields_rowU (by rfl) 34 (.tmp 6) rfl w.heap.size 0 rfl xd _ (fun W h => range_cells h.1) Try.underlying34 rfl HIX.out) (by assumption) ?_
  (try simp only [Act.put, List.getElem_toArray, List.getElem_cons_succ, List.getElem_cons_zero, List.setIfInBounds_toArray, List.set_cons_zero, List.set_cons_succ])
  refine wpAnyF_take (i := 4) (oi := _) (v := ?_) rfl (by kernel_rfl) (by kernel_rfl) (by kernel_rfl) (by kernel_rfl) (fun _ _ _ h => h) (Or.inl ⟨by rfl, ?_⟩) (by assumption) ?_
  rotate_left 1
  · intro w hSw
    (try dsimp only at hSw)
    (first | (go_simp; done) | (go_simp; with_reducible rfl))
  (try simp only [Act.put, List.getElem_toArray, List.getElem_cons_succ, List.getElem_cons_zero, List.setIfInBounds_toArray, List.set_cons_zero, List.set_cons_succ])
  refine wpAnyF_ready (rs := [0, 10]) (by kernel_rfl) (by simp) ?_
  refine AllReadyF.cons (o := _) rfl (fun K hK => ?_) (AllReadyF.cons (o := _) rfl (fun K hK => ?_) AllReadyF.nil)
  · go_simp
    (go_at_call 8)
    refine (book12_any _).mono ?_
    rintro e w1 ⟨b, g, S, rfl, hbk, hS, hbn⟩
    refine hK.out _ _ (HK.out _ (hHeld.2.trans (hbn.mono (Nat.le_trans HSZ.out hHeld.2.size)))) (fun hHeld0 => ?_)
    clear hK K
    (try simp only [Act.put, List.getElem_toArray, List.getElem_cons_succ, List.getElem_cons_zero, List.setIfInBounds_toArray, List.set_cons_zero, List.set_cons_succ])
    have HBK0 := Lib.hid hbk
    have HS : Hid (∀ j, S j → B ≤ j) := Lib.hid (fun j hj => Nat.le_trans (Nat.le_trans HSZ.out hHeld.2.size) (hS j hj))
    clear hbk hS hbn
    refine wpAnyF_ready (rs := [5, 10]) (by kernel_rfl) (by simp) ?_
    refine AllReadyF.cons (o := _) rfl (fun K hK => ?_) (AllReadyF.cons (o := _) rfl (fun K hK => ?_) AllReadyF.nil)
    · go_simp
      (go_at_call 9)
      refine (digests_new 12 c (some ⟨b0, o0, none⟩) ps _ (HDS.out.below (HB0.out.trans (hHeld0.2.mono (by have := HKW.out; omega)))) (by omega)).mono ?_
      rintro e w2 ⟨A2, c2, rfl, hc2, hd2, hbn, hnew⟩
      refine hK.out _ _ (HK.out _ (hHeld0.2.trans (hbn.mono (Nat.le_trans HSZ.out hHeld0.2.size)))) (fun hHeld5 => ?_)
      clear hK K
      (try simp only [Act.put, List.getElem_toArray, List.getElem_cons_succ, List.getElem_cons_zero, List.setIfInBounds_toArray, List.set_cons_zero, List.set_cons_succ])
      have HBK5 := Lib.hid (HBK0.out.below hbn)
      have HD5 := Lib.hid hd2
      have HC2 := Lib.hid hc2
      have HOFF : Hid (∀ ad, A2 = some ad → ¬ S ad.block) := Lib.hid (fun ad e z => by have h1 := hnew ad e; have h2 := HBK0.out.sub z; omega)
      clear hd2 hc2 hbn hnew
      refine wpAnyF_ready (rs := [6, 10]) (by kernel_rfl) (by simp) ?_
      refine AllReadyF.cons (o := _) rfl (fun K hK => ?_) (AllReadyF.cons (o := _) rfl (fun K hK => ?_) AllReadyF.nil)
      · go_simp
        (go_at_call 15)
        refine (HUP.out b A2 c2 _).mono ?_
        rintro e w3 ⟨rfl, hbn⟩
        refine hK.out _ _ (HK.out _ (hHeld5.2.trans (hbn.mono (Nat.le_trans HSZ.out hHeld5.2.size)))) (fun hHeld6 => ?_)
        clear hK K
        (try simp only [Act.put, List.getElem_toArray, List.getElem_cons_succ, List.getElem_cons_zero, List.setIfInBounds_toArray, List.set_cons_zero, List.set_cons_succ])
        clear hbn
        refine wpAnyF_take (i := 7) (oi := _) (v := ?_) rfl (by kernel_rfl) (by kernel_rfl) (by kernel_rfl) (by kernel_rfl) (fun _ _ _ h => h) (Or.inl ⟨by rfl, ?_⟩) (by assumption) ?_
        rotate_left 1
        · intro w hSw
          (try dsimp only at hSw)
          (first | (go_simp; done) | (go_simp; with_reducible rfl))
        (try simp only [Act.put, List.getElem_toArray, List.getElem_cons_succ, List.getElem_cons_zero, List.setIfInBounds_toArray, List.set_cons_zero, List.set_cons_succ])
        refine wpAnyF_take (i := 8) (oi := _) (v := ?_) rfl (by kernel_rfl) (by kernel_rfl) (by kernel_rfl) (by kernel_rfl) (fun _ _ _ h => h) (Or.inl ⟨by rfl, ?_⟩) (by assumption) ?_
        rotate_left 1
        · intro w hSw
          (try dsimp only at hSw)
          (first | (go_simp; done) | (go_simp; with_reducible rfl))
        (try simp only [Act.put, List.getElem_toArray, List.getElem_cons_succ, List.getElem_cons_zero, List.setIfInBounds_toArray, List.set_cons_zero, List.set_cons_succ])
        refine wpAnyF_take (i := 9) (oi := _) (v := ?_) rfl (by kernel_rfl) (by kernel_rfl) (by kernel_rfl) (by kernel_rfl) (fun _ _ _ h => h) (Or.inl ⟨by rfl, ?_⟩) (by assumption) ?_
        rotate_left 1
        · intro w hSw
          (try dsimp only at hSw)
          (first | (go_simp; done) | (go_simp; with_reducible rfl))
        (try simp only [Act.put, List.getElem_toArray, List.getElem_cons_succ, List.getElem_cons_zero, List.setIfInBounds_toArray, List.set_cons_zero, List.set_cons_succ])
        refine wpAnyF_ready (rs := [10]) (by kernel_rfl) (by simp) ?_
        refine AllReadyF.cons (o := _) rfl (fun K hK => ?_) AllReadyF.nil
        go_simp
        refine hK.out _ _ (HK.out _ ((hHeld6.2).alloc (Nat.le_trans HSZ.out hHeld6.2.size) _)) (fun hHeld10 => ?_)
        clear hK K
        (try simp only [Act.put, List.getElem_toArray, List.getElem_cons_succ, List.getElem_cons_zero, List.setIfInBounds_toArray, List.set_cons_zero, List.set_cons_succ])
        have hr := heap_alloc_new w3 (.cells (zeros 32) 37)
        have hbn : Below w3.heap.size w3 (w3.alloc (.cells (zeros 32) 37)) := (Below.refl _ _).alloc (Nat.le_refl _) _
        have hrb : B ≤ w3.heap.size := (Nat.le_trans HSZ.out hHeld6.2.size)
        clear hbn
        obtain ⟨V, hV⟩ : ∃ V, V = w3.alloc (.cells (zeros 32) 37) := ⟨_, rfl⟩
        rw [← hV] at hr hHeld10 ⊢
        obtain ⟨r, hrr⟩ : ∃ r, r = w3.heap.size := ⟨_, rfl⟩
        rw [← hrr] at hr hrb ⊢
        have HR10 := Lib.hid hr
        have HRB := Lib.hid hrb
        clear hV hrr hr hrb
        refine wpAnyF_ready (rs := [11]) (by kernel_rfl) (by simp) ?_
        refine AllReadyF.cons (o := _) rfl (fun K hK => ?_) AllReadyF.nil
        rw [if_pos (by kernel_rfl)]
        refine wp_store_row 37 (.tmp 9) (.tmp 27) rfl r (zeros 32) rfl rfl _ (zeros 32) HR10.out HIZ.out rfl HOZ.out ?_
        refine hK.out _ _ (HK.out _ (below_setRow hHeld10.2 HRB.out _)) (fun hHeld11 => ?_)
        clear hK K
        (try simp only [Act.put, List.getElem_toArray, List.getElem_cons_succ, List.getElem_cons_zero, List.setIfInBounds_toArray, List.set_cons_zero, List.set_cons_succ])
        refine wpAnyF_ready (rs := [12]) (by kernel_rfl) (by simp) ?_
        refine AllReadyF.cons (o := _) rfl (fun K hK => ?_) AllReadyF.nil
        go_simp
        refine hK.out _ _ (by assumption) (fun hHeld12 => ?_)
        clear hK K
        (try simp only [Act.put, List.getElem_toArray, List.getElem_cons_succ, List.getElem_cons_zero, List.setIfInBounds_toArray, List.set_cons_zero, List.set_cons_succ])
        refine wpAnyF_done (by kernel_rfl) ?_ _
        have hrf := setRow_heap V r (zeros 32) (zeros 32) _ _ HR10.out
        obtain ⟨VF, hVF⟩ : ∃ VF, VF = V.setRow r (zeros 32) := ⟨_, rfl⟩
        rw [← hVF] at hrf hHeld11 ⊢
        have HRF := Lib.hid hrf
        have HPF := Lib.hid hHeld11.1
        have HWF : Hid (Below w.heap.size w VF) := Lib.hid (HB0.out.trans (hHeld11.2.mono (by have := HKW.out; omega)))
        have HRG : Hid (w.heap.size < r) := Lib.hid (by have := HRB.out; have := HKW.out; omega)
        clear hrf hVF
        go_wp2_with (first
          | (with_reducible refine wpList_load_row_wU (by with_unfolding_all rfl) 37 (.tmp 9) rfl _ rfl 37 _ _ _ HRF.out Try.underlying37 rfl HIZ.out ?_)
          | (with_reducible refine wpList_binU (by with_unfolding_all rfl) .eql 37 37 (.tmp 54) (.tmp 55) rfl (.agg (zeros 32)) (.agg (zeros 32)) (.bool true) rfl (by with_unfolding_all rfl) (bk_guard _ _ _ _ _) (zero_eqU _) ?_))
        refine (awake12_any _).mono ?_
        rintro e w4 ⟨rfl, hb4⟩
        have HB4 := Lib.hid (HWF.out.trans (hb4.mono HWF.out.size))
        clear hb4
        go_wp2
        go_ret
        exact ⟨rfl, HB4.out⟩
      · go_simp
        refine hK.out _ _ (HK.out _ ((hHeld5.2).alloc (Nat.le_trans HSZ.out hHeld5.2.size) _)) (fun hHeld10 => ?_)
        clear hK K
        (try simp only [Act.put, List.getElem_toArray, List.getElem_cons_succ, List.getElem_cons_zero, List.setIfInBounds_toArray, List.set_cons_zero, List.set_cons_succ])
        have hr := heap_alloc_new w2 (.cells (zeros 32) 37)
        have hbn : Below w2.heap.size w2 (w2.alloc (.cells (zeros 32) 37)) := (Below.refl _ _).alloc (Nat.le_refl _) _
        have HBK10 := Lib.hid (HBK5.out.below hbn)
        have HD10 := Lib.hid (HD5.out.below hbn)
        have hrb : B ≤ w2.heap.size := (Nat.le_trans HSZ.out hHeld5.2.size)
        have hrs : ¬ S w2.heap.size := fun z => by have := HBK5.out.sub z; omega
        clear hbn
        obtain ⟨V, hV⟩ : ∃ V, V = w2.alloc (.cells (zeros 32) 37) := ⟨_, rfl⟩
        rw [← hV] at hr hHeld10 ⊢
        rw [← hV] at HBK10
        rw [← hV] at HD10
        obtain ⟨r, hrr⟩ : ∃ r, r = w2.heap.size := ⟨_, rfl⟩
        rw [← hrr] at hr hrb ⊢
        rw [← hrr] at hrs
        have HRS := Lib.hid hrs
        clear hrs
        have HR10 := Lib.hid hr
        have HRB := Lib.hid hrb
        clear hV hrr hr hrb
        refine wpAnyF_ready (rs := [6]) (by kernel_rfl) (by simp) ?_
        refine AllReadyF.cons (o := _) rfl (fun K hK => ?_) AllReadyF.nil
        go_simp
        (go_at_call 15)
        refine (HUP.out b A2 c2 _).mono ?_
        rintro e w3 ⟨rfl, hbn⟩
        refine hK.out _ _ (HK.out _ (hHeld10.2.trans (hbn.mono (Nat.le_trans HSZ.out hHeld10.2.size)))) (fun hHeld6 => ?_)
        clear hK K
        (try simp only [Act.put, List.getElem_toArray, List.getElem_cons_succ, List.getElem_cons_zero, List.setIfInBounds_toArray, List.set_cons_zero, List.set_cons_succ])
        have HR6 := Lib.hid ((hbn.block _ (blk_lt HR10.out)).trans HR10.out)
        clear hbn
        refine wpAnyF_take (i := 7) (oi := _) (v := ?_) rfl (by kernel_rfl) (by kernel_rfl) (by kernel_rfl) (by kernel_rfl) (fun _ _ _ h => h) (Or.inl ⟨by rfl, ?_⟩) (by assumption) ?_
        rotate_left 1
        · intro w hSw
          (try dsimp only at hSw)
          (first | (go_simp; done) | (go_simp; with_reducible rfl))
        (try simp only [Act.put, List.getElem_toArray, List.getElem_cons_succ, List.getElem_cons_zero, List.setIfInBounds_toArray, List.set_cons_zero, List.set_cons_succ])
        refine wpAnyF_take (i := 8) (oi := _) (v := ?_) rfl (by kernel_rfl) (by kernel_rfl) (by kernel_rfl) (by kernel_rfl) (fun _ _ _ h => h) (Or.inl ⟨by rfl, ?_⟩) (by assumption) ?_
        rotate_left 1
        · intro w hSw
          (try dsimp only at hSw)
          (first | (go_simp; done) | (go_simp; with_reducible rfl))
        (try simp only [Act.put, List.getElem_toArray, List.getElem_cons_succ, List.getElem_cons_zero, List.setIfInBounds_toArray, List.set_cons_zero, List.set_cons_succ])
        refine wpAnyF_take (i := 9) (oi := _) (v := ?_) rfl (by kernel_rfl) (by kernel_rfl) (by kernel_rfl) (by kernel_rfl) (fun _ _ _ h => h) (Or.inl ⟨by rfl, ?_⟩) (by assumption) ?_
        rotate_left 1
        · intro w hSw
          (try dsimp only at hSw)
          (first | (go_simp; done) | (go_simp; with_reducible rfl))
        (try simp only [Act.put, List.getElem_toArray, List.getElem_cons_succ, List.getElem_cons_zero, List.setIfInBounds_toArray, List.set_cons_zero, List.set_cons_succ])
        refine wpAnyF_ready (rs := [11]) (by kernel_rfl) (by simp) ?_
        refine AllReadyF.cons (o := _) rfl (fun K hK => ?_) AllReadyF.nil
        rw [if_pos (by kernel_rfl)]
        refine wp_store_row 37 (.tmp 9) (.tmp 27) rfl r (zeros 32) rfl rfl _ (zeros 32) HR6.out HIZ.out rfl HOZ.out ?_
        refine hK.out _ _ (HK.out _ (below_setRow hHeld6.2 HRB.out _)) (fun hHeld11 => ?_)
        clear hK K
        (try simp only [Act.put, List.getElem_toArray, List.getElem_cons_succ, List.getElem_cons_zero, List.setIfInBounds_toArray, List.set_cons_zero, List.set_cons_succ])
        refine wpAnyF_ready (rs := [12]) (by kernel_rfl) (by simp) ?_
        refine AllReadyF.cons (o := _) rfl (fun K hK => ?_) AllReadyF.nil
        go_simp
        refine hK.out _ _ (by assumption) (fun hHeld12 => ?_)
        clear hK K
        (try simp only [Act.put, List.getElem_toArray, List.getElem_cons_succ, List.getElem_cons_zero, List.setIfInBounds_toArray, List.set_cons_zero, List.set_cons_succ])
        refine wpAnyF_done (by kernel_rfl) ?_ _
        have hrf := setRow_heap w3 r (zeros 32) (zeros 32) _ _ HR6.out
        obtain ⟨VF, hVF⟩ : ∃ VF, VF = w3.setRow r (zeros 32) := ⟨_, rfl⟩
        rw [← hVF] at hrf hHeld11 ⊢
        have HRF := Lib.hid hrf
        have HPF := Lib.hid hHeld11.1
        have HWF : Hid (Below w.heap.size w VF) := Lib.hid (HB0.out.trans (hHeld11.2.mono (by have := HKW.out; omega)))
        have HRG : Hid (w.heap.size < r) := Lib.hid (by have := HRB.out; have := HKW.out; omega)
        clear hrf hVF
        go_wp2_with (first
          | (with_reducible refine wpList_load_row_wU (by with_unfolding_all rfl) 37 (.tmp 9) rfl _ rfl 37 _ _ _ HRF.out Try.underlying37 rfl HIZ.out ?_)
          | (with_reducible refine wpList_binU (by with_unfolding_all rfl) .eql 37 37 (.tmp 54) (.tmp 55) rfl (.agg (zeros 32)) (.agg (zeros 32)) (.bool true) rfl (by with_unfolding_all rfl) (bk_guard _ _ _ _ _) (zero_eqU _) ?_))
        refine (awake12_any _).mono ?_
        rintro e w4 ⟨rfl, hb4⟩
        have HB4 := Lib.hid (HWF.out.trans (hb4.mono HWF.out.size))
        clear hb4
        go_wp2
        go_ret
        exact ⟨rfl, HB4.out⟩
    · go_simp
      refine hK.out _ _ (HK.out _ ((hHeld0.2).alloc (Nat.le_trans HSZ.out hHeld0.2.size) _)) (fun hHeld10 => ?_)
      clear hK K
      (try simp only [Act.put, List.getElem_toArray, List.getElem_cons_succ, List.getElem_cons_zero, List.setIfInBounds_toArray, List.set_cons_zero, List.set_cons_succ])
      have hr := heap_alloc_new w1 (.cells (zeros 32) 37)
      have hbn : Below w1.heap.size w1 (w1.alloc (.cells (zeros 32) 37)) := (Below.refl _ _).alloc (Nat.le_refl _) _
      have HBK10 := Lib.hid (HBK0.out.below hbn)
      have hrb : B ≤ w1.heap.size := (Nat.le_trans HSZ.out hHeld0.2.size)
      have hrs : ¬ S w1.heap.size := fun z => by have := HBK0.out.sub z; omega
      clear hbn
      obtain ⟨V, hV⟩ : ∃ V, V = w1.alloc (.cells (zeros 32) 37) := ⟨_, rfl⟩
      rw [← hV] at hr hHeld10 ⊢
      rw [← hV] at HBK10
      obtain ⟨r, hrr⟩ : ∃ r, r = w1.heap.size := ⟨_, rfl⟩
      rw [← hrr] at hr hrb ⊢
      rw [← hrr] at hrs
      have HRS := Lib.hid hrs
      clear hrs
      have HR10 := Lib.hid hr
      have HRB := Lib.hid hrb
      clear hV hrr hr hrb
      refine wpAnyF_ready (rs := [5]) (by kernel_rfl) (by simp) ?_
      refine AllReadyF.cons (o := _) rfl (fun K hK => ?_) AllReadyF.nil
      go_simp
      (go_at_call 9)
      refine (digests_new 12 c (some ⟨b0, o0, none⟩) ps _ (HDS.out.below (HB0.out.trans (hHeld10.2.mono (by have := HKW.out; omega)))) (by omega)).mono ?_
      rintro e w2 ⟨A2, c2, rfl, hc2, hd2, hbn, hnew⟩
      refine hK.out _ _ (HK.out _ (hHeld10.2.trans (hbn.mono (Nat.le_trans HSZ.out hHeld10.2.size)))) (fun hHeld5 => ?_)
      clear hK K
      (try simp only [Act.put, List.getElem_toArray, List.getElem_cons_succ, List.getElem_cons_zero, List.setIfInBounds_toArray, List.set_cons_zero, List.set_cons_succ])
      have HBK5 := Lib.hid (HBK10.out.below hbn)
      have HD5 := Lib.hid hd2
      have HC2 := Lib.hid hc2
      have HOFF : Hid (∀ ad, A2 = some ad → ¬ S ad.block) := Lib.hid (fun ad e z => by have h1 := hnew ad e; have h2 := HBK10.out.sub z; omega)
      have HR5 := Lib.hid ((hbn.block _ (blk_lt HR10.out)).trans HR10.out)
      clear hd2 hc2 hbn hnew
      refine wpAnyF_ready (rs := [6]) (by kernel_rfl) (by simp) ?_
      refine AllReadyF.cons (o := _) rfl (fun K hK => ?_) AllReadyF.nil
      go_simp
      (go_at_call 15)
      refine (HUP.out b A2 c2 _).mono ?_
      rintro e w3 ⟨rfl, hbn⟩
      refine hK.out _ _ (HK.out _ (hHeld5.2.trans (hbn.mono (Nat.le_trans HSZ.out hHeld5.2.size)))) (fun hHeld6 => ?_)
      clear hK K
      (try simp only [Act.put, List.getElem_toArray, List.getElem_cons_succ, List.getElem_cons_zero, List.setIfInBounds_toArray, List.set_cons_zero, List.set_cons_succ])
      have HR6 := Lib.hid ((hbn.block _ (blk_lt HR5.out)).trans HR5.out)
      clear hbn
      refine wpAnyF_take (i := 7) (oi := _) (v := ?_) rfl (by kernel_rfl) (by kernel_rfl) (by kernel_rfl) (by kernel_rfl) (fun _ _ _ h => h) (Or.inl ⟨by rfl, ?_⟩) (by assumption) ?_
      rotate_left 1
      · intro w hSw
        (try dsimp only at hSw)
        (first | (go_simp; done) | (go_simp; with_reducible rfl))
      (try simp only [Act.put, List.getElem_toArray, List.getElem_cons_succ, List.getElem_cons_zero, List.setIfInBounds_toArray, List.set_cons_zero, List.set_cons_succ])
      refine wpAnyF_take (i := 8) (oi := _) (v := ?_) rfl (by kernel_rfl) (by kernel_rfl) (by kernel_rfl) (by kernel_rfl) (fun _ _ _ h => h) (Or.inl ⟨by rfl, ?_⟩) (by assumption) ?_
      rotate_left 1
      · intro w hSw
        (try dsimp only at hSw)
        (first | (go_simp; done) | (go_simp; with_reducible rfl))
      (try simp only [Act.put, List.getElem_toArray, List.getElem_cons_succ, List.getElem_cons_zero, List.setIfInBounds_toArray, List.set_cons_zero, List.set_cons_succ])
      refine wpAnyF_take (i := 9) (oi := _) (v := ?_) rfl (by kernel_rfl) (by kernel_rfl) (by kernel_rfl) (by kernel_rfl) (fun _ _ _ h => h) (Or.inl ⟨by rfl, ?_⟩) (by assumption) ?_
      rotate_left 1
      · intro w hSw
        (try dsimp only at hSw)
        (first | (go_simp; done) | (go_simp; with_reducible rfl))
      (try simp only [Act.put, List.getElem_toArray, List.getElem_cons_succ, List.getElem_cons_zero, List.setIfInBounds_toArray, List.set_cons_zero, List.set_cons_succ])
      refine wpAnyF_ready (rs := [11]) (by kernel_rfl) (by simp) ?_
      refine AllReadyF.cons (o := _) rfl (fun K hK => ?_) AllReadyF.nil
      rw [if_pos (by kernel_rfl)]
      refine wp_store_row 37 (.tmp 9) (.tmp 27) rfl r (zeros 32) rfl rfl _ (zeros 32) HR6.out HIZ.out rfl HOZ.out ?_
      refine hK.out _ _ (HK.out _ (below_setRow hHeld6.2 HRB.out _)) (fun hHeld11 => ?_)
      clear hK K
      (try simp only [Act.put, List.getElem_toArray, List.getElem_cons_succ, List.getElem_cons_zero, List.setIfInBounds_toArray, List.set_cons_zero, List.set_cons_succ])
      refine wpAnyF_ready (rs := [12]) (by kernel_rfl) (by simp) ?_
      refine AllReadyF.cons (o := _) rfl (fun K hK => ?_) AllReadyF.nil
      go_simp
      refine hK.out _ _ (by assumption) (fun hHeld12 => ?_)
      clear hK K
      (try simp only [Act.put, List.getElem_toArray, List.getElem_cons_succ, List.getElem_cons_zero, List.setIfInBounds_toArray, List.set_cons_zero, List.set_cons_succ])
      refine wpAnyF_done (by kernel_rfl) ?_ _
      have hrf := setRow_heap w3 r (zeros 32) (zeros 32) _ _ HR6.out
      obtain ⟨VF, hVF⟩ : ∃ VF, VF = w3.setRow r (zeros 32) := ⟨_, rfl⟩
      rw [← hVF] at hrf hHeld11 ⊢
      have HRF := Lib.hid hrf
      have HPF := Lib.hid hHeld11.1
      have HWF : Hid (Below w.heap.size w VF) := Lib.hid (HB0.out.trans (hHeld11.2.mono (by have := HKW.out; omega)))
      have HRG : Hid (w.heap.size < r) := Lib.hid (by have := HRB.out; have := HKW.out; omega)
      clear hrf hVF
      go_wp2_with (first
        | (with_reducible refine wpList_load_row_wU (by with_unfolding_all rfl) 37 (.tmp 9) rfl _ rfl 37 _ _ _ HRF.out Try.underlying37 rfl HIZ.out ?_)
        | (with_reducible refine wpList_binU (by with_unfolding_all rfl) .eql 37 37 (.tmp 54) (.tmp 55) rfl (.agg (zeros 32)) (.agg (zeros 32)) (.bool true) rfl (by with_unfolding_all rfl) (bk_guard _ _ _ _ _) (zero_eqU _) ?_))
      refine (awake12_any _).mono ?_
      rintro e w4 ⟨rfl, hb4⟩
      have HB4 := Lib.hid (HWF.out.trans (hb4.mono HWF.out.size))
      clear hb4
      go_wp2
      go_ret
      exact ⟨rfl, HB4.out⟩
  · go_simp
    refine hK.out _ _ (HK.out _ ((hHeld.2).alloc (Nat.le_trans HSZ.out hHeld.2.size) _)) (fun hHeld10 => ?_)
    clear hK K
    (try simp only [Act.put, List.getElem_toArray, List.getElem_cons_succ, List.getElem_cons_zero, List.setIfInBounds_toArray, List.set_cons_zero, List.set_cons_succ])
    have hr := heap_alloc_new W0 (.cells (zeros 32) 37)
    have hbn : Below W0.heap.size W0 (W0.alloc (.cells (zeros 32) 37)) := (Below.refl _ _).alloc (Nat.le_refl _) _
    have hrb : B ≤ W0.heap.size := (Nat.le_trans HSZ.out hHeld.2.size)
    clear hbn
    obtain ⟨V, hV⟩ : ∃ V, V = W0.alloc (.cells (zeros 32) 37) := ⟨_, rfl⟩
    rw [← hV] at hr hHeld10 ⊢
    obtain ⟨r, hrr⟩ : ∃ r, r = W0.heap.size := ⟨_, rfl⟩
    rw [← hrr] at hr hrb ⊢
    have HR10 := Lib.hid hr
    have HRB := Lib.hid hrb
    clear hV hrr hr hrb
    refine wpAnyF_ready (rs := [0]) (by kernel_rfl) (by simp) ?_
    refine AllReadyF.cons (o := _) rfl (fun K hK => ?_) AllReadyF.nil
    go_simp
    (go_at_call 8)
    refine (book12_any _).mono ?_
    rintro e w1 ⟨b, g, S, rfl, hbk, hS, hbn⟩
    refine hK.out _ _ (HK.out _ (hHeld10.2.trans (hbn.mono (Nat.le_trans HSZ.out hHeld10.2.size)))) (fun hHeld0 => ?_)
    clear hK K
    (try simp only [Act.put, List.getElem_toArray, List.getElem_cons_succ, List.getElem_cons_zero, List.setIfInBounds_toArray, List.set_cons_zero, List.set_cons_succ])
    have HBK0 := Lib.hid hbk
    have HS : Hid (∀ j, S j → B ≤ j) := Lib.hid (fun j hj => Nat.le_trans (Nat.le_trans HSZ.out hHeld10.2.size) (hS j hj))
    have HR0 := Lib.hid ((hbn.block _ (blk_lt HR10.out)).trans HR10.out)
    have HRS : Hid (¬ S r) := Lib.hid (fun z => by have h1 := hS r z; have h2 := blk_lt HR10.out; exact absurd h1 (Nat.not_le.2 h2))
    clear hbk hS hbn
    refine wpAnyF_ready (rs := [5]) (by kernel_rfl) (by simp) ?_
    refine AllReadyF.cons (o := _) rfl (fun K hK => ?_) AllReadyF.nil
    go_simp
    (go_at_call 9)
    refine (digests_new 12 c (some ⟨b0, o0, none⟩) ps _ (HDS.out.below (HB0.out.trans (hHeld0.2.mono (by have := HKW.out; omega)))) (by omega)).mono ?_
    rintro e w2 ⟨A2, c2, rfl, hc2, hd2, hbn, hnew⟩
    refine hK.out _ _ (HK.out _ (hHeld0.2.trans (hbn.mono (Nat.le_trans HSZ.out hHeld0.2.size)))) (fun hHeld5 => ?_)
    clear hK K
    (try simp only [Act.put, List.getElem_toArray, List.getElem_cons_succ, List.getElem_cons_zero, List.setIfInBounds_toArray, List.set_cons_zero, List.set_cons_succ])
    have HBK5 := Lib.hid (HBK0.out.below hbn)
    have HD5 := Lib.hid hd2
    have HC2 := Lib.hid hc2
    have HOFF : Hid (∀ ad, A2 = some ad → ¬ S ad.block) := Lib.hid (fun ad e z => by have h1 := hnew ad e; have h2 := HBK0.out.sub z; omega)
    have HR5 := Lib.hid ((hbn.block _ (blk_lt HR0.out)).trans HR0.out)
    clear hd2 hc2 hbn hnew
    refine wpAnyF_ready (rs := [6]) (by kernel_rfl) (by simp) ?_
    refine AllReadyF.cons (o := _) rfl (fun K hK => ?_) AllReadyF.nil
    go_simp
    (go_at_call 15)
    refine (HUP.out b A2 c2 _).mono ?_
    rintro e w3 ⟨rfl, hbn⟩
    refine hK.out _ _ (HK.out _ (hHeld5.2.trans (hbn.mono (Nat.le_trans HSZ.out hHeld5.2.size)))) (fun hHeld6 => ?_)
    clear hK K
    (try simp only [Act.put, List.getElem_toArray, List.getElem_cons_succ, List.getElem_cons_zero, List.setIfInBounds_toArray, List.set_cons_zero, List.set_cons_succ])
    have HR6 := Lib.hid ((hbn.block _ (blk_lt HR5.out)).trans HR5.out)
    clear hbn
    refine wpAnyF_take (i := 7) (oi := _) (v := ?_) rfl (by kernel_rfl) (by kernel_rfl) (by kernel_rfl) (by kernel_rfl) (fun _ _ _ h => h) (Or.inl ⟨by rfl, ?_⟩) (by assumption) ?_
    rotate_left 1
    · intro w hSw
      (try dsimp only at hSw)
      (first | (go_simp; done) | (go_simp; with_reducible rfl))
    (try simp only [Act.put, List.getElem_toArray, List.getElem_cons_succ, List.getElem_cons_zero, List.setIfInBounds_toArray, List.set_cons_zero, List.set_cons_succ])
    refine wpAnyF_take (i := 8) (oi := _) (v := ?_) rfl (by kernel_rfl) (by kernel_rfl) (by kernel_rfl) (by kernel_rfl) (fun _ _ _ h => h) (Or.inl ⟨by rfl, ?_⟩) (by assumption) ?_
    rotate_left 1
    · intro w hSw
      (try dsimp only at hSw)
      (first | (go_simp; done) | (go_simp; with_reducible rfl))
    (try simp only [Act.put, List.getElem_toArray, List.getElem_cons_succ, List.getElem_cons_zero, List.setIfInBounds_toArray, List.set_cons_zero, List.set_cons_succ])
    refine wpAnyF_take (i := 9) (oi := _) (v := ?_) rfl (by kernel_rfl) (by kernel_rfl) (by kernel_rfl) (by kernel_rfl) (fun _ _ _ h => h) (Or.inl ⟨by rfl, ?_⟩) (by assumption) ?_
    rotate_left 1
    · intro w hSw
      (try dsimp only at hSw)
      (first | (go_simp; done) | (go_simp; with_reducible rfl))
    (try simp only [Act.put, List.getElem_toArray, List.getElem_cons_succ, List.getElem_cons_zero, List.setIfInBounds_toArray, List.set_cons_zero, List.set_cons_succ])
    refine wpAnyF_ready (rs := [11]) (by kernel_rfl) (by simp) ?_
    refine AllReadyF.cons (o := _) rfl (fun K hK => ?_) AllReadyF.nil
    rw [if_pos (by kernel_rfl)]
    refine wp_store_row 37 (.tmp 9) (.tmp 27) rfl r (zeros 32) rfl rfl _ (zeros 32) HR6.out HIZ.out rfl HOZ.out ?_
    refine hK.out _ _ (HK.out _ (below_setRow hHeld6.2 HRB.out _)) (fun hHeld11 => ?_)
    clear hK K
    (try simp only [Act.put, List.getElem_toArray, List.getElem_cons_succ, List.getElem_cons_zero, List.setIfInBounds_toArray, List.set_cons_zero, List.set_cons_succ])
    refine wpAnyF_ready (rs := [12]) (by kernel_rfl) (by simp) ?_
    refine AllReadyF.cons (o := _) rfl (fun K hK => ?_) AllReadyF.nil
    go_simp
    refine hK.out _ _ (by assumption) (fun hHeld12 => ?_)
    clear hK K
    (try simp only [Act.put, List.getElem_toArray, List.getElem_cons_succ, List.getElem_cons_zero, List.setIfInBounds_toArray, List.set_cons_zero, List.set_cons_succ])
    refine wpAnyF_done (by kernel_rfl) ?_ _
    have hrf := setRow_heap w3 r (zeros 32) (zeros 32) _ _ HR6.out
    obtain ⟨VF, hVF⟩ : ∃ VF, VF = w3.setRow r (zeros 32) := ⟨_, rfl⟩
    rw [← hVF] at hrf hHeld11 ⊢
    have HRF := Lib.hid hrf
    have HPF := Lib.hid hHeld11.1
    have HWF : Hid (Below w.heap.size w VF) := Lib.hid (HB0.out.trans (hHeld11.2.mono (by have := HKW.out; omega)))
    have HRG : Hid (w.heap.size < r) := Lib.hid (by have := HRB.out; have := HKW.out; omega)
    clear hrf hVF
    go_wp2_with (first
      | (with_reducible refine wpList_load_row_wU (by with_unfolding_all rfl) 37 (.tmp 9) rfl _ rfl 37 _ _ _ HRF.out Try.underlying37 rfl HIZ.out ?_)
      | (with_reducible refine wpList_binU (by with_unfolding_all rfl) .eql 37 37 (.tmp 54) (.tmp 55) rfl (.agg (zeros 32)) (.agg (zeros 32)) (.bool true) rfl (by with_unfolding_all rfl) (bk_guard _ _ _ _ _) (zero_eqU _) ?_))
    refine (awake12_any _).mono ?_
    rintro e w4 ⟨rfl, hb4⟩
    have HB4 := Lib.hid (HWF.out.trans (hb4.mono HWF.out.size))
    clear hb4
    go_wp2
    go_ret
    exact ⟨rfl, HB4.out⟩
set_option maxHeartbeats 4000000 in
theorem treeUp_cn3 (n k : Int) (x : List Nat) (b0 o0 m0 c : Nat) (ps : Nat → List Nat) (w : World) (hds : DgS w (some ⟨b0, o0, none⟩) 12 ps) (h12 : 12 < m0) (hc : m0 ≤ c) (hcm : c ≤ 9223372036854775807) (hx : IsDig x) (h1 : ¬ n < 1) (h2 : ¬ 1024 < n) (h3 : k < 0) :
    Calls Try.prog 4 #[.int .i64 n, .int .i64 k, .agg (dA x), .slice (some ⟨b0, o0, none⟩) m0 c] w fun e w' => e = .returned (.bool true) ∧ Below w.heap.size w w' := by
  have hz := zero_dig
  have hzr := zero32
  obtain ⟨W0, hW0⟩ : ∃ W0, W0 = w.alloc (.cells (dA x) 34) := ⟨_, rfl⟩
  have HB0 : Hid (Below w.heap.size w W0) := Lib.hid (by rw [hW0]; exact (Below.refl _ _).alloc (Nat.le_refl _) _)
  have HP6 : Hid (W0.heap[w.heap.size]? = some (.cells (dA x) 34 (0, 0))) := Lib.hid (by rw [hW0]; exact heap_alloc_new w _)
  have HW0 := Lib.hid hW0
  have hx32 : (dA x).size = 32 := by rw [rowV_size]
  have HIX := Lib.hid (info_d32 hx32)
  have HOX : Hid ((dA x).all (·.oneCell') = true) := Lib.hid (dA_one _)
  have HDS := Lib.hid hds
  have HX := Lib.hid hx
  obtain ⟨B, hB⟩ : ∃ B, B = W0.heap.size := ⟨_, rfl⟩
  have HKW : Hid (B = w.heap.size + 1) := Lib.hid (by rw [hB, hW0]; simp)
  have HBB := Lib.hid hB
  have HSZ : Hid (B ≤ W0.heap.size) := Lib.hid (Nat.le_of_eq hB)
  have HIZ := Lib.hid (info_dig (cs := zeros 32) (by simp [zeros]))
  have HOZ : Hid ((zeros 32).all (·.oneCell') = true) := Lib.hid (by kernel_rfl)
  have HUP : Hid (∀ (b : Nat) (A2 : Option Addr) (c2 : Nat) (W : World), Calls Try.prog 15 #[.pointer (some ⟨b, 0, none⟩), .int .i64 n, .int .i64 k, .agg (dA x), .slice A2 12 c2] W (UpNo W)) := Lib.hid (fun b A2 c2 W => tup_no b n k x A2 12 c2 W (by have := dpX_le n.toNat; omega))
  obtain ⟨xd, hxd⟩ : ∃ z, z = dA x := ⟨_, rfl⟩
  have HXD := Lib.hid hxd
  rw [← hxd] at HW0 HP6 HIX HOX HUP ⊢
  clear hW0 hx32 hxd hds hx hB
  have hm1 : (12 : Int) < (m0 : Int) := by omega
  have hm2 : 12 < m0 := h12
  have hc12 : 12 ≤ c := by omega
  have hm : 12 ≤ 12 := Nat.le_refl _
  go_enter Try.func4, Try.ntmps4
  go_wp2_with (with_reducible refine Go.Great.wpList_boxTo rfl 34 (.tmp 2) rfl (some 6) rfl w.heap.size (by simp) xd rfl ?_)
  rw [← HW0.out]
  go_upto_region 3 with (fail)
  have HK : Hid (∀ W, Below B W0 W → W.heap[w.heap.size]? = some (.cells xd 34 (0, 0)) ∧ Below B W0 W) := Lib.hid (fun W hW => ⟨(hW.block _ (by have := HKW.out; omega)).trans HP6.out, hW⟩)
  refine wp_region_F (S := (fun W : World => W.heap[w.heap.size]? = some (.cells xd 34 (0, 0)) ∧ Below B W0 W)) [] (by kernel_rfl) (HK.out _ (by have e := HBB.out; rw [e]; exact (Below.refl _ _).drew)) (fun hHeld => ?_)
  refine wpAnyF_take (i := 1) (oi := _) (v := ?_) rfl (by kernel_rfl) (by kernel_rfl) (by kernel_rfl) (by kernel_rfl) (fun _ _ _ h => h) (Or.inl ⟨by rfl, ?_⟩) (by assumption) ?_
  rotate_left 1
  · intro w hSw
    (try dsimp only at hSw)
    (first | (go_simp; done) | (go_simp; with_reducible rfl))
  (try simp only [Act.put, List.getElem_toArray, List.getElem_cons_succ, List.getElem_cons_zero, List.setIfInBounds_toArray, List.set_cons_zero, List.set_cons_succ])
  refine wpAnyF_take (i := 2) (oi := _) (v := ?_) rfl (by kernel_rfl) (by kernel_rfl) (by kernel_rfl) (by kernel_rfl) (fun _ _ _ h => h) (Or.inl ⟨by rfl, ?_⟩) (by assumption) ?_
  rotate_left 1
  · intro w hSw
    (try dsimp only at hSw)
    (first | (go_simp; done) | (go_simp; with_reducible rfl))
  (try simp only [Act.put, List.getElem_toArray, List.getElem_cons_succ, List.getElem_cons_zero, List.setIfInBounds_toArray, List.set_cons_zero, List.set_cons_succ])
  refine wpAnyF_take (i := 3) (oi := _) (v := _) rfl (by kernel_rfl) (by kernel_rfl) (by kernel_rfl) (by kernel_rfl) (fun _ _ _ h => h) (yields_rowU (by rfl) 34 (.tmp 6) rfl w.heap.size 0 rfl xd _ (fun W h => range_cells h.1) Try.underlying34 rfl HIX.out) (by assumption) ?_
  (try simp only [Act.put, List.getElem_toArray, List.getElem_cons_succ, List.getElem_cons_zero, List.setIfInBounds_toArray, List.set_cons_zero, List.set_cons_succ])
  refine wpAnyF_take (i := 4) (oi := _) (v := ?_) rfl (by kernel_rfl) (by kernel_rfl) (by kernel_rfl) (by kernel_rfl) (fun _ _ _ h => h) (Or.inl ⟨by rfl, ?_⟩) (by assumption) ?_
  rotate_left 1
  · intro w hSw
    (try dsimp only at hSw)
    (first | (go_simp; done) | (go_simp; with_reducible rfl))
  (try simp only [Act.put, List.getElem_toArray, List.getElem_cons_succ, List.getElem_cons_zero, List.setIfInBounds_toArray, List.set_cons_zero, List.set_cons_succ])
  refine wpAnyF_ready (rs := [0, 10]) (by kernel_rfl) (by simp) ?_
  refine AllReadyF.cons (o := _) rfl (fun K hK => ?_) (AllReadyF.cons (o := _) rfl (fun K hK => ?_) AllReadyF.nil)
  · go_simp
    (go_at_call 8)
    refine (book12_any _).mono ?_
    rintro e w1 ⟨b, g, S, rfl, hbk, hS, hbn⟩
    refine hK.out _ _ (HK.out _ (hHeld.2.trans (hbn.mono (Nat.le_trans HSZ.out hHeld.2.size)))) (fun hHeld0 => ?_)
    clear hK K
    (try simp only [Act.put, List.getElem_toArray, List.getElem_cons_succ, List.getElem_cons_zero, List.setIfInBounds_toArray, List.set_cons_zero, List.set_cons_succ])
    have HBK0 := Lib.hid hbk
    have HS : Hid (∀ j, S j → B ≤ j) := Lib.hid (fun j hj => Nat.le_trans (Nat.le_trans HSZ.out hHeld.2.size) (hS j hj))
    clear hbk hS hbn
    refine wpAnyF_ready (rs := [5, 10]) (by kernel_rfl) (by simp) ?_
    refine AllReadyF.cons (o := _) rfl (fun K hK => ?_) (AllReadyF.cons (o := _) rfl (fun K hK => ?_) AllReadyF.nil)
    · go_simp
      (go_at_call 9)
      refine (digests_new 12 c (some ⟨b0, o0, none⟩) ps _ (HDS.out.below (HB0.out.trans (hHeld0.2.mono (by have := HKW.out; omega)))) (by omega)).mono ?_
      rintro e w2 ⟨A2, c2, rfl, hc2, hd2, hbn, hnew⟩
      refine hK.out _ _ (HK.out _ (hHeld0.2.trans (hbn.mono (Nat.le_trans HSZ.out hHeld0.2.size)))) (fun hHeld5 => ?_)
      clear hK K
      (try simp only [Act.put, List.getElem_toArray, List.getElem_cons_succ, List.getElem_cons_zero, List.setIfInBounds_toArray, List.set_cons_zero, List.set_cons_succ])
      have HBK5 := Lib.hid (HBK0.out.below hbn)
      have HD5 := Lib.hid hd2
      have HC2 := Lib.hid hc2
      have HOFF : Hid (∀ ad, A2 = some ad → ¬ S ad.block) := Lib.hid (fun ad e z => by have h1 := hnew ad e; have h2 := HBK0.out.sub z; omega)
      clear hd2 hc2 hbn hnew
      refine wpAnyF_ready (rs := [6, 10]) (by kernel_rfl) (by simp) ?_
      refine AllReadyF.cons (o := _) rfl (fun K hK => ?_) (AllReadyF.cons (o := _) rfl (fun K hK => ?_) AllReadyF.nil)
      · go_simp
        (go_at_call 15)
        refine (HUP.out b A2 c2 _).mono ?_
        rintro e w3 ⟨rfl, hbn⟩
        refine hK.out _ _ (HK.out _ (hHeld5.2.trans (hbn.mono (Nat.le_trans HSZ.out hHeld5.2.size)))) (fun hHeld6 => ?_)
        clear hK K
        (try simp only [Act.put, List.getElem_toArray, List.getElem_cons_succ, List.getElem_cons_zero, List.setIfInBounds_toArray, List.set_cons_zero, List.set_cons_succ])
        clear hbn
        refine wpAnyF_take (i := 7) (oi := _) (v := ?_) rfl (by kernel_rfl) (by kernel_rfl) (by kernel_rfl) (by kernel_rfl) (fun _ _ _ h => h) (Or.inl ⟨by rfl, ?_⟩) (by assumption) ?_
        rotate_left 1
        · intro w hSw
          (try dsimp only at hSw)
          (first | (go_simp; done) | (go_simp; with_reducible rfl))
        (try simp only [Act.put, List.getElem_toArray, List.getElem_cons_succ, List.getElem_cons_zero, List.setIfInBounds_toArray, List.set_cons_zero, List.set_cons_succ])
        refine wpAnyF_take (i := 8) (oi := _) (v := ?_) rfl (by kernel_rfl) (by kernel_rfl) (by kernel_rfl) (by kernel_rfl) (fun _ _ _ h => h) (Or.inl ⟨by rfl, ?_⟩) (by assumption) ?_
        rotate_left 1
        · intro w hSw
          (try dsimp only at hSw)
          (first | (go_simp; done) | (go_simp; with_reducible rfl))
        (try simp only [Act.put, List.getElem_toArray, List.getElem_cons_succ, List.getElem_cons_zero, List.setIfInBounds_toArray, List.set_cons_zero, List.set_cons_succ])
        refine wpAnyF_take (i := 9) (oi := _) (v := ?_) rfl (by kernel_rfl) (by kernel_rfl) (by kernel_rfl) (by kernel_rfl) (fun _ _ _ h => h) (Or.inl ⟨by rfl, ?_⟩) (by assumption) ?_
        rotate_left 1
        · intro w hSw
          (try dsimp only at hSw)
          (first | (go_simp; done) | (go_simp; with_reducible rfl))
        (try simp only [Act.put, List.getElem_toArray, List.getElem_cons_succ, List.getElem_cons_zero, List.setIfInBounds_toArray, List.set_cons_zero, List.set_cons_succ])
        refine wpAnyF_ready (rs := [10]) (by kernel_rfl) (by simp) ?_
        refine AllReadyF.cons (o := _) rfl (fun K hK => ?_) AllReadyF.nil
        go_simp
        refine hK.out _ _ (HK.out _ ((hHeld6.2).alloc (Nat.le_trans HSZ.out hHeld6.2.size) _)) (fun hHeld10 => ?_)
        clear hK K
        (try simp only [Act.put, List.getElem_toArray, List.getElem_cons_succ, List.getElem_cons_zero, List.setIfInBounds_toArray, List.set_cons_zero, List.set_cons_succ])
        have hr := heap_alloc_new w3 (.cells (zeros 32) 37)
        have hbn : Below w3.heap.size w3 (w3.alloc (.cells (zeros 32) 37)) := (Below.refl _ _).alloc (Nat.le_refl _) _
        have hrb : B ≤ w3.heap.size := (Nat.le_trans HSZ.out hHeld6.2.size)
        clear hbn
        obtain ⟨V, hV⟩ : ∃ V, V = w3.alloc (.cells (zeros 32) 37) := ⟨_, rfl⟩
        rw [← hV] at hr hHeld10 ⊢
        obtain ⟨r, hrr⟩ : ∃ r, r = w3.heap.size := ⟨_, rfl⟩
        rw [← hrr] at hr hrb ⊢
        have HR10 := Lib.hid hr
        have HRB := Lib.hid hrb
        clear hV hrr hr hrb
        refine wpAnyF_ready (rs := [11]) (by kernel_rfl) (by simp) ?_
        refine AllReadyF.cons (o := _) rfl (fun K hK => ?_) AllReadyF.nil
        rw [if_pos (by kernel_rfl)]
        refine wp_store_row 37 (.tmp 9) (.tmp 27) rfl r (zeros 32) rfl rfl _ (zeros 32) HR10.out HIZ.out rfl HOZ.out ?_
        refine hK.out _ _ (HK.out _ (below_setRow hHeld10.2 HRB.out _)) (fun hHeld11 => ?_)
        clear hK K
        (try simp only [Act.put, List.getElem_toArray, List.getElem_cons_succ, List.getElem_cons_zero, List.setIfInBounds_toArray, List.set_cons_zero, List.set_cons_succ])
        refine wpAnyF_ready (rs := [12]) (by kernel_rfl) (by simp) ?_
        refine AllReadyF.cons (o := _) rfl (fun K hK => ?_) AllReadyF.nil
        go_simp
        refine hK.out _ _ (by assumption) (fun hHeld12 => ?_)
        clear hK K
        (try simp only [Act.put, List.getElem_toArray, List.getElem_cons_succ, List.getElem_cons_zero, List.setIfInBounds_toArray, List.set_cons_zero, List.set_cons_succ])
        refine wpAnyF_done (by kernel_rfl) ?_ _
        have hrf := setRow_heap V r (zeros 32) (zeros 32) _ _ HR10.out
        obtain ⟨VF, hVF⟩ : ∃ VF, VF = V.setRow r (zeros 32) := ⟨_, rfl⟩
        rw [← hVF] at hrf hHeld11 ⊢
        have HRF := Lib.hid hrf
        have HPF := Lib.hid hHeld11.1
        have HWF : Hid (Below w.heap.size w VF) := Lib.hid (HB0.out.trans (hHeld11.2.mono (by have := HKW.out; omega)))
        have HRG : Hid (w.heap.size < r) := Lib.hid (by have := HRB.out; have := HKW.out; omega)
        clear hrf hVF
        go_wp2_with (first
          | (with_reducible refine wpList_load_row_wU (by with_unfolding_all rfl) 37 (.tmp 9) rfl _ rfl 37 _ _ _ HRF.out Try.underlying37 rfl HIZ.out ?_)
          | (with_reducible refine wpList_binU (by with_unfolding_all rfl) .eql 37 37 (.tmp 54) (.tmp 55) rfl (.agg (zeros 32)) (.agg (zeros 32)) (.bool true) rfl (by with_unfolding_all rfl) (bk_guard _ _ _ _ _) (zero_eqU _) ?_))
        refine (awake12_any _).mono ?_
        rintro e w4 ⟨rfl, hb4⟩
        have HB4 := Lib.hid (HWF.out.trans (hb4.mono HWF.out.size))
        clear hb4
        go_wp2
        go_ret
        exact ⟨rfl, HB4.out⟩
      · go_simp
        refine hK.out _ _ (HK.out _ ((hHeld5.2).alloc (Nat.le_trans HSZ.out hHeld5.2.size) _)) (fun hHeld10 => ?_)
        clear hK K
        (try simp only [Act.put, List.getElem_toArray, List.getElem_cons_succ, List.getElem_cons_zero, List.setIfInBounds_toArray, List.set_cons_zero, List.set_cons_succ])
        have hr := heap_alloc_new w2 (.cells (zeros 32) 37)
        have hbn : Below w2.heap.size w2 (w2.alloc (.cells (zeros 32) 37)) := (Below.refl _ _).alloc (Nat.le_refl _) _
        have HBK10 := Lib.hid (HBK5.out.below hbn)
        have HD10 := Lib.hid (HD5.out.below hbn)
        have hrb : B ≤ w2.heap.size := (Nat.le_trans HSZ.out hHeld5.2.size)
        have hrs : ¬ S w2.heap.size := fun z => by have := HBK5.out.sub z; omega
        clear hbn
        obtain ⟨V, hV⟩ : ∃ V, V = w2.alloc (.cells (zeros 32) 37) := ⟨_, rfl⟩
        rw [← hV] at hr hHeld10 ⊢
        rw [← hV] at HBK10
        rw [← hV] at HD10
        obtain ⟨r, hrr⟩ : ∃ r, r = w2.heap.size := ⟨_, rfl⟩
        rw [← hrr] at hr hrb ⊢
        rw [← hrr] at hrs
        have HRS := Lib.hid hrs
        clear hrs
        have HR10 := Lib.hid hr
        have HRB := Lib.hid hrb
        clear hV hrr hr hrb
        refine wpAnyF_ready (rs := [6]) (by kernel_rfl) (by simp) ?_
        refine AllReadyF.cons (o := _) rfl (fun K hK => ?_) AllReadyF.nil
        go_simp
        (go_at_call 15)
        refine (HUP.out b A2 c2 _).mono ?_
        rintro e w3 ⟨rfl, hbn⟩
        refine hK.out _ _ (HK.out _ (hHeld10.2.trans (hbn.mono (Nat.le_trans HSZ.out hHeld10.2.size)))) (fun hHeld6 => ?_)
        clear hK K
        (try simp only [Act.put, List.getElem_toArray, List.getElem_cons_succ, List.getElem_cons_zero, List.setIfInBounds_toArray, List.set_cons_zero, List.set_cons_succ])
        have HR6 := Lib.hid ((hbn.block _ (blk_lt HR10.out)).trans HR10.out)
        clear hbn
        refine wpAnyF_take (i := 7) (oi := _) (v := ?_) rfl (by kernel_rfl) (by kernel_rfl) (by kernel_rfl) (by kernel_rfl) (fun _ _ _ h => h) (Or.inl ⟨by rfl, ?_⟩) (by assumption) ?_
        rotate_left 1
        · intro w hSw
          (try dsimp only at hSw)
          (first | (go_simp; done) | (go_simp; with_reducible rfl))
        (try simp only [Act.put, List.getElem_toArray, List.getElem_cons_succ, List.getElem_cons_zero, List.setIfInBounds_toArray, List.set_cons_zero, List.set_cons_succ])
        refine wpAnyF_take (i := 8) (oi := _) (v := ?_) rfl (by kernel_rfl) (by kernel_rfl) (by kernel_rfl) (by kernel_rfl) (fun _ _ _ h => h) (Or.inl ⟨by rfl, ?_⟩) (by assumption) ?_
        rotate_left 1
        · intro w hSw
          (try dsimp only at hSw)
          (first | (go_simp; done) | (go_simp; with_reducible rfl))
        (try simp only [Act.put, List.getElem_toArray, List.getElem_cons_succ, List.getElem_cons_zero, List.setIfInBounds_toArray, List.set_cons_zero, List.set_cons_succ])
        refine wpAnyF_take (i := 9) (oi := _) (v := ?_) rfl (by kernel_rfl) (by kernel_rfl) (by kernel_rfl) (by kernel_rfl) (fun _ _ _ h => h) (Or.inl ⟨by rfl, ?_⟩) (by assumption) ?_
        rotate_left 1
        · intro w hSw
          (try dsimp only at hSw)
          (first | (go_simp; done) | (go_simp; with_reducible rfl))
        (try simp only [Act.put, List.getElem_toArray, List.getElem_cons_succ, List.getElem_cons_zero, List.setIfInBounds_toArray, List.set_cons_zero, List.set_cons_succ])
        refine wpAnyF_ready (rs := [11]) (by kernel_rfl) (by simp) ?_
        refine AllReadyF.cons (o := _) rfl (fun K hK => ?_) AllReadyF.nil
        rw [if_pos (by kernel_rfl)]
        refine wp_store_row 37 (.tmp 9) (.tmp 27) rfl r (zeros 32) rfl rfl _ (zeros 32) HR6.out HIZ.out rfl HOZ.out ?_
        refine hK.out _ _ (HK.out _ (below_setRow hHeld6.2 HRB.out _)) (fun hHeld11 => ?_)
        clear hK K
        (try simp only [Act.put, List.getElem_toArray, List.getElem_cons_succ, List.getElem_cons_zero, List.setIfInBounds_toArray, List.set_cons_zero, List.set_cons_succ])
        refine wpAnyF_ready (rs := [12]) (by kernel_rfl) (by simp) ?_
        refine AllReadyF.cons (o := _) rfl (fun K hK => ?_) AllReadyF.nil
        go_simp
        refine hK.out _ _ (by assumption) (fun hHeld12 => ?_)
        clear hK K
        (try simp only [Act.put, List.getElem_toArray, List.getElem_cons_succ, List.getElem_cons_zero, List.setIfInBounds_toArray, List.set_cons_zero, List.set_cons_succ])
        refine wpAnyF_done (by kernel_rfl) ?_ _
        have hrf := setRow_heap w3 r (zeros 32) (zeros 32) _ _ HR6.out
        obtain ⟨VF, hVF⟩ : ∃ VF, VF = w3.setRow r (zeros 32) := ⟨_, rfl⟩
        rw [← hVF] at hrf hHeld11 ⊢
        have HRF := Lib.hid hrf
        have HPF := Lib.hid hHeld11.1
        have HWF : Hid (Below w.heap.size w VF) := Lib.hid (HB0.out.trans (hHeld11.2.mono (by have := HKW.out; omega)))
        have HRG : Hid (w.heap.size < r) := Lib.hid (by have := HRB.out; have := HKW.out; omega)
        clear hrf hVF
        go_wp2_with (first
          | (with_reducible refine wpList_load_row_wU (by with_unfolding_all rfl) 37 (.tmp 9) rfl _ rfl 37 _ _ _ HRF.out Try.underlying37 rfl HIZ.out ?_)
          | (with_reducible refine wpList_binU (by with_unfolding_all rfl) .eql 37 37 (.tmp 54) (.tmp 55) rfl (.agg (zeros 32)) (.agg (zeros 32)) (.bool true) rfl (by with_unfolding_all rfl) (bk_guard _ _ _ _ _) (zero_eqU _) ?_))
        refine (awake12_any _).mono ?_
        rintro e w4 ⟨rfl, hb4⟩
        have HB4 := Lib.hid (HWF.out.trans (hb4.mono HWF.out.size))
        clear hb4
        go_wp2
        go_ret
        exact ⟨rfl, HB4.out⟩
    · go_simp
      refine hK.out _ _ (HK.out _ ((hHeld0.2).alloc (Nat.le_trans HSZ.out hHeld0.2.size) _)) (fun hHeld10 => ?_)
      clear hK K
      (try simp only [Act.put, List.getElem_toArray, List.getElem_cons_succ, List.getElem_cons_zero, List.setIfInBounds_toArray, List.set_cons_zero, List.set_cons_succ])
      have hr := heap_alloc_new w1 (.cells (zeros 32) 37)
      have hbn : Below w1.heap.size w1 (w1.alloc (.cells (zeros 32) 37)) := (Below.refl _ _).alloc (Nat.le_refl _) _
      have HBK10 := Lib.hid (HBK0.out.below hbn)
      have hrb : B ≤ w1.heap.size := (Nat.le_trans HSZ.out hHeld0.2.size)
      have hrs : ¬ S w1.heap.size := fun z => by have := HBK0.out.sub z; omega
      clear hbn
      obtain ⟨V, hV⟩ : ∃ V, V = w1.alloc (.cells (zeros 32) 37) := ⟨_, rfl⟩
      rw [← hV] at hr hHeld10 ⊢
      rw [← hV] at HBK10
      obtain ⟨r, hrr⟩ : ∃ r, r = w1.heap.size := ⟨_, rfl⟩
      rw [← hrr] at hr hrb ⊢
      rw [← hrr] at hrs
      have HRS := Lib.hid hrs
      clear hrs
      have HR10 := Lib.hid hr
      have HRB := Lib.hid hrb
      clear hV hrr hr hrb
      refine wpAnyF_ready (rs := [5]) (by kernel_rfl) (by simp) ?_
      refine AllReadyF.cons (o := _) rfl (fun K hK => ?_) AllReadyF.nil
      go_simp
      (go_at_call 9)
      refine (digests_new 12 c (some ⟨b0, o0, none⟩) ps _ (HDS.out.below (HB0.out.trans (hHeld10.2.mono (by have := HKW.out; omega)))) (by omega)).mono ?_
      rintro e w2 ⟨A2, c2, rfl, hc2, hd2, hbn, hnew⟩
      refine hK.out _ _ (HK.out _ (hHeld10.2.trans (hbn.mono (Nat.le_trans HSZ.out hHeld10.2.size)))) (fun hHeld5 => ?_)
      clear hK K
      (try simp only [Act.put, List.getElem_toArray, List.getElem_cons_succ, List.getElem_cons_zero, List.setIfInBounds_toArray, List.set_cons_zero, List.set_cons_succ])
      have HBK5 := Lib.hid (HBK10.out.below hbn)
      have HD5 := Lib.hid hd2
      have HC2 := Lib.hid hc2
      have HOFF : Hid (∀ ad, A2 = some ad → ¬ S ad.block) := Lib.hid (fun ad e z => by have h1 := hnew ad e; have h2 := HBK10.out.sub z; omega)
      have HR5 := Lib.hid ((hbn.block _ (blk_lt HR10.out)).trans HR10.out)
      clear hd2 hc2 hbn hnew
      refine wpAnyF_ready (rs := [6]) (by kernel_rfl) (by simp) ?_
      refine AllReadyF.cons (o := _) rfl (fun K hK => ?_) AllReadyF.nil
      go_simp
      (go_at_call 15)
      refine (HUP.out b A2 c2 _).mono ?_
      rintro e w3 ⟨rfl, hbn⟩
      refine hK.out _ _ (HK.out _ (hHeld5.2.trans (hbn.mono (Nat.le_trans HSZ.out hHeld5.2.size)))) (fun hHeld6 => ?_)
      clear hK K
      (try simp only [Act.put, List.getElem_toArray, List.getElem_cons_succ, List.getElem_cons_zero, List.setIfInBounds_toArray, List.set_cons_zero, List.set_cons_succ])
      have HR6 := Lib.hid ((hbn.block _ (blk_lt HR5.out)).trans HR5.out)
      clear hbn
      refine wpAnyF_take (i := 7) (oi := _) (v := ?_) rfl (by kernel_rfl) (by kernel_rfl) (by kernel_rfl) (by kernel_rfl) (fun _ _ _ h => h) (Or.inl ⟨by rfl, ?_⟩) (by assumption) ?_
      rotate_left 1
      · intro w hSw
        (try dsimp only at hSw)
        (first | (go_simp; done) | (go_simp; with_reducible rfl))
      (try simp only [Act.put, List.getElem_toArray, List.getElem_cons_succ, List.getElem_cons_zero, List.setIfInBounds_toArray, List.set_cons_zero, List.set_cons_succ])
      refine wpAnyF_take (i := 8) (oi := _) (v := ?_) rfl (by kernel_rfl) (by kernel_rfl) (by kernel_rfl) (by kernel_rfl) (fun _ _ _ h => h) (Or.inl ⟨by rfl, ?_⟩) (by assumption) ?_
      rotate_left 1
      · intro w hSw
        (try dsimp only at hSw)
        (first | (go_simp; done) | (go_simp; with_reducible rfl))
      (try simp only [Act.put, List.getElem_toArray, List.getElem_cons_succ, List.getElem_cons_zero, List.setIfInBounds_toArray, List.set_cons_zero, List.set_cons_succ])
      refine wpAnyF_take (i := 9) (oi := _) (v := ?_) rfl (by kernel_rfl) (by kernel_rfl) (by kernel_rfl) (by kernel_rfl) (fun _ _ _ h => h) (Or.inl ⟨by rfl, ?_⟩) (by assumption) ?_
      rotate_left 1
      · intro w hSw
        (try dsimp only at hSw)
        (first | (go_simp; done) | (go_simp; with_reducible rfl))
      (try simp only [Act.put, List.getElem_toArray, List.getElem_cons_succ, List.getElem_cons_zero, List.setIfInBounds_toArray, List.set_cons_zero, List.set_cons_succ])
      refine wpAnyF_ready (rs := [11]) (by kernel_rfl) (by simp) ?_
      refine AllReadyF.cons (o := _) rfl (fun K hK => ?_) AllReadyF.nil
      rw [if_pos (by kernel_rfl)]
      refine wp_store_row 37 (.tmp 9) (.tmp 27) rfl r (zeros 32) rfl rfl _ (zeros 32) HR6.out HIZ.out rfl HOZ.out ?_
      refine hK.out _ _ (HK.out _ (below_setRow hHeld6.2 HRB.out _)) (fun hHeld11 => ?_)
      clear hK K
      (try simp only [Act.put, List.getElem_toArray, List.getElem_cons_succ, List.getElem_cons_zero, List.setIfInBounds_toArray, List.set_cons_zero, List.set_cons_succ])
      refine wpAnyF_ready (rs := [12]) (by kernel_rfl) (by simp) ?_
      refine AllReadyF.cons (o := _) rfl (fun K hK => ?_) AllReadyF.nil
      go_simp
      refine hK.out _ _ (by assumption) (fun hHeld12 => ?_)
      clear hK K
      (try simp only [Act.put, List.getElem_toArray, List.getElem_cons_succ, List.getElem_cons_zero, List.setIfInBounds_toArray, List.set_cons_zero, List.set_cons_succ])
      refine wpAnyF_done (by kernel_rfl) ?_ _
      have hrf := setRow_heap w3 r (zeros 32) (zeros 32) _ _ HR6.out
      obtain ⟨VF, hVF⟩ : ∃ VF, VF = w3.setRow r (zeros 32) := ⟨_, rfl⟩
      rw [← hVF] at hrf hHeld11 ⊢
      have HRF := Lib.hid hrf
      have HPF := Lib.hid hHeld11.1
      have HWF : Hid (Below w.heap.size w VF) := Lib.hid (HB0.out.trans (hHeld11.2.mono (by have := HKW.out; omega)))
      have HRG : Hid (w.heap.size < r) := Lib.hid (by have := HRB.out; have := HKW.out; omega)
      clear hrf hVF
      go_wp2_with (first
        | (with_reducible refine wpList_load_row_wU (by with_unfolding_all rfl) 37 (.tmp 9) rfl _ rfl 37 _ _ _ HRF.out Try.underlying37 rfl HIZ.out ?_)
        | (with_reducible refine wpList_binU (by with_unfolding_all rfl) .eql 37 37 (.tmp 54) (.tmp 55) rfl (.agg (zeros 32)) (.agg (zeros 32)) (.bool true) rfl (by with_unfolding_all rfl) (bk_guard _ _ _ _ _) (zero_eqU _) ?_))
      refine (awake12_any _).mono ?_
      rintro e w4 ⟨rfl, hb4⟩
      have HB4 := Lib.hid (HWF.out.trans (hb4.mono HWF.out.size))
      clear hb4
      go_wp2
      go_ret
      exact ⟨rfl, HB4.out⟩
  · go_simp
    refine hK.out _ _ (HK.out _ ((hHeld.2).alloc (Nat.le_trans HSZ.out hHeld.2.size) _)) (fun hHeld10 => ?_)
    clear hK K
    (try simp only [Act.put, List.getElem_toArray, List.getElem_cons_succ, List.getElem_cons_zero, List.setIfInBounds_toArray, List.set_cons_zero, List.set_cons_succ])
    have hr := heap_alloc_new W0 (.cells (zeros 32) 37)
    have hbn : Below W0.heap.size W0 (W0.alloc (.cells (zeros 32) 37)) := (Below.refl _ _).alloc (Nat.le_refl _) _
    have hrb : B ≤ W0.heap.size := (Nat.le_trans HSZ.out hHeld.2.size)
    clear hbn
    obtain ⟨V, hV⟩ : ∃ V, V = W0.alloc (.cells (zeros 32) 37) := ⟨_, rfl⟩
    rw [← hV] at hr hHeld10 ⊢
    obtain ⟨r, hrr⟩ : ∃ r, r = W0.heap.size := ⟨_, rfl⟩
    rw [← hrr] at hr hrb ⊢
    have HR10 := Lib.hid hr
    have HRB := Lib.hid hrb
    clear hV hrr hr hrb
    refine wpAnyF_ready (rs := [0]) (by kernel_rfl) (by simp) ?_
    refine AllReadyF.cons (o := _) rfl (fun K hK => ?_) AllReadyF.nil
    go_simp
    (go_at_call 8)
    refine (book12_any _).mono ?_
    rintro e w1 ⟨b, g, S, rfl, hbk, hS, hbn⟩
    refine hK.out _ _ (HK.out _ (hHeld10.2.trans (hbn.mono (Nat.le_trans HSZ.out hHeld10.2.size)))) (fun hHeld0 => ?_)
    clear hK K
    (try simp only [Act.put, List.getElem_toArray, List.getElem_cons_succ, List.getElem_cons_zero, List.setIfInBounds_toArray, List.set_cons_zero, List.set_cons_succ])
    have HBK0 := Lib.hid hbk
    have HS : Hid (∀ j, S j → B ≤ j) := Lib.hid (fun j hj => Nat.le_trans (Nat.le_trans HSZ.out hHeld10.2.size) (hS j hj))
    have HR0 := Lib.hid ((hbn.block _ (blk_lt HR10.out)).trans HR10.out)
    have HRS : Hid (¬ S r) := Lib.hid (fun z => by have h1 := hS r z; have h2 := blk_lt HR10.out; exact absurd h1 (Nat.not_le.2 h2))
    clear hbk hS hbn
    refine wpAnyF_ready (rs := [5]) (by kernel_rfl) (by simp) ?_
    refine AllReadyF.cons (o := _) rfl (fun K hK => ?_) AllReadyF.nil
    go_simp
    (go_at_call 9)
    refine (digests_new 12 c (some ⟨b0, o0, none⟩) ps _ (HDS.out.below (HB0.out.trans (hHeld0.2.mono (by have := HKW.out; omega)))) (by omega)).mono ?_
    rintro e w2 ⟨A2, c2, rfl, hc2, hd2, hbn, hnew⟩
    refine hK.out _ _ (HK.out _ (hHeld0.2.trans (hbn.mono (Nat.le_trans HSZ.out hHeld0.2.size)))) (fun hHeld5 => ?_)
    clear hK K
    (try simp only [Act.put, List.getElem_toArray, List.getElem_cons_succ, List.getElem_cons_zero, List.setIfInBounds_toArray, List.set_cons_zero, List.set_cons_succ])
    have HBK5 := Lib.hid (HBK0.out.below hbn)
    have HD5 := Lib.hid hd2
    have HC2 := Lib.hid hc2
    have HOFF : Hid (∀ ad, A2 = some ad → ¬ S ad.block) := Lib.hid (fun ad e z => by have h1 := hnew ad e; have h2 := HBK0.out.sub z; omega)
    have HR5 := Lib.hid ((hbn.block _ (blk_lt HR0.out)).trans HR0.out)
    clear hd2 hc2 hbn hnew
    refine wpAnyF_ready (rs := [6]) (by kernel_rfl) (by simp) ?_
    refine AllReadyF.cons (o := _) rfl (fun K hK => ?_) AllReadyF.nil
    go_simp
    (go_at_call 15)
    refine (HUP.out b A2 c2 _).mono ?_
    rintro e w3 ⟨rfl, hbn⟩
    refine hK.out _ _ (HK.out _ (hHeld5.2.trans (hbn.mono (Nat.le_trans HSZ.out hHeld5.2.size)))) (fun hHeld6 => ?_)
    clear hK K
    (try simp only [Act.put, List.getElem_toArray, List.getElem_cons_succ, List.getElem_cons_zero, List.setIfInBounds_toArray, List.set_cons_zero, List.set_cons_succ])
    have HR6 := Lib.hid ((hbn.block _ (blk_lt HR5.out)).trans HR5.out)
    clear hbn
    refine wpAnyF_take (i := 7) (oi := _) (v := ?_) rfl (by kernel_rfl) (by kernel_rfl) (by kernel_rfl) (by kernel_rfl) (fun _ _ _ h => h) (Or.inl ⟨by rfl, ?_⟩) (by assumption) ?_
    rotate_left 1
    · intro w hSw
      (try dsimp only at hSw)
      (first | (go_simp; done) | (go_simp; with_reducible rfl))
    (try simp only [Act.put, List.getElem_toArray, List.getElem_cons_succ, List.getElem_cons_zero, List.setIfInBounds_toArray, List.set_cons_zero, List.set_cons_succ])
    refine wpAnyF_take (i := 8) (oi := _) (v := ?_) rfl (by kernel_rfl) (by kernel_rfl) (by kernel_rfl) (by kernel_rfl) (fun _ _ _ h => h) (Or.inl ⟨by rfl, ?_⟩) (by assumption) ?_
    rotate_left 1
    · intro w hSw
      (try dsimp only at hSw)
      (first | (go_simp; done) | (go_simp; with_reducible rfl))
    (try simp only [Act.put, List.getElem_toArray, List.getElem_cons_succ, List.getElem_cons_zero, List.setIfInBounds_toArray, List.set_cons_zero, List.set_cons_succ])
    refine wpAnyF_take (i := 9) (oi := _) (v := ?_) rfl (by kernel_rfl) (by kernel_rfl) (by kernel_rfl) (by kernel_rfl) (fun _ _ _ h => h) (Or.inl ⟨by rfl, ?_⟩) (by assumption) ?_
    rotate_left 1
    · intro w hSw
      (try dsimp only at hSw)
      (first | (go_simp; done) | (go_simp; with_reducible rfl))
    (try simp only [Act.put, List.getElem_toArray, List.getElem_cons_succ, List.getElem_cons_zero, List.setIfInBounds_toArray, List.set_cons_zero, List.set_cons_succ])
    refine wpAnyF_ready (rs := [11]) (by kernel_rfl) (by simp) ?_
    refine AllReadyF.cons (o := _) rfl (fun K hK => ?_) AllReadyF.nil
    rw [if_pos (by kernel_rfl)]
    refine wp_store_row 37 (.tmp 9) (.tmp 27) rfl r (zeros 32) rfl rfl _ (zeros 32) HR6.out HIZ.out rfl HOZ.out ?_
    refine hK.out _ _ (HK.out _ (below_setRow hHeld6.2 HRB.out _)) (fun hHeld11 => ?_)
    clear hK K
    (try simp only [Act.put, List.getElem_toArray, List.getElem_cons_succ, List.getElem_cons_zero, List.setIfInBounds_toArray, List.set_cons_zero, List.set_cons_succ])
    refine wpAnyF_ready (rs := [12]) (by kernel_rfl) (by simp) ?_
    refine AllReadyF.cons (o := _) rfl (fun K hK => ?_) AllReadyF.nil
    go_simp
    refine hK.out _ _ (by assumption) (fun hHeld12 => ?_)
    clear hK K
    (try simp only [Act.put, List.getElem_toArray, List.getElem_cons_succ, List.getElem_cons_zero, List.setIfInBounds_toArray, List.set_cons_zero, List.set_cons_succ])
    refine wpAnyF_done (by kernel_rfl) ?_ _
    have hrf := setRow_heap w3 r (zeros 32) (zeros 32) _ _ HR6.out
    obtain ⟨VF, hVF⟩ : ∃ VF, VF = w3.setRow r (zeros 32) := ⟨_, rfl⟩
    rw [← hVF] at hrf hHeld11 ⊢
    have HRF := Lib.hid hrf
    have HPF := Lib.hid hHeld11.1
    have HWF : Hid (Below w.heap.size w VF) := Lib.hid (HB0.out.trans (hHeld11.2.mono (by have := HKW.out; omega)))
    have HRG : Hid (w.heap.size < r) := Lib.hid (by have := HRB.out; have := HKW.out; omega)
    clear hrf hVF
    go_wp2_with (first
      | (with_reducible refine wpList_load_row_wU (by with_unfolding_all rfl) 37 (.tmp 9) rfl _ rfl 37 _ _ _ HRF.out Try.underlying37 rfl HIZ.out ?_)
      | (with_reducible refine wpList_binU (by with_unfolding_all rfl) .eql 37 37 (.tmp 54) (.tmp 55) rfl (.agg (zeros 32)) (.agg (zeros 32)) (.bool true) rfl (by with_unfolding_all rfl) (bk_guard _ _ _ _ _) (zero_eqU _) ?_))
    refine (awake12_any _).mono ?_
    rintro e w4 ⟨rfl, hb4⟩
    have HB4 := Lib.hid (HWF.out.trans (hb4.mono HWF.out.size))
    clear hb4
    go_wp2
    go_ret
    exact ⟨rfl, HB4.out⟩
end
section
open Go.RowKit Go
set_option linter.unusedVariables false
set_option linter.unusedSimpArgs false
set_option maxRecDepth 100000
set_option maxHeartbeats 4000000 in
theorem treeUp_cn4 (n k : Int) (x : List Nat) (b0 o0 m0 c : Nat) (ps : Nat → List Nat) (w : World) (hds : DgS w (some ⟨b0, o0, none⟩) 12 ps) (h12 : 12 < m0) (hc : m0 ≤ c) (hcm : c ≤ 9223372036854775807) (hx : IsDig x) (h1 : ¬ n < 1) (h2 : ¬ 1024 < n) (h3 : ¬ k < 0) (h4 : n ≤ k) :
    Calls Try.prog 4 #[.int .i64 n, .int .i64 k, .agg (dA x), .slice (some ⟨b0, o0, none⟩) m0 c] w fun e w' => e = .returned (.bool true) ∧ Below w.heap.size w w' := by
  have hz := zero_dig
  have hzr := zero32
  obtain ⟨W0, hW0⟩ : ∃ W0, W0 = w.alloc (.cells (dA x) 34) := ⟨_, rfl⟩
  have HB0 : Hid (Below w.heap.size w W0) := Lib.hid (by rw [hW0]; exact (Below.refl _ _).alloc (Nat.le_refl _) _)
  have HP6 : Hid (W0.heap[w.heap.size]? = some (.cells (dA x) 34 (0, 0))) := Lib.hid (by rw [hW0]; exact heap_alloc_new w _)
  have HW0 := Lib.hid hW0
  have hx32 : (dA x).size = 32 := by rw [rowV_size]
  have HIX := Lib.hid (info_d32 hx32)
  have HOX : Hid ((dA x).all (·.oneCell') = true) := Lib.hid (dA_one _)
  have HDS := Lib.hid hds
  have HX := Lib.hid hx
  obtain ⟨B, hB⟩ : ∃ B, B = W0.heap.size := ⟨_, rfl⟩
  have HKW : Hid (B = w.heap.size + 1) := Lib.hid (by rw [hB, hW0]; simp)
  have HBB := Lib.hid hB
  have HSZ : Hid (B ≤ W0.heap.size) := Lib.hid (Nat.le_of_eq hB)
  have HIZ := Lib.hid (info_dig (cs := zeros 32) (by simp [zeros]))
  have HOZ : Hid ((zeros 32).all (·.oneCell') = true) := Lib.hid (by kernel_rfl)
  have HUP : Hid (∀ (b : Nat) (A2 : Option Addr) (c2 : Nat) (W : World), Calls Try.prog 15 #[.pointer (some ⟨b, 0, none⟩), .int .i64 n, .int .i64 k, .agg (dA x), .slice A2 12 c2] W (UpNo W)) := Lib.hid (fun b A2 c2 W => tup_no b n k x A2 12 c2 W (by have := dpX_le n.toNat; omega))
  obtain ⟨xd, hxd⟩ : ∃ z, z = dA x := ⟨_, rfl⟩
  have HXD := Lib.hid hxd
  rw [← hxd] at HW0 HP6 HIX HOX HUP ⊢
  clear hW0 hx32 hxd hds hx hB
  have hm1 : (12 : Int) < (m0 : Int) := by omega
  have hm2 : 12 < m0 := h12
  have hc12 : 12 ≤ c := by omega
  have hm : 12 ≤ 12 := Nat.le_refl _
  go_enter Try.func4, Try.ntmps4
  go_wp2_with (with_reducible refine Go.Great.wpList_boxTo rfl 34 (.tmp 2) rfl (some 6) rfl w.heap.size (by simp) xd rfl ?_)
  rw [← HW0.out]
  go_upto_region 3 with (fail)
  have HK : Hid (∀ W, Below B W0 W → W.heap[w.heap.size]? = some (.cells xd 34 (0, 0)) ∧ Below B W0 W) := Lib.hid (fun W hW => ⟨(hW.block _ (by have := HKW.out; omega)).trans HP6.out, hW⟩)
  refine wp_region_F (S := (fun W : World => W.heap[w.heap.size]? = some (.cells xd 34 (0, 0)) ∧ Below B W0 W)) [] (by kernel_rfl) (HK.out _ (by have e := HBB.out; rw [e]; exact (Below.refl _ _).drew)) (fun hHeld => ?_)
  refine wpAnyF_take (i := 1) (oi := _) (v := ?_) rfl (by kernel_rfl) (by kernel_rfl) (by kernel_rfl) (by kernel_rfl) (fun _ _ _ h => h) (Or.inl ⟨by rfl, ?_⟩) (by assumption) ?_
  rotate_left 1
  · intro w hSw
    (try dsimp only at hSw)
    (first | (go_simp; done) | (go_simp; with_reducible rfl))
  (try simp only [Act.put, List.getElem_toArray, List.getElem_cons_succ, List.getElem_cons_zero, List.setIfInBounds_toArray, List.set_cons_zero, List.set_cons_succ])
  refine wpAnyF_take (i := 2) (oi := _) (v := ?_) rfl (by kernel_rfl) (by kernel_rfl) (by kernel_rfl) (by kernel_rfl) (fun _ _ _ h => h) (Or.inl ⟨by rfl, ?_⟩) (by assumption) ?_
  rotate_left 1
  · intro w hSw
    (try dsimp only at hSw)
    (first | (go_simp; done) | (go_simp; with_reducible rfl))
  (try simp only [Act.put, List.getElem_toArray, List.getElem_cons_succ, List.getElem_cons_zero, List.setIfInBounds_toArray, List.set_cons_zero, List.set_cons_succ])
  refine wpAnyF_take (i := 3) (oi := _) (v := _) rfl (by kernel_rfl) (by kernel_rfl) (by kernel_rfl) (by kernel_rfl) (fun _ _ _ h => h) (yields_rowU (by rfl) 34 (.tmp 6) rfl w.heap.size 0 rfl xd _ (fun W h => range_cells h.1) Try.underlying34 rfl HIX.out) (by assumption) ?_
  (try simp only [Act.put, List.getElem_toArray, List.getElem_cons_succ, List.getElem_cons_zero, List.setIfInBounds_toArray, List.set_cons_zero, List.set_cons_succ])
  refine wpAnyF_take (i := 4) (oi := _) (v := ?_) rfl (by kernel_rfl) (by kernel_rfl) (by kernel_rfl) (by kernel_rfl) (fun _ _ _ h => h) (Or.inl ⟨by rfl, ?_⟩) (by assumption) ?_
  rotate_left 1
  · intro w hSw
    (try dsimp only at hSw)
    (first | (go_simp; done) | (go_simp; with_reducible rfl))
  (try simp only [Act.put, List.getElem_toArray, List.getElem_cons_succ, List.getElem_cons_zero, List.setIfInBounds_toArray, List.set_cons_zero, List.set_cons_succ])
  refine wpAnyF_ready (rs := [0, 10]) (by kernel_rfl) (by simp) ?_
  refine AllReadyF.cons (o := _) rfl (fun K hK => ?_) (AllReadyF.cons (o := _) rfl (fun K hK => ?_) AllReadyF.nil)
  · go_simp
    (go_at_call 8)
    refine (book12_any _).mono ?_
    rintro e w1 ⟨b, g, S, rfl, hbk, hS, hbn⟩
    refine hK.out _ _ (HK.out _ (hHeld.2.trans (hbn.mono (Nat.le_trans HSZ.out hHeld.2.size)))) (fun hHeld0 => ?_)
    clear hK K
    (try simp only [Act.put, List.getElem_toArray, List.getElem_cons_succ, List.getElem_cons_zero, List.setIfInBounds_toArray, List.set_cons_zero, List.set_cons_succ])
    have HBK0 := Lib.hid hbk
    have HS : Hid (∀ j, S j → B ≤ j) := Lib.hid (fun j hj => Nat.le_trans (Nat.le_trans HSZ.out hHeld.2.size) (hS j hj))
    clear hbk hS hbn
    refine wpAnyF_ready (rs := [5, 10]) (by kernel_rfl) (by simp) ?_
    refine AllReadyF.cons (o := _) rfl (fun K hK => ?_) (AllReadyF.cons (o := _) rfl (fun K hK => ?_) AllReadyF.nil)
    · go_simp
      (go_at_call 9)
      refine (digests_new 12 c (some ⟨b0, o0, none⟩) ps _ (HDS.out.below (HB0.out.trans (hHeld0.2.mono (by have := HKW.out; omega)))) (by omega)).mono ?_
      rintro e w2 ⟨A2, c2, rfl, hc2, hd2, hbn, hnew⟩
      refine hK.out _ _ (HK.out _ (hHeld0.2.trans (hbn.mono (Nat.le_trans HSZ.out hHeld0.2.size)))) (fun hHeld5 => ?_)
      clear hK K
      (try simp only [Act.put, List.getElem_toArray, List.getElem_cons_succ, List.getElem_cons_zero, List.setIfInBounds_toArray, List.set_cons_zero, List.set_cons_succ])
      have HBK5 := Lib.hid (HBK0.out.below hbn)
      have HD5 := Lib.hid hd2
      have HC2 := Lib.hid hc2
      have HOFF : Hid (∀ ad, A2 = some ad → ¬ S ad.block) := Lib.hid (fun ad e z => by have h1 := hnew ad e; have h2 := HBK0.out.sub z; omega)
      clear hd2 hc2 hbn hnew
      refine wpAnyF_ready (rs := [6, 10]) (by kernel_rfl) (by simp) ?_
      refine AllReadyF.cons (o := _) rfl (fun K hK => ?_) (AllReadyF.cons (o := _) rfl (fun K hK => ?_) AllReadyF.nil)
      · go_simp
        (go_at_call 15)
        refine (HUP.out b A2 c2 _).mono ?_
        rintro e w3 ⟨rfl, hbn⟩
        refine hK.out _ _ (HK.out _ (hHeld5.2.trans (hbn.mono (Nat.le_trans HSZ.out hHeld5.2.size)))) (fun hHeld6 => ?_)
        clear hK K
        (try simp only [Act.put, List.getElem_toArray, List.getElem_cons_succ, List.getElem_cons_zero, List.setIfInBounds_toArray, List.set_cons_zero, List.set_cons_succ])
        clear hbn
        refine wpAnyF_take (i := 7) (oi := _) (v := ?_) rfl (by kernel_rfl) (by kernel_rfl) (by kernel_rfl) (by kernel_rfl) (fun _ _ _ h => h) (Or.inl ⟨by rfl, ?_⟩) (by assumption) ?_
        rotate_left 1
        · intro w hSw
          (try dsimp only at hSw)
          (first | (go_simp; done) | (go_simp; with_reducible rfl))
        (try simp only [Act.put, List.getElem_toArray, List.getElem_cons_succ, List.getElem_cons_zero, List.setIfInBounds_toArray, List.set_cons_zero, List.set_cons_succ])
        refine wpAnyF_take (i := 8) (oi := _) (v := ?_) rfl (by kernel_rfl) (by kernel_rfl) (by kernel_rfl) (by kernel_rfl) (fun _ _ _ h => h) (Or.inl ⟨by rfl, ?_⟩) (by assumption) ?_
        rotate_left 1
        · intro w hSw
          (try dsimp only at hSw)
          (first | (go_simp; done) | (go_simp; with_reducible rfl))
        (try simp only [Act.put, List.getElem_toArray, List.getElem_cons_succ, List.getElem_cons_zero, List.setIfInBounds_toArray, List.set_cons_zero, List.set_cons_succ])
        refine wpAnyF_take (i := 9) (oi := _) (v := ?_) rfl (by kernel_rfl) (by kernel_rfl) (by kernel_rfl) (by kernel_rfl) (fun _ _ _ h => h) (Or.inl ⟨by rfl, ?_⟩) (by assumption) ?_
        rotate_left 1
        · intro w hSw
          (try dsimp only at hSw)
          (first | (go_simp; done) | (go_simp; with_reducible rfl))
        (try simp only [Act.put, List.getElem_toArray, List.getElem_cons_succ, List.getElem_cons_zero, List.setIfInBounds_toArray, List.set_cons_zero, List.set_cons_succ])
        refine wpAnyF_ready (rs := [10]) (by kernel_rfl) (by simp) ?_
        refine AllReadyF.cons (o := _) rfl (fun K hK => ?_) AllReadyF.nil
        go_simp
        refine hK.out _ _ (HK.out _ ((hHeld6.2).alloc (Nat.le_trans HSZ.out hHeld6.2.size) _)) (fun hHeld10 => ?_)
        clear hK K
        (try simp only [Act.put, List.getElem_toArray, List.getElem_cons_succ, List.getElem_cons_zero, List.setIfInBounds_toArray, List.set_cons_zero, List.set_cons_succ])
        have hr := heap_alloc_new w3 (.cells (zeros 32) 37)
        have hbn : Below w3.heap.size w3 (w3.alloc (.cells (zeros 32) 37)) := (Below.refl _ _).alloc (Nat.le_refl _) _
        have hrb : B ≤ w3.heap.size := (Nat.le_trans HSZ.out hHeld6.2.size)
        clear hbn
        obtain ⟨V, hV⟩ : ∃ V, V = w3.alloc (.cells (zeros 32) 37) := ⟨_, rfl⟩
        rw [← hV] at hr hHeld10 ⊢
        obtain ⟨r, hrr⟩ : ∃ r, r = w3.heap.size := ⟨_, rfl⟩
        rw [← hrr] at hr hrb ⊢
        have HR10 := Lib.hid hr
        have HRB := Lib.hid hrb
        clear hV hrr hr hrb
        refine wpAnyF_ready (rs := [11]) (by kernel_rfl) (by simp) ?_
        refine AllReadyF.cons (o := _) rfl (fun K hK => ?_) AllReadyF.nil
        rw [if_pos (by kernel_rfl)]
        refine wp_store_row 37 (.tmp 9) (.tmp 27) rfl r (zeros 32) rfl rfl _ (zeros 32) HR10.out HIZ.out rfl HOZ.out ?_
        refine hK.out _ _ (HK.out _ (below_setRow hHeld10.2 HRB.out _)) (fun hHeld11 => ?_)
        clear hK K
        (try simp only [Act.put, List.getElem_toArray, List.getElem_cons_succ, List.getElem_cons_zero, List.setIfInBounds_toArray, List.set_cons_zero, List.set_cons_succ])
        refine wpAnyF_ready (rs := [12]) (by kernel_rfl) (by simp) ?_
        refine AllReadyF.cons (o := _) rfl (fun K hK => ?_) AllReadyF.nil
        go_simp
        refine hK.out _ _ (by assumption) (fun hHeld12 => ?_)
        clear hK K
        (try simp only [Act.put, List.getElem_toArray, List.getElem_cons_succ, List.getElem_cons_zero, List.setIfInBounds_toArray, List.set_cons_zero, List.set_cons_succ])
        refine wpAnyF_done (by kernel_rfl) ?_ _
        have hrf := setRow_heap V r (zeros 32) (zeros 32) _ _ HR10.out
        obtain ⟨VF, hVF⟩ : ∃ VF, VF = V.setRow r (zeros 32) := ⟨_, rfl⟩
        rw [← hVF] at hrf hHeld11 ⊢
        have HRF := Lib.hid hrf
        have HPF := Lib.hid hHeld11.1
        have HWF : Hid (Below w.heap.size w VF) := Lib.hid (HB0.out.trans (hHeld11.2.mono (by have := HKW.out; omega)))
        have HRG : Hid (w.heap.size < r) := Lib.hid (by have := HRB.out; have := HKW.out; omega)
        clear hrf hVF
        go_wp2_with (first
          | (with_reducible refine wpList_load_row_wU (by with_unfolding_all rfl) 37 (.tmp 9) rfl _ rfl 37 _ _ _ HRF.out Try.underlying37 rfl HIZ.out ?_)
          | (with_reducible refine wpList_binU (by with_unfolding_all rfl) .eql 37 37 (.tmp 54) (.tmp 55) rfl (.agg (zeros 32)) (.agg (zeros 32)) (.bool true) rfl (by with_unfolding_all rfl) (bk_guard _ _ _ _ _) (zero_eqU _) ?_))
        refine (awake12_any _).mono ?_
        rintro e w4 ⟨rfl, hb4⟩
        have HB4 := Lib.hid (HWF.out.trans (hb4.mono HWF.out.size))
        clear hb4
        go_wp2
        go_ret
        exact ⟨rfl, HB4.out⟩
      · go_simp
        refine hK.out _ _ (HK.out _ ((hHeld5.2).alloc (Nat.le_trans HSZ.out hHeld5.2.size) _)) (fun hHeld10 => ?_)
        clear hK K
        (try simp only [Act.put, List.getElem_toArray, List.getElem_cons_succ, List.getElem_cons_zero, List.setIfInBounds_toArray, List.set_cons_zero, List.set_cons_succ])
        have hr := heap_alloc_new w2 (.cells (zeros 32) 37)
        have hbn : Below w2.heap.size w2 (w2.alloc (.cells (zeros 32) 37)) := (Below.refl _ _).alloc (Nat.le_refl _) _
        have HBK10 := Lib.hid (HBK5.out.below hbn)
        have HD10 := Lib.hid (HD5.out.below hbn)
        have hrb : B ≤ w2.heap.size := (Nat.le_trans HSZ.out hHeld5.2.size)
        have hrs : ¬ S w2.heap.size := fun z => by have := HBK5.out.sub z; omega
        clear hbn
        obtain ⟨V, hV⟩ : ∃ V, V = w2.alloc (.cells (zeros 32) 37) := ⟨_, rfl⟩
        rw [← hV] at hr hHeld10 ⊢
        rw [← hV] at HBK10
        rw [← hV] at HD10
        obtain ⟨r, hrr⟩ : ∃ r, r = w2.heap.size := ⟨_, rfl⟩
        rw [← hrr] at hr hrb ⊢
        rw [← hrr] at hrs
        have HRS := Lib.hid hrs
        clear hrs
        have HR10 := Lib.hid hr
        have HRB := Lib.hid hrb
        clear hV hrr hr hrb
        refine wpAnyF_ready (rs := [6]) (by kernel_rfl) (by simp) ?_
        refine AllReadyF.cons (o := _) rfl (fun K hK => ?_) AllReadyF.nil
        go_simp
        (go_at_call 15)
        refine (HUP.out b A2 c2 _).mono ?_
        rintro e w3 ⟨rfl, hbn⟩
        refine hK.out _ _ (HK.out _ (hHeld10.2.trans (hbn.mono (Nat.le_trans HSZ.out hHeld10.2.size)))) (fun hHeld6 => ?_)
        clear hK K
        (try simp only [Act.put, List.getElem_toArray, List.getElem_cons_succ, List.getElem_cons_zero, List.setIfInBounds_toArray, List.set_cons_zero, List.set_cons_succ])
        have HR6 := Lib.hid ((hbn.block _ (blk_lt HR10.out)).trans HR10.out)
        clear hbn
        refine wpAnyF_take (i := 7) (oi := _) (v := ?_) rfl (by kernel_rfl) (by kernel_rfl) (by kernel_rfl) (by kernel_rfl) (fun _ _ _ h => h) (Or.inl ⟨by rfl, ?_⟩) (by assumption) ?_
        rotate_left 1
        · intro w hSw
          (try dsimp only at hSw)
          (first | (go_simp; done) | (go_simp; with_reducible rfl))
        (try simp only [Act.put, List.getElem_toArray, List.getElem_cons_succ, List.getElem_cons_zero, List.setIfInBounds_toArray, List.set_cons_zero, List.set_cons_succ])
        refine wpAnyF_take (i := 8) (oi := _) (v := ?_) rfl (by kernel_rfl) (by kernel_rfl) (by kernel_rfl) (by kernel_rfl) (fun _ _ _ h => h) (Or.inl ⟨by rfl, ?_⟩) (by assumption) ?_
        rotate_left 1
        · intro w hSw
          (try dsimp only at hSw)
          (first | (go_simp; done) | (go_simp; with_reducible rfl))
        (try simp only [Act.put, List.getElem_toArray, List.getElem_cons_succ, List.getElem_cons_zero, List.setIfInBounds_toArray, List.set_cons_zero, List.set_cons_succ])
        refine wpAnyF_take (i := 9) (oi := _) (v := ?_) rfl (by kernel_rfl) (by kernel_rfl) (by kernel_rfl) (by kernel_rfl) (fun _ _ _ h => h) (Or.inl ⟨by rfl, ?_⟩) (by assumption) ?_
        rotate_left 1
        · intro w hSw
          (try dsimp only at hSw)
          (first | (go_simp; done) | (go_simp; with_reducible rfl))
        (try simp only [Act.put, List.getElem_toArray, List.getElem_cons_succ, List.getElem_cons_zero, List.setIfInBounds_toArray, List.set_cons_zero, List.set_cons_succ])
        refine wpAnyF_ready (rs := [11]) (by kernel_rfl) (by simp) ?_
        refine AllReadyF.cons (o := _) rfl (fun K hK => ?_) AllReadyF.nil
        rw [if_pos (by kernel_rfl)]
        refine wp_store_row 37 (.tmp 9) (.tmp 27) rfl r (zeros 32) rfl rfl _ (zeros 32) HR6.out HIZ.out rfl HOZ.out ?_
        refine hK.out _ _ (HK.out _ (below_setRow hHeld6.2 HRB.out _)) (fun hHeld11 => ?_)
        clear hK K
        (try simp only [Act.put, List.getElem_toArray, List.getElem_cons_succ, List.getElem_cons_zero, List.setIfInBounds_toArray, List.set_cons_zero, List.set_cons_succ])
        refine wpAnyF_ready (rs := [12]) (by kernel_rfl) (by simp) ?_
        refine AllReadyF.cons (o := _) rfl (fun K hK => ?_) AllReadyF.nil
        go_simp
        refine hK.out _ _ (by assumption) (fun hHeld12 => ?_)
        clear hK K
        (try simp only [Act.put, List.getElem_toArray, List.getElem_cons_succ, List.getElem_cons_zero, List.setIfInBounds_toArray, List.set_cons_zero, List.set_cons_succ])
        refine wpAnyF_done (by kernel_rfl) ?_ _
        have hrf := setRow_heap w3 r (zeros 32) (zeros 32) _ _ HR6.out
        obtain ⟨VF, hVF⟩ : ∃ VF, VF = w3.setRow r (zeros 32) := ⟨_, rfl⟩
        rw [← hVF] at hrf hHeld11 ⊢
        have HRF := Lib.hid hrf
        have HPF := Lib.hid hHeld11.1
        have HWF : Hid (Below w.heap.size w VF) := Lib.hid (HB0.out.trans (hHeld11.2.mono (by have := HKW.out; omega)))
        have HRG : Hid (w.heap.size < r) := Lib.hid (by have := HRB.out; have := HKW.out; omega)
        clear hrf hVF
        go_wp2_with (first
          | (with_reducible refine wpList_load_row_wU (by with_unfolding_all rfl) 37 (.tmp 9) rfl _ rfl 37 _ _ _ HRF.out Try.underlying37 rfl HIZ.out ?_)
          | (with_reducible refine wpList_binU (by with_unfolding_all rfl) .eql 37 37 (.tmp 54) (.tmp 55) rfl (.agg (zeros 32)) (.agg (zeros 32)) (.bool true) rfl (by with_unfolding_all rfl) (bk_guard _ _ _ _ _) (zero_eqU _) ?_))
        refine (awake12_any _).mono ?_
        rintro e w4 ⟨rfl, hb4⟩
        have HB4 := Lib.hid (HWF.out.trans (hb4.mono HWF.out.size))
        clear hb4
        go_wp2
        go_ret
        exact ⟨rfl, HB4.out⟩
    · go_simp
      refine hK.out _ _ (HK.out _ ((hHeld0.2).alloc (Nat.le_trans HSZ.out hHeld0.2.size) _)) (fun hHeld10 => ?_)
      clear hK K
      (try simp only [Act.put, List.getElem_toArray, List.getElem_cons_succ, List.getElem_cons_zero, List.setIfInBounds_toArray, List.set_cons_zero, List.set_cons_succ])
      have hr := heap_alloc_new w1 (.cells (zeros 32) 37)
      have hbn : Below w1.heap.size w1 (w1.alloc (.cells (zeros 32) 37)) := (Below.refl _ _).alloc (Nat.le_refl _) _
      have HBK10 := Lib.hid (HBK0.out.below hbn)
      have hrb : B ≤ w1.heap.size := (Nat.le_trans HSZ.out hHeld0.2.size)
      have hrs : ¬ S w1.heap.size := fun z => by have := HBK0.out.sub z; omega
      clear hbn
      obtain ⟨V, hV⟩ : ∃ V, V = w1.alloc (.cells (zeros 32) 37) := ⟨_, rfl⟩
      rw [← hV] at hr hHeld10 ⊢
      rw [← hV] at HBK10
      obtain ⟨r, hrr⟩ : ∃ r, r = w1.heap.size := ⟨_, rfl⟩
      rw [← hrr] at hr hrb ⊢
      rw [← hrr] at hrs
      have HRS := Lib.hid hrs
      clear hrs
      have HR10 := Lib.hid hr
      have HRB := Lib.hid hrb
      clear hV hrr hr hrb
      refine wpAnyF_ready (rs := [5]) (by kernel_rfl) (by simp) ?_
      refine AllReadyF.cons (o := _) rfl (fun K hK => ?_) AllReadyF.nil
      go_simp
      (go_at_call 9)
      refine (digests_new 12 c (some ⟨b0, o0, none⟩) ps _ (HDS.out.below (HB0.out.trans (hHeld10.2.mono (by have := HKW.out; omega)))) (by omega)).mono ?_
      rintro e w2 ⟨A2, c2, rfl, hc2, hd2, hbn, hnew⟩
      refine hK.out _ _ (HK.out _ (hHeld10.2.trans (hbn.mono (Nat.le_trans HSZ.out hHeld10.2.size)))) (fun hHeld5 => ?_)
      clear hK K
      (try simp only [Act.put, List.getElem_toArray, List.getElem_cons_succ, List.getElem_cons_zero, List.setIfInBounds_toArray, List.set_cons_zero, List.set_cons_succ])
      have HBK5 := Lib.hid (HBK10.out.below hbn)
      have HD5 := Lib.hid hd2
      have HC2 := Lib.hid hc2
      have HOFF : Hid (∀ ad, A2 = some ad → ¬ S ad.block) := Lib.hid (fun ad e z => by have h1 := hnew ad e; have h2 := HBK10.out.sub z; omega)
      have HR5 := Lib.hid ((hbn.block _ (blk_lt HR10.out)).trans HR10.out)
      clear hd2 hc2 hbn hnew
      refine wpAnyF_ready (rs := [6]) (by kernel_rfl) (by simp) ?_
      refine AllReadyF.cons (o := _) rfl (fun K hK => ?_) AllReadyF.nil
      go_simp
      (go_at_call 15)
      refine (HUP.out b A2 c2 _).mono ?_
      rintro e w3 ⟨rfl, hbn⟩
      refine hK.out _ _ (HK.out _ (hHeld5.2.trans (hbn.mono (Nat.le_trans HSZ.out hHeld5.2.size)))) (fun hHeld6 => ?_)
      clear hK K
      (try simp only [Act.put, List.getElem_toArray, List.getElem_cons_succ, List.getElem_cons_zero, List.setIfInBounds_toArray, List.set_cons_zero, List.set_cons_succ])
      have HR6 := Lib.hid ((hbn.block _ (blk_lt HR5.out)).trans HR5.out)
      clear hbn
      refine wpAnyF_take (i := 7) (oi := _) (v := ?_) rfl (by kernel_rfl) (by kernel_rfl) (by kernel_rfl) (by kernel_rfl) (fun _ _ _ h => h) (Or.inl ⟨by rfl, ?_⟩) (by assumption) ?_
      rotate_left 1
      · intro w hSw
        (try dsimp only at hSw)
        (first | (go_simp; done) | (go_simp; with_reducible rfl))
      (try simp only [Act.put, List.getElem_toArray, List.getElem_cons_succ, List.getElem_cons_zero, List.setIfInBounds_toArray, List.set_cons_zero, List.set_cons_succ])
      refine wpAnyF_take (i := 8) (oi := _) (v := ?_) rfl (by kernel_rfl) (by kernel_rfl) (by kernel_rfl) (by kernel_rfl) (fun _ _ _ h => h) (Or.inl ⟨by rfl, ?_⟩) (by assumption) ?_
      rotate_left 1
      · intro w hSw
        (try dsimp only at hSw)
        (first | (go_simp; done) | (go_simp; with_reducible rfl))
      (try simp only [Act.put, List.getElem_toArray, List.getElem_cons_succ, List.getElem_cons_zero, List.setIfInBounds_toArray, List.set_cons_zero, List.set_cons_succ])
      refine wpAnyF_take (i := 9) (oi := _) (v := ?_) rfl (by kernel_rfl) (by kernel_rfl) (by kernel_rfl) (by kernel_rfl) (fun _ _ _ h => h) (Or.inl ⟨by rfl, ?_⟩) (by assumption) ?_
      rotate_left 1
      · intro w hSw
        (try dsimp only at hSw)
        (first | (go_simp; done) | (go_simp; with_reducible rfl))
      (try simp only [Act.put, List.getElem_toArray, List.getElem_cons_succ, List.getElem_cons_zero, List.setIfInBounds_toArray, List.set_cons_zero, List.set_cons_succ])
      refine wpAnyF_ready (rs := [11]) (by kernel_rfl) (by simp) ?_
      refine AllReadyF.cons (o := _) rfl (fun K hK => ?_) AllReadyF.nil
      rw [if_pos (by kernel_rfl)]
      refine wp_store_row 37 (.tmp 9) (.tmp 27) rfl r (zeros 32) rfl rfl _ (zeros 32) HR6.out HIZ.out rfl HOZ.out ?_
      refine hK.out _ _ (HK.out _ (below_setRow hHeld6.2 HRB.out _)) (fun hHeld11 => ?_)
      clear hK K
      (try simp only [Act.put, List.getElem_toArray, List.getElem_cons_succ, List.getElem_cons_zero, List.setIfInBounds_toArray, List.set_cons_zero, List.set_cons_succ])
      refine wpAnyF_ready (rs := [12]) (by kernel_rfl) (by simp) ?_
      refine AllReadyF.cons (o := _) rfl (fun K hK => ?_) AllReadyF.nil
      go_simp
      refine hK.out _ _ (by assumption) (fun hHeld12 => ?_)
      clear hK K
      (try simp only [Act.put, List.getElem_toArray, List.getElem_cons_succ, List.getElem_cons_zero, List.setIfInBounds_toArray, List.set_cons_zero, List.set_cons_succ])
      refine wpAnyF_done (by kernel_rfl) ?_ _
      have hrf := setRow_heap w3 r (zeros 32) (zeros 32) _ _ HR6.out
      obtain ⟨VF, hVF⟩ : ∃ VF, VF = w3.setRow r (zeros 32) := ⟨_, rfl⟩
      rw [← hVF] at hrf hHeld11 ⊢
      have HRF := Lib.hid hrf
      have HPF := Lib.hid hHeld11.1
      have HWF : Hid (Below w.heap.size w VF) := Lib.hid (HB0.out.trans (hHeld11.2.mono (by have := HKW.out; omega)))
      have HRG : Hid (w.heap.size < r) := Lib.hid (by have := HRB.out; have := HKW.out; omega)
      clear hrf hVF
      go_wp2_with (first
        | (with_reducible refine wpList_load_row_wU (by with_unfolding_all rfl) 37 (.tmp 9) rfl _ rfl 37 _ _ _ HRF.out Try.underlying37 rfl HIZ.out ?_)
        | (with_reducible refine wpList_binU (by with_unfolding_all rfl) .eql 37 37 (.tmp 54) (.tmp 55) rfl (.agg (zeros 32)) (.agg (zeros 32)) (.bool true) rfl (by with_unfolding_all rfl) (bk_guard _ _ _ _ _) (zero_eqU _) ?_))
      refine (awake12_any _).mono ?_
      rintro e w4 ⟨rfl, hb4⟩
      have HB4 := Lib.hid (HWF.out.trans (hb4.mono HWF.out.size))
      clear hb4
      go_wp2
      go_ret
      exact ⟨rfl, HB4.out⟩
  · go_simp
    refine hK.out _ _ (HK.out _ ((hHeld.2).alloc (Nat.le_trans HSZ.out hHeld.2.size) _)) (fun hHeld10 => ?_)
    clear hK K
    (try simp only [Act.put, List.getElem_toArray, List.getElem_cons_succ, List.getElem_cons_zero, List.setIfInBounds_toArray, List.set_cons_zero, List.set_cons_succ])
    have hr := heap_alloc_new W0 (.cells (zeros 32) 37)
    have hbn : Below W0.heap.size W0 (W0.alloc (.cells (zeros 32) 37)) := (Below.refl _ _).alloc (Nat.le_refl _) _
    have hrb : B ≤ W0.heap.size := (Nat.le_trans HSZ.out hHeld.2.size)
    clear hbn
    obtain ⟨V, hV⟩ : ∃ V, V = W0.alloc (.cells (zeros 32) 37) := ⟨_, rfl⟩
    rw [← hV] at hr hHeld10 ⊢
    obtain ⟨r, hrr⟩ : ∃ r, r = W0.heap.size := ⟨_, rfl⟩
    rw [← hrr] at hr hrb ⊢
    have HR10 := Lib.hid hr
    have HRB := Lib.hid hrb
    clear hV hrr hr hrb
    refine wpAnyF_ready (rs := [0]) (by kernel_rfl) (by simp) ?_
    refine AllReadyF.cons (o := _) rfl (fun K hK => ?_) AllReadyF.nil
    go_simp
    (go_at_call 8)
    refine (book12_any _).mono ?_
    rintro e w1 ⟨b, g, S, rfl, hbk, hS, hbn⟩
    refine hK.out _ _ (HK.out _ (hHeld10.2.trans (hbn.mono (Nat.le_trans HSZ.out hHeld10.2.size)))) (fun hHeld0 => ?_)
    clear hK K
    (try simp only [Act.put, List.getElem_toArray, List.getElem_cons_succ, List.getElem_cons_zero, List.setIfInBounds_toArray, List.set_cons_zero, List.set_cons_succ])
    have HBK0 := Lib.hid hbk
    have HS : Hid (∀ j, S j → B ≤ j) := Lib.hid (fun j hj => Nat.le_trans (Nat.le_trans HSZ.out hHeld10.2.size) (hS j hj))
    have HR0 := Lib.hid ((hbn.block _ (blk_lt HR10.out)).trans HR10.out)
    have HRS : Hid (¬ S r) := Lib.hid (fun z => by have h1 := hS r z; have h2 := blk_lt HR10.out; exact absurd h1 (Nat.not_le.2 h2))
    clear hbk hS hbn
    refine wpAnyF_ready (rs := [5]) (by kernel_rfl) (by simp) ?_
    refine AllReadyF.cons (o := _) rfl (fun K hK => ?_) AllReadyF.nil
    go_simp
    (go_at_call 9)
    refine (digests_new 12 c (some ⟨b0, o0, none⟩) ps _ (HDS.out.below (HB0.out.trans (hHeld0.2.mono (by have := HKW.out; omega)))) (by omega)).mono ?_
    rintro e w2 ⟨A2, c2, rfl, hc2, hd2, hbn, hnew⟩
    refine hK.out _ _ (HK.out _ (hHeld0.2.trans (hbn.mono (Nat.le_trans HSZ.out hHeld0.2.size)))) (fun hHeld5 => ?_)
    clear hK K
    (try simp only [Act.put, List.getElem_toArray, List.getElem_cons_succ, List.getElem_cons_zero, List.setIfInBounds_toArray, List.set_cons_zero, List.set_cons_succ])
    have HBK5 := Lib.hid (HBK0.out.below hbn)
    have HD5 := Lib.hid hd2
    have HC2 := Lib.hid hc2
    have HOFF : Hid (∀ ad, A2 = some ad → ¬ S ad.block) := Lib.hid (fun ad e z => by have h1 := hnew ad e; have h2 := HBK0.out.sub z; omega)
    have HR5 := Lib.hid ((hbn.block _ (blk_lt HR0.out)).trans HR0.out)
    clear hd2 hc2 hbn hnew
    refine wpAnyF_ready (rs := [6]) (by kernel_rfl) (by simp) ?_
    refine AllReadyF.cons (o := _) rfl (fun K hK => ?_) AllReadyF.nil
    go_simp
    (go_at_call 15)
    refine (HUP.out b A2 c2 _).mono ?_
    rintro e w3 ⟨rfl, hbn⟩
    refine hK.out _ _ (HK.out _ (hHeld5.2.trans (hbn.mono (Nat.le_trans HSZ.out hHeld5.2.size)))) (fun hHeld6 => ?_)
    clear hK K
    (try simp only [Act.put, List.getElem_toArray, List.getElem_cons_succ, List.getElem_cons_zero, List.setIfInBounds_toArray, List.set_cons_zero, List.set_cons_succ])
    have HR6 := Lib.hid ((hbn.block _ (blk_lt HR5.out)).trans HR5.out)
    clear hbn
    refine wpAnyF_take (i := 7) (oi := _) (v := ?_) rfl (by kernel_rfl) (by kernel_rfl) (by kernel_rfl) (by kernel_rfl) (fun _ _ _ h => h) (Or.inl ⟨by rfl, ?_⟩) (by assumption) ?_
    rotate_left 1
    · intro w hSw
      (try dsimp only at hSw)
      (first | (go_simp; done) | (go_simp; with_reducible rfl))
    (try simp only [Act.put, List.getElem_toArray, List.getElem_cons_succ, List.getElem_cons_zero, List.setIfInBounds_toArray, List.set_cons_zero, List.set_cons_succ])
    refine wpAnyF_take (i := 8) (oi := _) (v := ?_) rfl (by kernel_rfl) (by kernel_rfl) (by kernel_rfl) (by kernel_rfl) (fun _ _ _ h => h) (Or.inl ⟨by rfl, ?_⟩) (by assumption) ?_
    rotate_left 1
    · intro w hSw
      (try dsimp only at hSw)
      (first | (go_simp; done) | (go_simp; with_reducible rfl))
    (try simp only [Act.put, List.getElem_toArray, List.getElem_cons_succ, List.getElem_cons_zero, List.setIfInBounds_toArray, List.set_cons_zero, List.set_cons_succ])
    refine wpAnyF_take (i := 9) (oi := _) (v := ?_) rfl (by kernel_rfl) (by kernel_rfl) (by kernel_rfl) (by kernel_rfl) (fun _ _ _ h => h) (Or.inl ⟨by rfl, ?_⟩) (by assumption) ?_
    rotate_left 1
    · intro w hSw
      (try dsimp only at hSw)
      (first | (go_simp; done) | (go_simp; with_reducible rfl))
    (try simp only [Act.put, List.getElem_toArray, List.getElem_cons_succ, List.getElem_cons_zero, List.setIfInBounds_toArray, List.set_cons_zero, List.set_cons_succ])
    refine wpAnyF_ready (rs := [11]) (by kernel_rfl) (by simp) ?_
    refine AllReadyF.cons (o := _) rfl (fun K hK => ?_) AllReadyF.nil
    rw [if_pos (by kernel_rfl)]
    refine wp_store_row 37 (.tmp 9) (.tmp 27) rfl r (zeros 32) rfl rfl _ (zeros 32) HR6.out HIZ.out rfl HOZ.out ?_
    refine hK.out _ _ (HK.out _ (below_setRow hHeld6.2 HRB.out _)) (fun hHeld11 => ?_)
    clear hK K
    (try simp only [Act.put, List.getElem_toArray, List.getElem_cons_succ, List.getElem_cons_zero, List.setIfInBounds_toArray, List.set_cons_zero, List.set_cons_succ])
    refine wpAnyF_ready (rs := [12]) (by kernel_rfl) (by simp) ?_
    refine AllReadyF.cons (o := _) rfl (fun K hK => ?_) AllReadyF.nil
    go_simp
    refine hK.out _ _ (by assumption) (fun hHeld12 => ?_)
    clear hK K
    (try simp only [Act.put, List.getElem_toArray, List.getElem_cons_succ, List.getElem_cons_zero, List.setIfInBounds_toArray, List.set_cons_zero, List.set_cons_succ])
    refine wpAnyF_done (by kernel_rfl) ?_ _
    have hrf := setRow_heap w3 r (zeros 32) (zeros 32) _ _ HR6.out
    obtain ⟨VF, hVF⟩ : ∃ VF, VF = w3.setRow r (zeros 32) := ⟨_, rfl⟩
    rw [← hVF] at hrf hHeld11 ⊢
    have HRF := Lib.hid hrf
    have HPF := Lib.hid hHeld11.1
    have HWF : Hid (Below w.heap.size w VF) := Lib.hid (HB0.out.trans (hHeld11.2.mono (by have := HKW.out; omega)))
    have HRG : Hid (w.heap.size < r) := Lib.hid (by have := HRB.out; have := HKW.out; omega)
    clear hrf hVF
    go_wp2_with (first
      | (with_reducible refine wpList_load_row_wU (by with_unfolding_all rfl) 37 (.tmp 9) rfl _ rfl 37 _ _ _ HRF.out Try.underlying37 rfl HIZ.out ?_)
      | (with_reducible refine wpList_binU (by with_unfolding_all rfl) .eql 37 37 (.tmp 54) (.tmp 55) rfl (.agg (zeros 32)) (.agg (zeros 32)) (.bool true) rfl (by with_unfolding_all rfl) (bk_guard _ _ _ _ _) (zero_eqU _) ?_))
    refine (awake12_any _).mono ?_
    rintro e w4 ⟨rfl, hb4⟩
    have HB4 := Lib.hid (HWF.out.trans (hb4.mono HWF.out.size))
    clear hb4
    go_wp2
    go_ret
    exact ⟨rfl, HB4.out⟩
set_option maxHeartbeats 4000000 in
theorem treeUp_cn5 (n k : Int) (x : List Nat) (b0 o0 m0 c : Nat) (ps : Nat → List Nat) (w : World) (hds : DgS w (some ⟨b0, o0, none⟩) 12 ps) (h12 : 12 < m0) (hc : m0 ≤ c) (hcm : c ≤ 9223372036854775807) (hx : IsDig x) (h1 : ¬ n < 1) (h2 : ¬ 1024 < n) (h3 : ¬ k < 0) (h4 : ¬ n ≤ k) :
    Calls Try.prog 4 #[.int .i64 n, .int .i64 k, .agg (dA x), .slice (some ⟨b0, o0, none⟩) m0 c] w fun e w' => e = .returned (.bool true) ∧ Below w.heap.size w w' := by
  have hz := zero_dig
  have hzr := zero32
  obtain ⟨W0, hW0⟩ : ∃ W0, W0 = w.alloc (.cells (dA x) 34) := ⟨_, rfl⟩
  have HB0 : Hid (Below w.heap.size w W0) := Lib.hid (by rw [hW0]; exact (Below.refl _ _).alloc (Nat.le_refl _) _)
  have HP6 : Hid (W0.heap[w.heap.size]? = some (.cells (dA x) 34 (0, 0))) := Lib.hid (by rw [hW0]; exact heap_alloc_new w _)
  have HW0 := Lib.hid hW0
  have hx32 : (dA x).size = 32 := by rw [rowV_size]
  have HIX := Lib.hid (info_d32 hx32)
  have HOX : Hid ((dA x).all (·.oneCell') = true) := Lib.hid (dA_one _)
  have HDS := Lib.hid hds
  have HX := Lib.hid hx
  obtain ⟨B, hB⟩ : ∃ B, B = W0.heap.size := ⟨_, rfl⟩
  have HKW : Hid (B = w.heap.size + 1) := Lib.hid (by rw [hB, hW0]; simp)
  have HBB := Lib.hid hB
  have HSZ : Hid (B ≤ W0.heap.size) := Lib.hid (Nat.le_of_eq hB)
  have HIZ := Lib.hid (info_dig (cs := zeros 32) (by simp [zeros]))
  have HOZ : Hid ((zeros 32).all (·.oneCell') = true) := Lib.hid (by kernel_rfl)
  have HUP : Hid (∀ (b : Nat) (A2 : Option Addr) (c2 : Nat) (W : World), Calls Try.prog 15 #[.pointer (some ⟨b, 0, none⟩), .int .i64 n, .int .i64 k, .agg (dA x), .slice A2 12 c2] W (UpNo W)) := Lib.hid (fun b A2 c2 W => tup_no b n k x A2 12 c2 W (by have := dpX_le n.toNat; omega))
  obtain ⟨xd, hxd⟩ : ∃ z, z = dA x := ⟨_, rfl⟩
  have HXD := Lib.hid hxd
  rw [← hxd] at HW0 HP6 HIX HOX HUP ⊢
  clear hW0 hx32 hxd hds hx hB
  have hm1 : (12 : Int) < (m0 : Int) := by omega
  have hm2 : 12 < m0 := h12
  have hc12 : 12 ≤ c := by omega
  have hm : 12 ≤ 12 := Nat.le_refl _
  obtain ⟨n', rfl⟩ : ∃ n' : Nat, n = (n' : Int) := ⟨n.toNat, by omega⟩
  have HRD := Lib.hid (fun W => rdepth_x n' (by omega) W)
  have hd10 := dpX_le n'
  have hmi : ((12 : Int) == (dpX n' : Int)) = false := by rw [beq_eq_false_iff_ne]; omega
  have hmi2 : ((12 : Int) != (dpX n' : Int)) = true := by simp [bne, hmi]
  have hmi3 : ¬ (12 : Int) = (dpX n' : Int) := by omega
  generalize dpX n' = dn at *
  clear hd10
  go_enter Try.func4, Try.ntmps4
  go_wp2_with (with_reducible refine Go.Great.wpList_boxTo rfl 34 (.tmp 2) rfl (some 6) rfl w.heap.size (by simp) xd rfl ?_)
  rw [← HW0.out]
  go_upto_region 3 with (fail)
  have HK : Hid (∀ W, Below B W0 W → W.heap[w.heap.size]? = some (.cells xd 34 (0, 0)) ∧ Below B W0 W) := Lib.hid (fun W hW => ⟨(hW.block _ (by have := HKW.out; omega)).trans HP6.out, hW⟩)
  refine wp_region_F (S := (fun W : World => W.heap[w.heap.size]? = some (.cells xd 34 (0, 0)) ∧ Below B W0 W)) [] (by kernel_rfl) (HK.out _ (by have e := HBB.out; rw [e]; exact (Below.refl _ _).drew)) (fun hHeld => ?_)
  refine wpAnyF_take (i := 1) (oi := _) (v := ?_) rfl (by kernel_rfl) (by kernel_rfl) (by kernel_rfl) (by kernel_rfl) (fun _ _ _ h => h) (Or.inl ⟨by rfl, ?_⟩) (by assumption) ?_
  rotate_left 1
  · intro w hSw
    (try dsimp only at hSw)
    (first | (go_simp; done) | (go_simp; with_reducible rfl))
  (try simp only [Act.put, List.getElem_toArray, List.getElem_cons_succ, List.getElem_cons_zero, List.setIfInBounds_toArray, List.set_cons_zero, List.set_cons_succ])
  refine wpAnyF_take (i := 2) (oi := _) (v := ?_) rfl (by kernel_rfl) (by kernel_rfl) (by kernel_rfl) (by kernel_rfl) (fun _ _ _ h => h) (Or.inl ⟨by rfl, ?_⟩) (by assumption) ?_
  rotate_left 1
  · intro w hSw
    (try dsimp only at hSw)
    (first | (go_simp; done) | (go_simp; with_reducible rfl))
  (try simp only [Act.put, List.getElem_toArray, List.getElem_cons_succ, List.getElem_cons_zero, List.setIfInBounds_toArray, List.set_cons_zero, List.set_cons_succ])
  refine wpAnyF_take (i := 3) (oi := _) (v := _) rfl (by kernel_rfl) (by kernel_rfl) (by kernel_rfl) (by kernel_rfl) (fun _ _ _ h => h) (yields_rowU (by rfl) 34 (.tmp 6) rfl w.heap.size 0 rfl xd _ (fun W h => range_cells h.1) Try.underlying34 rfl HIX.out) (by assumption) ?_
  (try simp only [Act.put, List.getElem_toArray, List.getElem_cons_succ, List.getElem_cons_zero, List.setIfInBounds_toArray, List.set_cons_zero, List.set_cons_succ])
  refine wpAnyF_take (i := 4) (oi := _) (v := ?_) rfl (by kernel_rfl) (by kernel_rfl) (by kernel_rfl) (by kernel_rfl) (fun _ _ _ h => h) (Or.inl ⟨by rfl, ?_⟩) (by assumption) ?_
  rotate_left 1
  · intro w hSw
    (try dsimp only at hSw)
    (first | (go_simp; done) | (go_simp; with_reducible rfl))
  (try simp only [Act.put, List.getElem_toArray, List.getElem_cons_succ, List.getElem_cons_zero, List.setIfInBounds_toArray, List.set_cons_zero, List.set_cons_succ])
  refine wpAnyF_ready (rs := [0, 10]) (by kernel_rfl) (by simp) ?_
  refine AllReadyF.cons (o := _) rfl (fun K hK => ?_) (AllReadyF.cons (o := _) rfl (fun K hK => ?_) AllReadyF.nil)
  · go_simp
    (go_at_call 8)
    refine (book12_any _).mono ?_
    rintro e w1 ⟨b, g, S, rfl, hbk, hS, hbn⟩
    refine hK.out _ _ (HK.out _ (hHeld.2.trans (hbn.mono (Nat.le_trans HSZ.out hHeld.2.size)))) (fun hHeld0 => ?_)
    clear hK K
    (try simp only [Act.put, List.getElem_toArray, List.getElem_cons_succ, List.getElem_cons_zero, List.setIfInBounds_toArray, List.set_cons_zero, List.set_cons_succ])
    have HBK0 := Lib.hid hbk
    have HS : Hid (∀ j, S j → B ≤ j) := Lib.hid (fun j hj => Nat.le_trans (Nat.le_trans HSZ.out hHeld.2.size) (hS j hj))
    clear hbk hS hbn
    refine wpAnyF_ready (rs := [5, 10]) (by kernel_rfl) (by simp) ?_
    refine AllReadyF.cons (o := _) rfl (fun K hK => ?_) (AllReadyF.cons (o := _) rfl (fun K hK => ?_) AllReadyF.nil)
    · go_simp
      (go_at_call 9)
      refine (digests_new 12 c (some ⟨b0, o0, none⟩) ps _ (HDS.out.below (HB0.out.trans (hHeld0.2.mono (by have := HKW.out; omega)))) (by omega)).mono ?_
      rintro e w2 ⟨A2, c2, rfl, hc2, hd2, hbn, hnew⟩
      refine hK.out _ _ (HK.out _ (hHeld0.2.trans (hbn.mono (Nat.le_trans HSZ.out hHeld0.2.size)))) (fun hHeld5 => ?_)
      clear hK K
      (try simp only [Act.put, List.getElem_toArray, List.getElem_cons_succ, List.getElem_cons_zero, List.setIfInBounds_toArray, List.set_cons_zero, List.set_cons_succ])
      have HBK5 := Lib.hid (HBK0.out.below hbn)
      have HD5 := Lib.hid hd2
      have HC2 := Lib.hid hc2
      have HOFF : Hid (∀ ad, A2 = some ad → ¬ S ad.block) := Lib.hid (fun ad e z => by have h1 := hnew ad e; have h2 := HBK0.out.sub z; omega)
      clear hd2 hc2 hbn hnew
      refine wpAnyF_ready (rs := [6, 10]) (by kernel_rfl) (by simp) ?_
      refine AllReadyF.cons (o := _) rfl (fun K hK => ?_) (AllReadyF.cons (o := _) rfl (fun K hK => ?_) AllReadyF.nil)
      · go_simp
        (go_at_call 15)
        refine (HUP.out b A2 c2 _).mono ?_
        rintro e w3 ⟨rfl, hbn⟩
        refine hK.out _ _ (HK.out _ (hHeld5.2.trans (hbn.mono (Nat.le_trans HSZ.out hHeld5.2.size)))) (fun hHeld6 => ?_)
        clear hK K
        (try simp only [Act.put, List.getElem_toArray, List.getElem_cons_succ, List.getElem_cons_zero, List.setIfInBounds_toArray, List.set_cons_zero, List.set_cons_succ])
        clear hbn
        refine wpAnyF_take (i := 7) (oi := _) (v := ?_) rfl (by kernel_rfl) (by kernel_rfl) (by kernel_rfl) (by kernel_rfl) (fun _ _ _ h => h) (Or.inl ⟨by rfl, ?_⟩) (by assumption) ?_
        rotate_left 1
        · intro w hSw
          (try dsimp only at hSw)
          (first | (go_simp; done) | (go_simp; with_reducible rfl))
        (try simp only [Act.put, List.getElem_toArray, List.getElem_cons_succ, List.getElem_cons_zero, List.setIfInBounds_toArray, List.set_cons_zero, List.set_cons_succ])
        refine wpAnyF_take (i := 8) (oi := _) (v := ?_) rfl (by kernel_rfl) (by kernel_rfl) (by kernel_rfl) (by kernel_rfl) (fun _ _ _ h => h) (Or.inl ⟨by rfl, ?_⟩) (by assumption) ?_
        rotate_left 1
        · intro w hSw
          (try dsimp only at hSw)
          (first | (go_simp; done) | (go_simp; with_reducible rfl))
        (try simp only [Act.put, List.getElem_toArray, List.getElem_cons_succ, List.getElem_cons_zero, List.setIfInBounds_toArray, List.set_cons_zero, List.set_cons_succ])
        refine wpAnyF_take (i := 9) (oi := _) (v := ?_) rfl (by kernel_rfl) (by kernel_rfl) (by kernel_rfl) (by kernel_rfl) (fun _ _ _ h => h) (Or.inl ⟨by rfl, ?_⟩) (by assumption) ?_
        rotate_left 1
        · intro w hSw
          (try dsimp only at hSw)
          (first | (go_simp; done) | (go_simp; with_reducible rfl))
        (try simp only [Act.put, List.getElem_toArray, List.getElem_cons_succ, List.getElem_cons_zero, List.setIfInBounds_toArray, List.set_cons_zero, List.set_cons_succ])
        refine wpAnyF_ready (rs := [10]) (by kernel_rfl) (by simp) ?_
        refine AllReadyF.cons (o := _) rfl (fun K hK => ?_) AllReadyF.nil
        go_simp
        refine hK.out _ _ (HK.out _ ((hHeld6.2).alloc (Nat.le_trans HSZ.out hHeld6.2.size) _)) (fun hHeld10 => ?_)
        clear hK K
        (try simp only [Act.put, List.getElem_toArray, List.getElem_cons_succ, List.getElem_cons_zero, List.setIfInBounds_toArray, List.set_cons_zero, List.set_cons_succ])
        have hr := heap_alloc_new w3 (.cells (zeros 32) 37)
        have hbn : Below w3.heap.size w3 (w3.alloc (.cells (zeros 32) 37)) := (Below.refl _ _).alloc (Nat.le_refl _) _
        have hrb : B ≤ w3.heap.size := (Nat.le_trans HSZ.out hHeld6.2.size)
        clear hbn
        obtain ⟨V, hV⟩ : ∃ V, V = w3.alloc (.cells (zeros 32) 37) := ⟨_, rfl⟩
        rw [← hV] at hr hHeld10 ⊢
        obtain ⟨r, hrr⟩ : ∃ r, r = w3.heap.size := ⟨_, rfl⟩
        rw [← hrr] at hr hrb ⊢
        have HR10 := Lib.hid hr
        have HRB := Lib.hid hrb
        clear hV hrr hr hrb
        refine wpAnyF_ready (rs := [11]) (by kernel_rfl) (by simp) ?_
        refine AllReadyF.cons (o := _) rfl (fun K hK => ?_) AllReadyF.nil
        rw [if_pos (by kernel_rfl)]
        refine wp_store_row 37 (.tmp 9) (.tmp 27) rfl r (zeros 32) rfl rfl _ (zeros 32) HR10.out HIZ.out rfl HOZ.out ?_
        refine hK.out _ _ (HK.out _ (below_setRow hHeld10.2 HRB.out _)) (fun hHeld11 => ?_)
        clear hK K
        (try simp only [Act.put, List.getElem_toArray, List.getElem_cons_succ, List.getElem_cons_zero, List.setIfInBounds_toArray, List.set_cons_zero, List.set_cons_succ])
        refine wpAnyF_ready (rs := [12]) (by kernel_rfl) (by simp) ?_
        refine AllReadyF.cons (o := _) rfl (fun K hK => ?_) AllReadyF.nil
        go_simp
        refine hK.out _ _ (by assumption) (fun hHeld12 => ?_)
        clear hK K
        (try simp only [Act.put, List.getElem_toArray, List.getElem_cons_succ, List.getElem_cons_zero, List.setIfInBounds_toArray, List.set_cons_zero, List.set_cons_succ])
        refine wpAnyF_done (by kernel_rfl) ?_ _
        have hrf := setRow_heap V r (zeros 32) (zeros 32) _ _ HR10.out
        obtain ⟨VF, hVF⟩ : ∃ VF, VF = V.setRow r (zeros 32) := ⟨_, rfl⟩
        rw [← hVF] at hrf hHeld11 ⊢
        have HRF := Lib.hid hrf
        have HPF := Lib.hid hHeld11.1
        have HWF : Hid (Below w.heap.size w VF) := Lib.hid (HB0.out.trans (hHeld11.2.mono (by have := HKW.out; omega)))
        have HRG : Hid (w.heap.size < r) := Lib.hid (by have := HRB.out; have := HKW.out; omega)
        clear hrf hVF
        go_wp2_with fail
        refine (HRD.out _).mono ?_
        rintro e w' ⟨rfl, rfl⟩
        go_wp2_with (first
          | (with_reducible refine wpList_load_row_wU (by with_unfolding_all rfl) 37 (.tmp 9) rfl _ rfl 37 _ _ _ HRF.out Try.underlying37 rfl HIZ.out ?_)
          | (with_reducible refine wpList_binU (by with_unfolding_all rfl) .eql 37 37 (.tmp 54) (.tmp 55) rfl (.agg (zeros 32)) (.agg (zeros 32)) (.bool true) rfl (by with_unfolding_all rfl) (bk_guard _ _ _ _ _) (zero_eqU _) ?_))
        refine (awake12_any _).mono ?_
        rintro e w4 ⟨rfl, hb4⟩
        have HB4 := Lib.hid (HWF.out.trans (hb4.mono HWF.out.size))
        clear hb4
        go_wp2
        go_ret
        exact ⟨rfl, HB4.out⟩
      · go_simp
        refine hK.out _ _ (HK.out _ ((hHeld5.2).alloc (Nat.le_trans HSZ.out hHeld5.2.size) _)) (fun hHeld10 => ?_)
        clear hK K
        (try simp only [Act.put, List.getElem_toArray, List.getElem_cons_succ, List.getElem_cons_zero, List.setIfInBounds_toArray, List.set_cons_zero, List.set_cons_succ])
        have hr := heap_alloc_new w2 (.cells (zeros 32) 37)
        have hbn : Below w2.heap.size w2 (w2.alloc (.cells (zeros 32) 37)) := (Below.refl _ _).alloc (Nat.le_refl _) _
        have HBK10 := Lib.hid (HBK5.out.below hbn)
        have HD10 := Lib.hid (HD5.out.below hbn)
        have hrb : B ≤ w2.heap.size := (Nat.le_trans HSZ.out hHeld5.2.size)
        have hrs : ¬ S w2.heap.size := fun z => by have := HBK5.out.sub z; omega
        clear hbn
        obtain ⟨V, hV⟩ : ∃ V, V = w2.alloc (.cells (zeros 32) 37) := ⟨_, rfl⟩
        rw [← hV] at hr hHeld10 ⊢
        rw [← hV] at HBK10
        rw [← hV] at HD10
        obtain ⟨r, hrr⟩ : ∃ r, r = w2.heap.size := ⟨_, rfl⟩
        rw [← hrr] at hr hrb ⊢
        rw [← hrr] at hrs
        have HRS := Lib.hid hrs
        clear hrs
        have HR10 := Lib.hid hr
        have HRB := Lib.hid hrb
        clear hV hrr hr hrb
        refine wpAnyF_ready (rs := [6]) (by kernel_rfl) (by simp) ?_
        refine AllReadyF.cons (o := _) rfl (fun K hK => ?_) AllReadyF.nil
        go_simp
        (go_at_call 15)
        refine (HUP.out b A2 c2 _).mono ?_
        rintro e w3 ⟨rfl, hbn⟩
        refine hK.out _ _ (HK.out _ (hHeld10.2.trans (hbn.mono (Nat.le_trans HSZ.out hHeld10.2.size)))) (fun hHeld6 => ?_)
        clear hK K
        (try simp only [Act.put, List.getElem_toArray, List.getElem_cons_succ, List.getElem_cons_zero, List.setIfInBounds_toArray, List.set_cons_zero, List.set_cons_succ])
        have HR6 := Lib.hid ((hbn.block _ (blk_lt HR10.out)).trans HR10.out)
        clear hbn
        refine wpAnyF_take (i := 7) (oi := _) (v := ?_) rfl (by kernel_rfl) (by kernel_rfl) (by kernel_rfl) (by kernel_rfl) (fun _ _ _ h => h) (Or.inl ⟨by rfl, ?_⟩) (by assumption) ?_
        rotate_left 1
        · intro w hSw
          (try dsimp only at hSw)
          (first | (go_simp; done) | (go_simp; with_reducible rfl))
        (try simp only [Act.put, List.getElem_toArray, List.getElem_cons_succ, List.getElem_cons_zero, List.setIfInBounds_toArray, List.set_cons_zero, List.set_cons_succ])
        refine wpAnyF_take (i := 8) (oi := _) (v := ?_) rfl (by kernel_rfl) (by kernel_rfl) (by kernel_rfl) (by kernel_rfl) (fun _ _ _ h => h) (Or.inl ⟨by rfl, ?_⟩) (by assumption) ?_
        rotate_left 1
        · intro w hSw
          (try dsimp only at hSw)
          (first | (go_simp; done) | (go_simp; with_reducible rfl))
        (try simp only [Act.put, List.getElem_toArray, List.getElem_cons_succ, List.getElem_cons_zero, List.setIfInBounds_toArray, List.set_cons_zero, List.set_cons_succ])
        refine wpAnyF_take (i := 9) (oi := _) (v := ?_) rfl (by kernel_rfl) (by kernel_rfl) (by kernel_rfl) (by kernel_rfl) (fun _ _ _ h => h) (Or.inl ⟨by rfl, ?_⟩) (by assumption) ?_
        rotate_left 1
        · intro w hSw
          (try dsimp only at hSw)
          (first | (go_simp; done) | (go_simp; with_reducible rfl))
        (try simp only [Act.put, List.getElem_toArray, List.getElem_cons_succ, List.getElem_cons_zero, List.setIfInBounds_toArray, List.set_cons_zero, List.set_cons_succ])
        refine wpAnyF_ready (rs := [11]) (by kernel_rfl) (by simp) ?_
        refine AllReadyF.cons (o := _) rfl (fun K hK => ?_) AllReadyF.nil
        rw [if_pos (by kernel_rfl)]
        refine wp_store_row 37 (.tmp 9) (.tmp 27) rfl r (zeros 32) rfl rfl _ (zeros 32) HR6.out HIZ.out rfl HOZ.out ?_
        refine hK.out _ _ (HK.out _ (below_setRow hHeld6.2 HRB.out _)) (fun hHeld11 => ?_)
        clear hK K
        (try simp only [Act.put, List.getElem_toArray, List.getElem_cons_succ, List.getElem_cons_zero, List.setIfInBounds_toArray, List.set_cons_zero, List.set_cons_succ])
        refine wpAnyF_ready (rs := [12]) (by kernel_rfl) (by simp) ?_
        refine AllReadyF.cons (o := _) rfl (fun K hK => ?_) AllReadyF.nil
        go_simp
        refine hK.out _ _ (by assumption) (fun hHeld12 => ?_)
        clear hK K
        (try simp only [Act.put, List.getElem_toArray, List.getElem_cons_succ, List.getElem_cons_zero, List.setIfInBounds_toArray, List.set_cons_zero, List.set_cons_succ])
        refine wpAnyF_done (by kernel_rfl) ?_ _
        have hrf := setRow_heap w3 r (zeros 32) (zeros 32) _ _ HR6.out
        obtain ⟨VF, hVF⟩ : ∃ VF, VF = w3.setRow r (zeros 32) := ⟨_, rfl⟩
        rw [← hVF] at hrf hHeld11 ⊢
        have HRF := Lib.hid hrf
        have HPF := Lib.hid hHeld11.1
        have HWF : Hid (Below w.heap.size w VF) := Lib.hid (HB0.out.trans (hHeld11.2.mono (by have := HKW.out; omega)))
        have HRG : Hid (w.heap.size < r) := Lib.hid (by have := HRB.out; have := HKW.out; omega)
        clear hrf hVF
        go_wp2_with fail
        refine (HRD.out _).mono ?_
        rintro e w' ⟨rfl, rfl⟩
        go_wp2_with (first
          | (with_reducible refine wpList_load_row_wU (by with_unfolding_all rfl) 37 (.tmp 9) rfl _ rfl 37 _ _ _ HRF.out Try.underlying37 rfl HIZ.out ?_)
          | (with_reducible refine wpList_binU (by with_unfolding_all rfl) .eql 37 37 (.tmp 54) (.tmp 55) rfl (.agg (zeros 32)) (.agg (zeros 32)) (.bool true) rfl (by with_unfolding_all rfl) (bk_guard _ _ _ _ _) (zero_eqU _) ?_))
        refine (awake12_any _).mono ?_
        rintro e w4 ⟨rfl, hb4⟩
        have HB4 := Lib.hid (HWF.out.trans (hb4.mono HWF.out.size))
        clear hb4
        go_wp2
        go_ret
        exact ⟨rfl, HB4.out⟩
    · go_simp
      refine hK.out _ _ (HK.out _ ((hHeld0.2).alloc (Nat.le_trans HSZ.out hHeld0.2.size) _)) (fun hHeld10 => ?_)
      clear hK K
      (try simp only [Act.put, List.getElem_toArray, List.getElem_cons_succ, List.getElem_cons_zero, List.setIfInBounds_toArray, List.set_cons_zero, List.set_cons_succ])
      have hr := heap_alloc_new w1 (.cells (zeros 32) 37)
      have hbn : Below w1.heap.size w1 (w1.alloc (.cells (zeros 32) 37)) := (Below.refl _ _).alloc (Nat.le_refl _) _
      have HBK10 := Lib.hid (HBK0.out.below hbn)
      have hrb : B ≤ w1.heap.size := (Nat.le_trans HSZ.out hHeld0.2.size)
      have hrs : ¬ S w1.heap.size := fun z => by have := HBK0.out.sub z; omega
      clear hbn
      obtain ⟨V, hV⟩ : ∃ V, V = w1.alloc (.cells (zeros 32) 37) := ⟨_, rfl⟩
      rw [← hV] at hr hHeld10 ⊢
      rw [← hV] at HBK10
      obtain ⟨r, hrr⟩ : ∃ r, r = w1.heap.size := ⟨_, rfl⟩
      rw [← hrr] at hr hrb ⊢
      rw [← hrr] at hrs
      have HRS := Lib.hid hrs
      clear hrs
      have HR10 := Lib.hid hr
      have HRB := Lib.hid hrb
      clear hV hrr hr hrb
      refine wpAnyF_ready (rs := [5]) (by kernel_rfl) (by simp) ?_
      refine AllReadyF.cons (o := _) rfl (fun K hK => ?_) AllReadyF.nil
      go_simp
      (go_at_call 9)
      refine (digests_new 12 c (some ⟨b0, o0, none⟩) ps _ (HDS.out.below (HB0.out.trans (hHeld10.2.mono (by have := HKW.out; omega)))) (by omega)).mono ?_
      rintro e w2 ⟨A2, c2, rfl, hc2, hd2, hbn, hnew⟩
      refine hK.out _ _ (HK.out _ (hHeld10.2.trans (hbn.mono (Nat.le_trans HSZ.out hHeld10.2.size)))) (fun hHeld5 => ?_)
      clear hK K
      (try simp only [Act.put, List.getElem_toArray, List.getElem_cons_succ, List.getElem_cons_zero, List.setIfInBounds_toArray, List.set_cons_zero, List.set_cons_succ])
      have HBK5 := Lib.hid (HBK10.out.below hbn)
      have HD5 := Lib.hid hd2
      have HC2 := Lib.hid hc2
      have HOFF : Hid (∀ ad, A2 = some ad → ¬ S ad.block) := Lib.hid (fun ad e z => by have h1 := hnew ad e; have h2 := HBK10.out.sub z; omega)
      have HR5 := Lib.hid ((hbn.block _ (blk_lt HR10.out)).trans HR10.out)
      clear hd2 hc2 hbn hnew
      refine wpAnyF_ready (rs := [6]) (by kernel_rfl) (by simp) ?_
      refine AllReadyF.cons (o := _) rfl (fun K hK => ?_) AllReadyF.nil
      go_simp
      (go_at_call 15)
      refine (HUP.out b A2 c2 _).mono ?_
      rintro e w3 ⟨rfl, hbn⟩
      refine hK.out _ _ (HK.out _ (hHeld5.2.trans (hbn.mono (Nat.le_trans HSZ.out hHeld5.2.size)))) (fun hHeld6 => ?_)
      clear hK K
      (try simp only [Act.put, List.getElem_toArray, List.getElem_cons_succ, List.getElem_cons_zero, List.setIfInBounds_toArray, List.set_cons_zero, List.set_cons_succ])
      have HR6 := Lib.hid ((hbn.block _ (blk_lt HR5.out)).trans HR5.out)
      clear hbn
      refine wpAnyF_take (i := 7) (oi := _) (v := ?_) rfl (by kernel_rfl) (by kernel_rfl) (by kernel_rfl) (by kernel_rfl) (fun _ _ _ h => h) (Or.inl ⟨by rfl, ?_⟩) (by assumption) ?_
      rotate_left 1
      · intro w hSw
        (try dsimp only at hSw)
        (first | (go_simp; done) | (go_simp; with_reducible rfl))
      (try simp only [Act.put, List.getElem_toArray, List.getElem_cons_succ, List.getElem_cons_zero, List.setIfInBounds_toArray, List.set_cons_zero, List.set_cons_succ])
      refine wpAnyF_take (i := 8) (oi := _) (v := ?_) rfl (by kernel_rfl) (by kernel_rfl) (by kernel_rfl) (by kernel_rfl) (fun _ _ _ h => h) (Or.inl ⟨by rfl, ?_⟩) (by assumption) ?_
      rotate_left 1
      · intro w hSw
        (try dsimp only at hSw)
        (first | (go_simp; done) | (go_simp; with_reducible rfl))
      (try simp only [Act.put, List.getElem_toArray, List.getElem_cons_succ, List.getElem_cons_zero, List.setIfInBounds_toArray, List.set_cons_zero, List.set_cons_succ])
      refine wpAnyF_take (i := 9) (oi := _) (v := ?_) rfl (by kernel_rfl) (by kernel_rfl) (by kernel_rfl) (by kernel_rfl) (fun _ _ _ h => h) (Or.inl ⟨by rfl, ?_⟩) (by assumption) ?_
      rotate_left 1
      · intro w hSw
        (try dsimp only at hSw)
        (first | (go_simp; done) | (go_simp; with_reducible rfl))
      (try simp only [Act.put, List.getElem_toArray, List.getElem_cons_succ, List.getElem_cons_zero, List.setIfInBounds_toArray, List.set_cons_zero, List.set_cons_succ])
      refine wpAnyF_ready (rs := [11]) (by kernel_rfl) (by simp) ?_
      refine AllReadyF.cons (o := _) rfl (fun K hK => ?_) AllReadyF.nil
      rw [if_pos (by kernel_rfl)]
      refine wp_store_row 37 (.tmp 9) (.tmp 27) rfl r (zeros 32) rfl rfl _ (zeros 32) HR6.out HIZ.out rfl HOZ.out ?_
      refine hK.out _ _ (HK.out _ (below_setRow hHeld6.2 HRB.out _)) (fun hHeld11 => ?_)
      clear hK K
      (try simp only [Act.put, List.getElem_toArray, List.getElem_cons_succ, List.getElem_cons_zero, List.setIfInBounds_toArray, List.set_cons_zero, List.set_cons_succ])
      refine wpAnyF_ready (rs := [12]) (by kernel_rfl) (by simp) ?_
      refine AllReadyF.cons (o := _) rfl (fun K hK => ?_) AllReadyF.nil
      go_simp
      refine hK.out _ _ (by assumption) (fun hHeld12 => ?_)
      clear hK K
      (try simp only [Act.put, List.getElem_toArray, List.getElem_cons_succ, List.getElem_cons_zero, List.setIfInBounds_toArray, List.set_cons_zero, List.set_cons_succ])
      refine wpAnyF_done (by kernel_rfl) ?_ _
      have hrf := setRow_heap w3 r (zeros 32) (zeros 32) _ _ HR6.out
      obtain ⟨VF, hVF⟩ : ∃ VF, VF = w3.setRow r (zeros 32) := ⟨_, rfl⟩
      rw [← hVF] at hrf hHeld11 ⊢
      have HRF := Lib.hid hrf
      have HPF := Lib.hid hHeld11.1
      have HWF : Hid (Below w.heap.size w VF) := Lib.hid (HB0.out.trans (hHeld11.2.mono (by have := HKW.out; omega)))
      have HRG : Hid (w.heap.size < r) := Lib.hid (by have := HRB.out; have := HKW.out; omega)
      clear hrf hVF
      go_wp2_with fail
      refine (HRD.out _).mono ?_
      rintro e w' ⟨rfl, rfl⟩
      go_wp2_with (first
        | (with_reducible refine wpList_load_row_wU (by with_unfolding_all rfl) 37 (.tmp 9) rfl _ rfl 37 _ _ _ HRF.out Try.underlying37 rfl HIZ.out ?_)
        | (with_reducible refine wpList_binU (by with_unfolding_all rfl) .eql 37 37 (.tmp 54) (.tmp 55) rfl (.agg (zeros 32)) (.agg (zeros 32)) (.bool true) rfl (by with_unfolding_all rfl) (bk_guard _ _ _ _ _) (zero_eqU _) ?_))
      refine (awake12_any _).mono ?_
      rintro e w4 ⟨rfl, hb4⟩
      have HB4 := Lib.hid (HWF.out.trans (hb4.mono HWF.out.size))
      clear hb4
      go_wp2
      go_ret
      exact ⟨rfl, HB4.out⟩
  · go_simp
    refine hK.out _ _ (HK.out _ ((hHeld.2).alloc (Nat.le_trans HSZ.out hHeld.2.size) _)) (fun hHeld10 => ?_)
    clear hK K
    (try simp only [Act.put, List.getElem_toArray, List.getElem_cons_succ, List.getElem_cons_zero, List.setIfInBounds_toArray, List.set_cons_zero, List.set_cons_succ])
    have hr := heap_alloc_new W0 (.cells (zeros 32) 37)
    have hbn : Below W0.heap.size W0 (W0.alloc (.cells (zeros 32) 37)) := (Below.refl _ _).alloc (Nat.le_refl _) _
    have hrb : B ≤ W0.heap.size := (Nat.le_trans HSZ.out hHeld.2.size)
    clear hbn
    obtain ⟨V, hV⟩ : ∃ V, V = W0.alloc (.cells (zeros 32) 37) := ⟨_, rfl⟩
    rw [← hV] at hr hHeld10 ⊢
    obtain ⟨r, hrr⟩ : ∃ r, r = W0.heap.size := ⟨_, rfl⟩
    rw [← hrr] at hr hrb ⊢
    have HR10 := Lib.hid hr
    have HRB := Lib.hid hrb
    clear hV hrr hr hrb
    refine wpAnyF_ready (rs := [0]) (by kernel_rfl) (by simp) ?_
    refine AllReadyF.cons (o := _) rfl (fun K hK => ?_) AllReadyF.nil
    go_simp
    (go_at_call 8)
    refine (book12_any _).mono ?_
    rintro e w1 ⟨b, g, S, rfl, hbk, hS, hbn⟩
    refine hK.out _ _ (HK.out _ (hHeld10.2.trans (hbn.mono (Nat.le_trans HSZ.out hHeld10.2.size)))) (fun hHeld0 => ?_)
    clear hK K
    (try simp only [Act.put, List.getElem_toArray, List.getElem_cons_succ, List.getElem_cons_zero, List.setIfInBounds_toArray, List.set_cons_zero, List.set_cons_succ])
    have HBK0 := Lib.hid hbk
    have HS : Hid (∀ j, S j → B ≤ j) := Lib.hid (fun j hj => Nat.le_trans (Nat.le_trans HSZ.out hHeld10.2.size) (hS j hj))
    have HR0 := Lib.hid ((hbn.block _ (blk_lt HR10.out)).trans HR10.out)
    have HRS : Hid (¬ S r) := Lib.hid (fun z => by have h1 := hS r z; have h2 := blk_lt HR10.out; exact absurd h1 (Nat.not_le.2 h2))
    clear hbk hS hbn
    refine wpAnyF_ready (rs := [5]) (by kernel_rfl) (by simp) ?_
    refine AllReadyF.cons (o := _) rfl (fun K hK => ?_) AllReadyF.nil
    go_simp
    (go_at_call 9)
    refine (digests_new 12 c (some ⟨b0, o0, none⟩) ps _ (HDS.out.below (HB0.out.trans (hHeld0.2.mono (by have := HKW.out; omega)))) (by omega)).mono ?_
    rintro e w2 ⟨A2, c2, rfl, hc2, hd2, hbn, hnew⟩
    refine hK.out _ _ (HK.out _ (hHeld0.2.trans (hbn.mono (Nat.le_trans HSZ.out hHeld0.2.size)))) (fun hHeld5 => ?_)
    clear hK K
    (try simp only [Act.put, List.getElem_toArray, List.getElem_cons_succ, List.getElem_cons_zero, List.setIfInBounds_toArray, List.set_cons_zero, List.set_cons_succ])
    have HBK5 := Lib.hid (HBK0.out.below hbn)
    have HD5 := Lib.hid hd2
    have HC2 := Lib.hid hc2
    have HOFF : Hid (∀ ad, A2 = some ad → ¬ S ad.block) := Lib.hid (fun ad e z => by have h1 := hnew ad e; have h2 := HBK0.out.sub z; omega)
    have HR5 := Lib.hid ((hbn.block _ (blk_lt HR0.out)).trans HR0.out)
    clear hd2 hc2 hbn hnew
    refine wpAnyF_ready (rs := [6]) (by kernel_rfl) (by simp) ?_
    refine AllReadyF.cons (o := _) rfl (fun K hK => ?_) AllReadyF.nil
    go_simp
    (go_at_call 15)
    refine (HUP.out b A2 c2 _).mono ?_
    rintro e w3 ⟨rfl, hbn⟩
    refine hK.out _ _ (HK.out _ (hHeld5.2.trans (hbn.mono (Nat.le_trans HSZ.out hHeld5.2.size)))) (fun hHeld6 => ?_)
    clear hK K
    (try simp only [Act.put, List.getElem_toArray, List.getElem_cons_succ, List.getElem_cons_zero, List.setIfInBounds_toArray, List.set_cons_zero, List.set_cons_succ])
    have HR6 := Lib.hid ((hbn.block _ (blk_lt HR5.out)).trans HR5.out)
    clear hbn
    refine wpAnyF_take (i := 7) (oi := _) (v := ?_) rfl (by kernel_rfl) (by kernel_rfl) (by kernel_rfl) (by kernel_rfl) (fun _ _ _ h => h) (Or.inl ⟨by rfl, ?_⟩) (by assumption) ?_
    rotate_left 1
    · intro w hSw
      (try dsimp only at hSw)
      (first | (go_simp; done) | (go_simp; with_reducible rfl))
    (try simp only [Act.put, List.getElem_toArray, List.getElem_cons_succ, List.getElem_cons_zero, List.setIfInBounds_toArray, List.set_cons_zero, List.set_cons_succ])
    refine wpAnyF_take (i := 8) (oi := _) (v := ?_) rfl (by kernel_rfl) (by kernel_rfl) (by kernel_rfl) (by kernel_rfl) (fun _ _ _ h => h) (Or.inl ⟨by rfl, ?_⟩) (by assumption) ?_
    rotate_left 1
    · intro w hSw
      (try dsimp only at hSw)
      (first | (go_simp; done) | (go_simp; with_reducible rfl))
    (try simp only [Act.put, List.getElem_toArray, List.getElem_cons_succ, List.getElem_cons_zero, List.setIfInBounds_toArray, List.set_cons_zero, List.set_cons_succ])
    refine wpAnyF_take (i := 9) (oi := _) (v := ?_) rfl (by kernel_rfl) (by kernel_rfl) (by kernel_rfl) (by kernel_rfl) (fun _ _ _ h => h) (Or.inl ⟨by rfl, ?_⟩) (by assumption) ?_
    rotate_left 1
    · intro w hSw
      (try dsimp only at hSw)
      (first | (go_simp; done) | (go_simp; with_reducible rfl))
    (try simp only [Act.put, List.getElem_toArray, List.getElem_cons_succ, List.getElem_cons_zero, List.setIfInBounds_toArray, List.set_cons_zero, List.set_cons_succ])
    refine wpAnyF_ready (rs := [11]) (by kernel_rfl) (by simp) ?_
    refine AllReadyF.cons (o := _) rfl (fun K hK => ?_) AllReadyF.nil
    rw [if_pos (by kernel_rfl)]
    refine wp_store_row 37 (.tmp 9) (.tmp 27) rfl r (zeros 32) rfl rfl _ (zeros 32) HR6.out HIZ.out rfl HOZ.out ?_
    refine hK.out _ _ (HK.out _ (below_setRow hHeld6.2 HRB.out _)) (fun hHeld11 => ?_)
    clear hK K
    (try simp only [Act.put, List.getElem_toArray, List.getElem_cons_succ, List.getElem_cons_zero, List.setIfInBounds_toArray, List.set_cons_zero, List.set_cons_succ])
    refine wpAnyF_ready (rs := [12]) (by kernel_rfl) (by simp) ?_
    refine AllReadyF.cons (o := _) rfl (fun K hK => ?_) AllReadyF.nil
    go_simp
    refine hK.out _ _ (by assumption) (fun hHeld12 => ?_)
    clear hK K
    (try simp only [Act.put, List.getElem_toArray, List.getElem_cons_succ, List.getElem_cons_zero, List.setIfInBounds_toArray, List.set_cons_zero, List.set_cons_succ])
    refine wpAnyF_done (by kernel_rfl) ?_ _
    have hrf := setRow_heap w3 r (zeros 32) (zeros 32) _ _ HR6.out
    obtain ⟨VF, hVF⟩ : ∃ VF, VF = w3.setRow r (zeros 32) := ⟨_, rfl⟩
    rw [← hVF] at hrf hHeld11 ⊢
    have HRF := Lib.hid hrf
    have HPF := Lib.hid hHeld11.1
    have HWF : Hid (Below w.heap.size w VF) := Lib.hid (HB0.out.trans (hHeld11.2.mono (by have := HKW.out; omega)))
    have HRG : Hid (w.heap.size < r) := Lib.hid (by have := HRB.out; have := HKW.out; omega)
    clear hrf hVF
    go_wp2_with fail
    refine (HRD.out _).mono ?_
    rintro e w' ⟨rfl, rfl⟩
    go_wp2_with (first
      | (with_reducible refine wpList_load_row_wU (by with_unfolding_all rfl) 37 (.tmp 9) rfl _ rfl 37 _ _ _ HRF.out Try.underlying37 rfl HIZ.out ?_)
      | (with_reducible refine wpList_binU (by with_unfolding_all rfl) .eql 37 37 (.tmp 54) (.tmp 55) rfl (.agg (zeros 32)) (.agg (zeros 32)) (.bool true) rfl (by with_unfolding_all rfl) (bk_guard _ _ _ _ _) (zero_eqU _) ?_))
    refine (awake12_any _).mono ?_
    rintro e w4 ⟨rfl, hb4⟩
    have HB4 := Lib.hid (HWF.out.trans (hb4.mono HWF.out.size))
    clear hb4
    go_wp2
    go_ret
    exact ⟨rfl, HB4.out⟩
end
end Go.Proofs.Ytogipflmnnmhiaa
