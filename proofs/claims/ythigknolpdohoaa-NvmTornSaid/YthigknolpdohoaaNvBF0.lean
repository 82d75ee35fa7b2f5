/-
  NvmTorn's walk: case 0.
-/
import Derived.Test.YthigknolpdohoaaNvBE
namespace Go.Proofs.Ythigknolpdohoaa
open Go.RowKit Go
set_option linter.unusedVariables false
set_option linter.unusedSimpArgs false
set_option maxRecDepth 100000
set_option maxHeartbeats 8000000 in
theorem nvmTorn_0 (A0 A1 A2 : Option Addr) (n0 c0 n1 c1 n2 c2 : Nat) (l0 l2 : List Nat) (os : List O8) (w : World) (h0 : BS w w.heap.size A0 n0 c0 l0) (h1 : O8V w A1 n1 os) (hn1 : n1 ≤ c1) (hc1 : c1 ≤ 9223372036854775807) (h2 : BS w w.heap.size A2 n2 c2 l2) (k0 : n0 ≤ 128) (k2 : n2 ≤ 12) :
    Calls Try.prog 5 #[.slice A0 n0 c0, .slice A1 n1 c1, .slice A2 n2 c2] w fun e w' => e = .returned (.bool true) ∧ Below w.heap.size w w' := by
  have H0 := Lib.hid h0
  have H1 := Lib.hid h1
  have H2 := Lib.hid h2
  have i0 : ¬ (128 : Int) < (n0 : Int) := by omega
  have i2 : ¬ (12 : Int) < (n2 : Int) := by omega
  clear h0 h1 h2
  have HN := Lib.hid (aw_new w)
  go_enter Try.func5, Try.ntmps5
  go_wp2_with fail
  refine HN.out.mono ?_
  rintro e w1 ⟨g, b, rfl, ha⟩
  have HA1 := Lib.hid ha
  clear ha HN
  go_wp2_with fail
  refine (HA1.out.put (by omega) 0 n0 c0 A0 l0 (by omega) (H0.out.below HA1.out.under)).mono ?_
  rintro e w2 ⟨rfl, ha⟩
  have HA2 := Lib.hid ha
  clear ha HA1
  go_wp2_with fail
  refine (HA2.out.flushAt (by omega) 0 128 (by omega) (by omega)).mono ?_
  rintro e w3 ⟨rfl, ha⟩
  have HA3 := Lib.hid ha
  clear ha HA2
  go_wp2_with fail
  refine HA3.out.fence (by omega) |>.mono ?_
  rintro e w4 ⟨rfl, ha⟩
  have HW : Hid (nowsL _ = lastsQ _) := Lib.hid (first_words l0)
  generalize turnW (fun _ => Wd.fe) 0 (8 * 2) _ = ws3 at ha HW
  have HA4 : Hid (AwS w w4 [] g b false 3 ws3) := Lib.hid ha
  clear ha HA3
  go_wp2_with fail
  refine HA4.out.shot.mono ?_
  rintro e w5 ⟨q1, d1, o1, rfl, hp1, hl1, hq1, _, ha⟩
  have HP1 := Lib.hid hp1
  have HL1 := Lib.hid hl1
  have HQ1 := Lib.hid hq1
  have HA5 := Lib.hid ha
  clear hp1 hl1 hq1 ha HA4
  have HX : Hid (Own (w5.alloc (.cells #[] 5)) w5.heap.size (.slice (some ⟨w5.heap.size, 0, none⟩) 0 0) []) := Lib.hid ⟨rfl, .inr ⟨w5.heap.size, 0, #[], rfl, Nat.le_refl _, heap_alloc_new _ _, Nat.le_refl _, by unfold maxLen; omega, rfl, rfl⟩⟩
  have HBA : Hid (Below w5.heap.size w5 (w5.alloc (.cells #[] 5))) := Lib.hid ((Below.refl _ _).alloc (Nat.le_refl _) _)
  have HP5 : Hid (BS (w5.alloc (.cells #[] 5)) (w5.alloc (.cells #[] 5)).heap.size (some ⟨q1, 0, none⟩) 128 d1 (lastsL ws3)) := Lib.hid (by have h9 := HP1.out _ ((HA5.out.next HBA.out).has (List.mem_cons_self ..)); rw [HL1.out] at h9; exact h9)
  go_wp2_with (at_builtin; refine wpList_plain rfl fun K0 hK => ?_; refine step_appsG _ (.tmp 44) (.tmp 45) rfl w5.heap.size _ [] rfl HX.out _ _ 128 d1 (lastsL ws3) rfl HP5.out (fun e => by cases e) (by simp) HBA.out.size ?_; intro v9 w9 ho9 hb9 _; rw [List.nil_append] at ho9; obtain ⟨q2, d2, r2, e9, hq2, hh2, hd2, hd2'⟩ := own_row ho9 (by rw [HL1.out]; omega); subst e9; rw [HL1.out] at hd2 ⊢; have HR : Hid (TnR w g b n1 q1 q2 o1 (lastsQ ws3) (.int .i64 0) w9) := Lib.hid ⟨0, 3, ws3, _, r2, rfl, by omega, by omega, by omega, HA5.out.mark (HBA.out.trans hb9) hq2 hh2, rfl, HW.out⟩; have HD2 := Lib.hid (And.intro hd2 hd2'); have HQ2 : Hid (w.heap.size ≤ q2 ∧ q1 ≠ q2) := Lib.hid ⟨Nat.le_trans HA5.out.under.size hq2, fun e => by have := blk_lt' (HA5.out.has (List.mem_cons_self ..)); omega⟩; clear ho9 hb9 hq2 hh2 hd2 hd2'; refine hK _ _ ?_)
  clear HX HBA HP5 HA5
  go_loopw [49] (fun iv wr => TnR w g b n1 q1 q2 o1 (lastsQ ws3) iv wr) (fun iv _ => (n1 - intOf iv).toNat)
  case atStart => exact HR.out
  case round =>
    clear HR
    obtain ⟨i, k, ws, now, r, rfl, hi, hi10, hk, hA, hl, hnw⟩ := hrel
    have HA := Lib.hid hA
    have HL := Lib.hid hl
    have HNW := Lib.hid hnw
    clear hA hl hnw
    by_cases hlt : i < n1
    · by_cases h10 : i < 10
      · have hbI : ¬ (10 : Int) ≤ (i : Int) := by omega
        obtain ⟨bo, oo, B1, e1, B2, e2, rfl, hb0, p0, p1, p2, p3, p4, hs1, hs2⟩ := H1.out.at_ hlt
        have HB := Lib.hid HA.out.under
        have q0 := (HB.out.cell (p := ⟨bo, oo + i * 5, none⟩) hb0).trans p0
        have q1' := (HB.out.cell (p := ⟨bo, oo + i * 5 + 1, none⟩) hb0).trans p1
        have q2' := (HB.out.cell (p := ⟨bo, oo + i * 5 + 2, none⟩) hb0).trans p2
        have q3 := (HB.out.cell (p := ⟨bo, oo + i * 5 + 3, none⟩) hb0).trans p3
        have q4 := (HB.out.cell (p := ⟨bo, oo + i * 5 + 4, none⟩) hb0).trans p4
        have hlt1 : bo < wr.heap.size := Nat.lt_of_lt_of_le hb0 HB.out.size
        have HS1 := Lib.hid hs1
        have hs2c := hs2.cap
        clear p0 p1 p2 p3 p4 hs1 hs2
        generalize (o8At os i).kind = kd at *
        generalize (o8At os i).at_ = at_ at *
        generalize (o8At os i).n = m at *
        generalize (o8At os i).b = lb at *
        generalize (o8At os i).p = lp at *
        obtain ⟨nb, hnb⟩ : ∃ nb, lb.length = nb := ⟨_, rfl⟩
        obtain ⟨np, hnp⟩ : ∃ np, lp.length = np := ⟨_, rfl⟩
        rw [hnb] at q3 HS1
        rw [hnp] at q4 hs2c
        have HT : Hid (BS w w.heap.size B1 (min nb 150) e1 (lb.take 150)) := Lib.hid (cut_bs HS1.out)
        have HCC := Lib.hid (fun W => cut8_any kd at_ m B1 B2 nb e1 np e2 HS1.out.cap.1 hs2c.1 W)
        clear HS1
        go_wp2_with fail
        refine (HCC.out _).mono ?_
        rintro e wA ⟨rfl, hb⟩
        have HBA : Hid (Below wr.heap.size wr wA) := Lib.hid (((Below.refl _ _).alloc (Nat.le_refl _) _).trans (hb.mono (by simp)))
        have hX : wA.heap[wr.heap.size]? = some (.cells #[.int .i64 kd, .int .i64 at_, .int .i64 m, .slice B1 nb e1, .slice B2 np e2] 30 (0, 0)) := (hb.block _ (by simp)).trans (heap_alloc_new _ _)
        clear hb
        have hI9 : (Try.prog.info? 30).map (·.size) = some (#[.int .i64 kd, .int .i64 at_, .int .i64 m, .slice B1 (min nb 150) e1, .slice B2 (min np 12) e2] : Array Value).size := info_op8
        have hS9 : (#[.int .i64 kd, .int .i64 at_, .int .i64 m, .slice B1 nb e1, .slice B2 np e2] : Array Value).size = (#[.int .i64 kd, .int .i64 at_, .int .i64 m, .slice B1 (min nb 150) e1, .slice B2 (min np 12) e2] : Array Value).size := rfl
        have hO9 : (#[.int .i64 kd, .int .i64 at_, .int .i64 m, .slice B1 (min nb 150) e1, .slice B2 (min np 12) e2] : Array Value).all (·.oneCell') = true := by simp [Value.oneCell']
        generalize min nb 150 = nc at *
        generalize min np 12 = pc at *
        obtain ⟨p, hp, hand⟩ := and127 at_
        obtain ⟨rr, hpr⟩ : ∃ rr, p + rr = 128 := ⟨128 - p, by omega⟩
        have hw9 : IntKind.i64.wrap (128 - (p : Int)) = (rr : Int) := by rw [show (128 : Int) - (p : Int) = (rr : Int) by omega]; exact IntWalk.i64_in _ ⟨by omega, by omega⟩
        have hw1 : IntKind.i64.wrap ((i : Int) + 1) = (i : Int) + 1 := IntWalk.i64_in _ ⟨by omega, by omega⟩
        have hnc : nc ≤ e1 := HT.out.cap.1
        obtain ⟨lx, hlx0⟩ : ∃ lx, lx = lb.take 150 := ⟨_, rfl⟩
        rw [← hlx0] at HT
        have hlxl : lx.length = nc := HT.out.len
        clear hlx0 hnb
        by_cases hcu : nc ≤ rr
        · have hcu2 : ¬ (rr : Int) < (nc : Int) := by omega
          by_cases hkd : 3 ≤ kd
          · have hkd2 : (3 : Int) ≤ kd := by omega
            go_wp2_with (refine wpList_store_row rfl 30 (.tmp 11) (.tmp 57) rfl wr.heap.size #[.int .i64 kd, .int .i64 at_, .int .i64 m, .slice B1 nc e1, .slice B2 pc e2] rfl rfl 30 _ hX hI9 hS9 hO9 ?_; obtain ⟨wB, hwB⟩ : ∃ wB, wB = wA.setRow wr.heap.size #[.int .i64 kd, .int .i64 at_, .int .i64 m, .slice B1 nc e1, .slice B2 pc e2] := ⟨_, rfl⟩; rw [← hwB]; have hY : wB.heap[wr.heap.size]? = some (.cells #[.int .i64 kd, .int .i64 at_, .int .i64 m, .slice B1 nc e1, .slice B2 pc e2] 30 (0, 0)) := (by rw [hwB]; exact setRow_heap _ _ _ _ _ _ hX); have HWB : Hid (Below wr.heap.size wr wB) := Lib.hid (by rw [hwB]; exact below_setRow HBA.out (Nat.le_refl _) _); clear hwB hX hI9 hS9 hO9; have y0 : wB.cell? ⟨wr.heap.size, 0, none⟩ = some (.int .i64 kd) := blk_cell hY 0; have y1 : wB.cell? ⟨wr.heap.size, 1, none⟩ = some (.int .i64 at_) := blk_cell hY 1; have y3 : wB.cell? ⟨wr.heap.size, 3, none⟩ = some (.slice B1 nc e1) := blk_cell hY 3; have g1 := blk_free hY 1; have g3 := blk_free hY 3; have hVH1 := blk_set hY 1 (.int .i64 (p : Int)); have hVH2 := blk_set hVH1 3 (.slice B1 rr e1); have hVB1 := HWB.out.setCell (p := ⟨wr.heap.size, 1, none⟩) (Nat.le_refl _) (.int .i64 (p : Int)); have hVB2 := hVB1.setCell (p := ⟨wr.heap.size, 3, none⟩) (Nat.le_refl _) (.slice B1 rr e1); clear hY)
            go_wp2_with fail
            generalize hV : wB.setCell ⟨wr.heap.size, 1, none⟩ (.int .i64 (p : Int)) = V
            have hVH := hVH1
            have hVB := hVB1
            rw [hV] at hVH hVB
            clear hVH1 hVB1 hVH2 hVB2 hV
            refine ((HA.out.next hVB).flushAt (by omega) p 1 (by omega) (by omega)).mono ?_
            rintro e wS ⟨rfl, ha⟩
            have HG : Hid (TnR w g b n1 q1 q2 o1 (lastsQ ws3) (.int .i64 ((i : Int) + 1)) wS) := Lib.hid ⟨i + 1, k + 1, _, now, r, by simp, by omega, by omega, by omega, ha, (lastsL_fl _ _ _).trans HL.out, (nowsL_fl _ _ _).trans HNW.out⟩
            clear hVH hVB ha
            go_wp2_with fail
            go_roundw
            case rel => exact HG.out
            case measure => simp [intOf]; omega
          · have hkd2 : ¬ (3 : Int) ≤ kd := by omega
            go_wp2_with (refine wpList_store_row rfl 30 (.tmp 11) (.tmp 57) rfl wr.heap.size #[.int .i64 kd, .int .i64 at_, .int .i64 m, .slice B1 nc e1, .slice B2 pc e2] rfl rfl 30 _ hX hI9 hS9 hO9 ?_; obtain ⟨wB, hwB⟩ : ∃ wB, wB = wA.setRow wr.heap.size #[.int .i64 kd, .int .i64 at_, .int .i64 m, .slice B1 nc e1, .slice B2 pc e2] := ⟨_, rfl⟩; rw [← hwB]; have hY : wB.heap[wr.heap.size]? = some (.cells #[.int .i64 kd, .int .i64 at_, .int .i64 m, .slice B1 nc e1, .slice B2 pc e2] 30 (0, 0)) := (by rw [hwB]; exact setRow_heap _ _ _ _ _ _ hX); have HWB : Hid (Below wr.heap.size wr wB) := Lib.hid (by rw [hwB]; exact below_setRow HBA.out (Nat.le_refl _) _); clear hwB hX hI9 hS9 hO9; have y0 : wB.cell? ⟨wr.heap.size, 0, none⟩ = some (.int .i64 kd) := blk_cell hY 0; have y1 : wB.cell? ⟨wr.heap.size, 1, none⟩ = some (.int .i64 at_) := blk_cell hY 1; have y3 : wB.cell? ⟨wr.heap.size, 3, none⟩ = some (.slice B1 nc e1) := blk_cell hY 3; have g1 := blk_free hY 1; have g3 := blk_free hY 3; have hVH1 := blk_set hY 1 (.int .i64 (p : Int)); have hVH2 := blk_set hVH1 3 (.slice B1 rr e1); have hVB1 := HWB.out.setCell (p := ⟨wr.heap.size, 1, none⟩) (Nat.le_refl _) (.int .i64 (p : Int)); have hVB2 := hVB1.setCell (p := ⟨wr.heap.size, 3, none⟩) (Nat.le_refl _) (.slice B1 rr e1); clear hY)
            go_wp2_with fail
            generalize hV : wB.setCell ⟨wr.heap.size, 1, none⟩ (.int .i64 (p : Int)) = V
            have hVH := hVH1
            have hVB := hVB1
            rw [hV] at hVH hVB
            clear hVH1 hVB1 hVH2 hVB2 hV
            have hlx : (lx.take nc).length = nc := by rw [List.length_take]; omega
            have HM := Lib.hid (HA.out.mark hVB (Nat.le_refl _) hVH)
            have HTX : Hid (BS w w.heap.size B1 nc e1 (lx.take nc)) := Lib.hid (HT.out.take (by omega))
            refine (HM.out.put (by omega) p nc e1 B1 (lx.take nc) (by omega) (HTX.out.below HM.out.under)).mono ?_
            rintro e wS ⟨rfl, ha⟩
            have HS := Lib.hid ha
            clear hVH hVB ha HM
            have hX := HS.out.has (List.mem_cons_self ..)
            have y1 : wS.cell? ⟨wr.heap.size, 1, none⟩ = some (.int .i64 (p : Int)) := blk_cell hX 1
            have y3 : wS.cell? ⟨wr.heap.size, 3, none⟩ = some (.slice B1 nc e1) := blk_cell hX 3
            have hQ := HS.out.has (List.mem_cons_of_mem _ (List.mem_cons_self ..))
            have HQ : Hid (wS.heap[q2]? = some (.cells (bvals now ++ r).toArray 5 (0, 0))) := Lib.hid hQ
            have hcut : ∀ W, (Instr.slice 28 (.slice (some ⟨q2, 0, none⟩) 128 d2) (some (.int .i64 (p : Int))) none none).run Try.prog W = .ok (.slice (some ⟨q2, p, none⟩) rr (d2 - p)) W := fun W => run_from8 q2 d2 p rr hpr (by omega) HD2.out.1 W
            have HOK := Lib.hid HA.out.words
            have HNL : Hid (now.length = 128) := Lib.hid (by rw [← HNW.out, nowsL_len HOK.out.1, HOK.out.2])
            have HLX : Hid ((lx.take nc).length = nc) := Lib.hid hlx
            generalize lx.take nc = ly at *
            have HCS : Hid ((bvals ly).length = nc) := Lib.hid (by rw [bvals_len]; exact HLX.out)
            clear hX hQ hlx
            go_upto_region 24 with (fail)
            refine wp_region_F (S := fun w' => w' = wS.drew) [6] (by kernel_rfl) (rfl) (fun hHeld => ?_)
            refine wpAnyG_take (i := 0) (oi := _) (v := ?_) rfl (by kernel_rfl) (by kernel_rfl) (by kernel_rfl) (by kernel_rfl) (by kernel_rfl) (fun _ _ _ h => h) (Or.inl ⟨by rfl, ?_⟩) (by assumption) ?_
            rotate_left 1
            · intro w hSw
              (try dsimp only at hSw)
              (first | (go_simp; done) | (go_simp; with_reducible rfl))
            (try simp only [Act.put, List.getElem_toArray, List.getElem_cons_succ, List.getElem_cons_zero, List.setIfInBounds_toArray, List.set_cons_zero, List.set_cons_succ])
            refine wpAnyG_take (i := 1) (oi := _) (v := ?_) rfl (by kernel_rfl) (by kernel_rfl) (by kernel_rfl) (by kernel_rfl) (by kernel_rfl) (fun _ _ _ h => h) (Or.inl ⟨by rfl, ?_⟩) (by assumption) ?_
            rotate_left 1
            · intro w hSw
              (try dsimp only at hSw)
              (first | (go_simp; done) | (go_simp; with_reducible rfl))
            (try simp only [Act.put, List.getElem_toArray, List.getElem_cons_succ, List.getElem_cons_zero, List.setIfInBounds_toArray, List.set_cons_zero, List.set_cons_succ])
            refine wpAnyG_take (i := 2) (oi := _) (v := ?_) rfl (by kernel_rfl) (by kernel_rfl) (by kernel_rfl) (by kernel_rfl) (by kernel_rfl) (fun _ _ _ h => h) (Or.inl ⟨by rfl, ?_⟩) (by assumption) ?_
            rotate_left 1
            · intro w hSw
              (try dsimp only at hSw)
              (first | (go_simp; done) | (go_simp; with_reducible rfl))
            (try simp only [Act.put, List.getElem_toArray, List.getElem_cons_succ, List.getElem_cons_zero, List.setIfInBounds_toArray, List.set_cons_zero, List.set_cons_succ])
            refine wpAnyG_take (i := 3) (oi := _) (v := ?_) rfl (by kernel_rfl) (by kernel_rfl) (by kernel_rfl) (by kernel_rfl) (by kernel_rfl) (fun _ _ _ h => h) (Or.inl ⟨by rfl, ?_⟩) (by assumption) ?_
            rotate_left 1
            · intro w hSw
              (try dsimp only at hSw)
              (first | (go_simp; done) | (go_simp; with_reducible rfl))
            (try simp only [Act.put, List.getElem_toArray, List.getElem_cons_succ, List.getElem_cons_zero, List.setIfInBounds_toArray, List.set_cons_zero, List.set_cons_succ])
            refine wpAnyG_take (i := 4) (oi := _) (v := ?_) rfl (by kernel_rfl) (by kernel_rfl) (by kernel_rfl) (by kernel_rfl) (by kernel_rfl) (fun _ _ _ h => h) (Or.inl ⟨by rfl, ?_⟩) (by assumption) ?_
            rotate_left 1
            · intro w hSw
              (try dsimp only at hSw)
              (first | (go_simp; done) | (go_simp; with_reducible rfl))
            (try simp only [Act.put, List.getElem_toArray, List.getElem_cons_succ, List.getElem_cons_zero, List.setIfInBounds_toArray, List.set_cons_zero, List.set_cons_succ])
            refine wpAnyG_take (i := 5) (oi := _) (v := ?_) rfl (by kernel_rfl) (by kernel_rfl) (by kernel_rfl) (by kernel_rfl) (by kernel_rfl) (fun _ _ _ h => h) (Or.inl ⟨by rfl, ?_⟩) (by assumption) ?_
            rotate_left 1
            · intro w hSw
              (try dsimp only at hSw)
              (first | (go_simp; done) | (go_simp; with_reducible rfl))
            (try simp only [Act.put, List.getElem_toArray, List.getElem_cons_succ, List.getElem_cons_zero, List.setIfInBounds_toArray, List.set_cons_zero, List.set_cons_succ])
            refine wpAnyF_ready (rs := [6]) (by kernel_rfl) (by simp) ?_
            refine AllReadyF.last (o := _) rfl (by rfl) (fun K hK => ?_) AllReadyF.nil
            refine step_copy_only rfl (.tmp 93) (.tmp 95) 28 28 rfl 5 Try.underlying28 (by kernel_rfl) (some ⟨q2, p, none⟩) B1 rr (d2 - p) nc e1 rfl rfl q2 p (bvals now ++ r) 5 HQ.out (bvals ly) (HCS.out.trans (Nat.min_eq_left (by omega)).symm) (fun h0 => ⟨rfl, bs_all (HTX.out.below (HS.out.under.drew)) (by rw [HCS.out] at h0; exact h0)⟩) (by rw [HCS.out, List.length_append, bvals_len, HNL.out]; omega) (bvals_one _) ?_
            intro w3 hq3 hg3
            rw [row_spl now r p ly (by rw [HLX.out, HNL.out]; omega)] at hq3
            have HT3 : Hid (Turns (fun j => j = q2) wS w3) := Lib.hid ((Turns.of_below (S := fun j => j = q2) (Below.refl _ _).drew).trans (Turns.of_grown (S := fun j => j = q2) hg3 (fun j e => by injection e with e; exact e.symm)) (fun _ _ h => h))
            have HQ3 := Lib.hid hq3.out
            clear hq3 hg3
            rw [show goInt ((bvals ly).length) = Value.int .i64 (nc : Int) from by rw [HCS.out]; rfl]
            refine hK.out _ _ ?_
            clear hK K
            (try simp only [Act.put, List.getElem_toArray, List.getElem_cons_succ, List.getElem_cons_zero, List.setIfInBounds_toArray, List.set_cons_zero, List.set_cons_succ])
            refine wpAnyF_done (by kernel_rfl) ?_ _
            have HG : Hid (TnR w g b n1 q1 q2 o1 (lastsQ ws3) (.int .i64 ((i : Int) + 1)) w3) := Lib.hid (by
              have h1 := HS.out.swap
              have h2 := h1.turn (o := rowO (splB now p ly) r) (by
                intro q o hx
                simp only [List.mem_cons, List.not_mem_nil, or_false, Prod.mk.injEq] at hx
                rcases hx with ⟨rfl, _⟩ | ⟨rfl, _⟩
                · have := blk_lt' (HA.out.has (List.mem_cons_self ..)); omega
                · exact HQ2.out.2) HQ2.out.1 HT3.out HQ3.out
              have h3 := h2.drop2
              refine ⟨i + 1, k + 1, _, _, r, by simp, by omega, by omega, by omega, h3, (lastsL_put _ _ _).trans HL.out, ?_⟩
              rw [nowsL_put HOK.out.1 p ly (by rw [HLX.out, HOK.out.2]; omega), HNW.out])
            go_wp2_with fail
            go_roundw
            case rel => exact HG.out
            case measure => simp [intOf]; omega
        · have hcu2 : (rr : Int) < (nc : Int) := by omega
          have hcu3 : ∀ W, (Instr.slice 28 (.slice B1 nc e1) none (some (.int .i64 (rr : Int))) none).run Try.prog W = .ok (.slice B1 rr e1) W := fun W => run_take8 B1 nc e1 rr (by omega) W
          by_cases hkd : 3 ≤ kd
          · have hkd2 : (3 : Int) ≤ kd := by omega
            go_wp2_with (refine wpList_store_row rfl 30 (.tmp 11) (.tmp 57) rfl wr.heap.size #[.int .i64 kd, .int .i64 at_, .int .i64 m, .slice B1 nc e1, .slice B2 pc e2] rfl rfl 30 _ hX hI9 hS9 hO9 ?_; obtain ⟨wB, hwB⟩ : ∃ wB, wB = wA.setRow wr.heap.size #[.int .i64 kd, .int .i64 at_, .int .i64 m, .slice B1 nc e1, .slice B2 pc e2] := ⟨_, rfl⟩; rw [← hwB]; have hY : wB.heap[wr.heap.size]? = some (.cells #[.int .i64 kd, .int .i64 at_, .int .i64 m, .slice B1 nc e1, .slice B2 pc e2] 30 (0, 0)) := (by rw [hwB]; exact setRow_heap _ _ _ _ _ _ hX); have HWB : Hid (Below wr.heap.size wr wB) := Lib.hid (by rw [hwB]; exact below_setRow HBA.out (Nat.le_refl _) _); clear hwB hX hI9 hS9 hO9; have y0 : wB.cell? ⟨wr.heap.size, 0, none⟩ = some (.int .i64 kd) := blk_cell hY 0; have y1 : wB.cell? ⟨wr.heap.size, 1, none⟩ = some (.int .i64 at_) := blk_cell hY 1; have y3 : wB.cell? ⟨wr.heap.size, 3, none⟩ = some (.slice B1 nc e1) := blk_cell hY 3; have g1 := blk_free hY 1; have g3 := blk_free hY 3; have hVH1 := blk_set hY 1 (.int .i64 (p : Int)); have hVH2 := blk_set hVH1 3 (.slice B1 rr e1); have hVB1 := HWB.out.setCell (p := ⟨wr.heap.size, 1, none⟩) (Nat.le_refl _) (.int .i64 (p : Int)); have hVB2 := hVB1.setCell (p := ⟨wr.heap.size, 3, none⟩) (Nat.le_refl _) (.slice B1 rr e1); clear hY)
            go_wp2_with fail
            generalize hV : (wB.setCell ⟨wr.heap.size, 1, none⟩ (.int .i64 (p : Int))).setCell ⟨wr.heap.size, 3, none⟩ (.slice B1 rr e1) = V
            have hVH := hVH2
            have hVB := hVB2
            rw [hV] at hVH hVB
            clear hVH1 hVB1 hVH2 hVB2 hV
            refine ((HA.out.next hVB).flushAt (by omega) p 1 (by omega) (by omega)).mono ?_
            rintro e wS ⟨rfl, ha⟩
            have HG : Hid (TnR w g b n1 q1 q2 o1 (lastsQ ws3) (.int .i64 ((i : Int) + 1)) wS) := Lib.hid ⟨i + 1, k + 1, _, now, r, by simp, by omega, by omega, by omega, ha, (lastsL_fl _ _ _).trans HL.out, (nowsL_fl _ _ _).trans HNW.out⟩
            clear hVH hVB ha
            go_wp2_with fail
            go_roundw
            case rel => exact HG.out
            case measure => simp [intOf]; omega
          · have hkd2 : ¬ (3 : Int) ≤ kd := by omega
            go_wp2_with (refine wpList_store_row rfl 30 (.tmp 11) (.tmp 57) rfl wr.heap.size #[.int .i64 kd, .int .i64 at_, .int .i64 m, .slice B1 nc e1, .slice B2 pc e2] rfl rfl 30 _ hX hI9 hS9 hO9 ?_; obtain ⟨wB, hwB⟩ : ∃ wB, wB = wA.setRow wr.heap.size #[.int .i64 kd, .int .i64 at_, .int .i64 m, .slice B1 nc e1, .slice B2 pc e2] := ⟨_, rfl⟩; rw [← hwB]; have hY : wB.heap[wr.heap.size]? = some (.cells #[.int .i64 kd, .int .i64 at_, .int .i64 m, .slice B1 nc e1, .slice B2 pc e2] 30 (0, 0)) := (by rw [hwB]; exact setRow_heap _ _ _ _ _ _ hX); have HWB : Hid (Below wr.heap.size wr wB) := Lib.hid (by rw [hwB]; exact below_setRow HBA.out (Nat.le_refl _) _); clear hwB hX hI9 hS9 hO9; have y0 : wB.cell? ⟨wr.heap.size, 0, none⟩ = some (.int .i64 kd) := blk_cell hY 0; have y1 : wB.cell? ⟨wr.heap.size, 1, none⟩ = some (.int .i64 at_) := blk_cell hY 1; have y3 : wB.cell? ⟨wr.heap.size, 3, none⟩ = some (.slice B1 nc e1) := blk_cell hY 3; have g1 := blk_free hY 1; have g3 := blk_free hY 3; have hVH1 := blk_set hY 1 (.int .i64 (p : Int)); have hVH2 := blk_set hVH1 3 (.slice B1 rr e1); have hVB1 := HWB.out.setCell (p := ⟨wr.heap.size, 1, none⟩) (Nat.le_refl _) (.int .i64 (p : Int)); have hVB2 := hVB1.setCell (p := ⟨wr.heap.size, 3, none⟩) (Nat.le_refl _) (.slice B1 rr e1); clear hY)
            go_wp2_with fail
            generalize hV : (wB.setCell ⟨wr.heap.size, 1, none⟩ (.int .i64 (p : Int))).setCell ⟨wr.heap.size, 3, none⟩ (.slice B1 rr e1) = V
            have hVH := hVH2
            have hVB := hVB2
            rw [hV] at hVH hVB
            clear hVH1 hVB1 hVH2 hVB2 hV
            have hlx : (lx.take rr).length = rr := by rw [List.length_take]; omega
            have HM := Lib.hid (HA.out.mark hVB (Nat.le_refl _) hVH)
            have HTX : Hid (BS w w.heap.size B1 rr e1 (lx.take rr)) := Lib.hid (HT.out.take (by omega))
            refine (HM.out.put (by omega) p rr e1 B1 (lx.take rr) (by omega) (HTX.out.below HM.out.under)).mono ?_
            rintro e wS ⟨rfl, ha⟩
            have HS := Lib.hid ha
            clear hVH hVB ha HM
            have hX := HS.out.has (List.mem_cons_self ..)
            have y1 : wS.cell? ⟨wr.heap.size, 1, none⟩ = some (.int .i64 (p : Int)) := blk_cell hX 1
            have y3 : wS.cell? ⟨wr.heap.size, 3, none⟩ = some (.slice B1 rr e1) := blk_cell hX 3
            have hQ := HS.out.has (List.mem_cons_of_mem _ (List.mem_cons_self ..))
            have HQ : Hid (wS.heap[q2]? = some (.cells (bvals now ++ r).toArray 5 (0, 0))) := Lib.hid hQ
            have hcut : ∀ W, (Instr.slice 28 (.slice (some ⟨q2, 0, none⟩) 128 d2) (some (.int .i64 (p : Int))) none none).run Try.prog W = .ok (.slice (some ⟨q2, p, none⟩) rr (d2 - p)) W := fun W => run_from8 q2 d2 p rr hpr (by omega) HD2.out.1 W
            have HOK := Lib.hid HA.out.words
            have HNL : Hid (now.length = 128) := Lib.hid (by rw [← HNW.out, nowsL_len HOK.out.1, HOK.out.2])
            have HLX : Hid ((lx.take rr).length = rr) := Lib.hid hlx
            generalize lx.take rr = ly at *
            have HCS : Hid ((bvals ly).length = rr) := Lib.hid (by rw [bvals_len]; exact HLX.out)
            clear hX hQ hlx
            go_upto_region 24 with (fail)
            refine wp_region_F (S := fun w' => w' = wS.drew) [6] (by kernel_rfl) (rfl) (fun hHeld => ?_)
            refine wpAnyG_take (i := 0) (oi := _) (v := ?_) rfl (by kernel_rfl) (by kernel_rfl) (by kernel_rfl) (by kernel_rfl) (by kernel_rfl) (fun _ _ _ h => h) (Or.inl ⟨by rfl, ?_⟩) (by assumption) ?_
            rotate_left 1
            · intro w hSw
              (try dsimp only at hSw)
              (first | (go_simp; done) | (go_simp; with_reducible rfl))
            (try simp only [Act.put, List.getElem_toArray, List.getElem_cons_succ, List.getElem_cons_zero, List.setIfInBounds_toArray, List.set_cons_zero, List.set_cons_succ])
            refine wpAnyG_take (i := 1) (oi := _) (v := ?_) rfl (by kernel_rfl) (by kernel_rfl) (by kernel_rfl) (by kernel_rfl) (by kernel_rfl) (fun _ _ _ h => h) (Or.inl ⟨by rfl, ?_⟩) (by assumption) ?_
            rotate_left 1
            · intro w hSw
              (try dsimp only at hSw)
              (first | (go_simp; done) | (go_simp; with_reducible rfl))
            (try simp only [Act.put, List.getElem_toArray, List.getElem_cons_succ, List.getElem_cons_zero, List.setIfInBounds_toArray, List.set_cons_zero, List.set_cons_succ])
            refine wpAnyG_take (i := 2) (oi := _) (v := ?_) rfl (by kernel_rfl) (by kernel_rfl) (by kernel_rfl) (by kernel_rfl) (by kernel_rfl) (fun _ _ _ h => h) (Or.inl ⟨by rfl, ?_⟩) (by assumption) ?_
            rotate_left 1
            · intro w hSw
              (try dsimp only at hSw)
              (first | (go_simp; done) | (go_simp; with_reducible rfl))
            (try simp only [Act.put, List.getElem_toArray, List.getElem_cons_succ, List.getElem_cons_zero, List.setIfInBounds_toArray, List.set_cons_zero, List.set_cons_succ])
            refine wpAnyG_take (i := 3) (oi := _) (v := ?_) rfl (by kernel_rfl) (by kernel_rfl) (by kernel_rfl) (by kernel_rfl) (by kernel_rfl) (fun _ _ _ h => h) (Or.inl ⟨by rfl, ?_⟩) (by assumption) ?_
            rotate_left 1
            · intro w hSw
              (try dsimp only at hSw)
              (first | (go_simp; done) | (go_simp; with_reducible rfl))
            (try simp only [Act.put, List.getElem_toArray, List.getElem_cons_succ, List.getElem_cons_zero, List.setIfInBounds_toArray, List.set_cons_zero, List.set_cons_succ])
            refine wpAnyG_take (i := 4) (oi := _) (v := ?_) rfl (by kernel_rfl) (by kernel_rfl) (by kernel_rfl) (by kernel_rfl) (by kernel_rfl) (fun _ _ _ h => h) (Or.inl ⟨by rfl, ?_⟩) (by assumption) ?_
            rotate_left 1
            · intro w hSw
              (try dsimp only at hSw)
              (first | (go_simp; done) | (go_simp; with_reducible rfl))
            (try simp only [Act.put, List.getElem_toArray, List.getElem_cons_succ, List.getElem_cons_zero, List.setIfInBounds_toArray, List.set_cons_zero, List.set_cons_succ])
            refine wpAnyG_take (i := 5) (oi := _) (v := ?_) rfl (by kernel_rfl) (by kernel_rfl) (by kernel_rfl) (by kernel_rfl) (by kernel_rfl) (fun _ _ _ h => h) (Or.inl ⟨by rfl, ?_⟩) (by assumption) ?_
            rotate_left 1
            · intro w hSw
              (try dsimp only at hSw)
              (first | (go_simp; done) | (go_simp; with_reducible rfl))
            (try simp only [Act.put, List.getElem_toArray, List.getElem_cons_succ, List.getElem_cons_zero, List.setIfInBounds_toArray, List.set_cons_zero, List.set_cons_succ])
            refine wpAnyF_ready (rs := [6]) (by kernel_rfl) (by simp) ?_
            refine AllReadyF.last (o := _) rfl (by rfl) (fun K hK => ?_) AllReadyF.nil
            refine step_copy_only rfl (.tmp 93) (.tmp 95) 28 28 rfl 5 Try.underlying28 (by kernel_rfl) (some ⟨q2, p, none⟩) B1 rr (d2 - p) rr e1 rfl rfl q2 p (bvals now ++ r) 5 HQ.out (bvals ly) (HCS.out.trans (Nat.min_eq_left (by omega)).symm) (fun h0 => ⟨rfl, bs_all (HTX.out.below (HS.out.under.drew)) (by rw [HCS.out] at h0; exact h0)⟩) (by rw [HCS.out, List.length_append, bvals_len, HNL.out]; omega) (bvals_one _) ?_
            intro w3 hq3 hg3
            rw [row_spl now r p ly (by rw [HLX.out, HNL.out]; omega)] at hq3
            have HT3 : Hid (Turns (fun j => j = q2) wS w3) := Lib.hid ((Turns.of_below (S := fun j => j = q2) (Below.refl _ _).drew).trans (Turns.of_grown (S := fun j => j = q2) hg3 (fun j e => by injection e with e; exact e.symm)) (fun _ _ h => h))
            have HQ3 := Lib.hid hq3.out
            clear hq3 hg3
            rw [show goInt ((bvals ly).length) = Value.int .i64 (rr : Int) from by rw [HCS.out]; rfl]
            refine hK.out _ _ ?_
            clear hK K
            (try simp only [Act.put, List.getElem_toArray, List.getElem_cons_succ, List.getElem_cons_zero, List.setIfInBounds_toArray, List.set_cons_zero, List.set_cons_succ])
            refine wpAnyF_done (by kernel_rfl) ?_ _
            have HG : Hid (TnR w g b n1 q1 q2 o1 (lastsQ ws3) (.int .i64 ((i : Int) + 1)) w3) := Lib.hid (by
              have h1 := HS.out.swap
              have h2 := h1.turn (o := rowO (splB now p ly) r) (by
                intro q o hx
                simp only [List.mem_cons, List.not_mem_nil, or_false, Prod.mk.injEq] at hx
                rcases hx with ⟨rfl, _⟩ | ⟨rfl, _⟩
                · have := blk_lt' (HA.out.has (List.mem_cons_self ..)); omega
                · exact HQ2.out.2) HQ2.out.1 HT3.out HQ3.out
              have h3 := h2.drop2
              refine ⟨i + 1, k + 1, _, _, r, by simp, by omega, by omega, by omega, h3, (lastsL_put _ _ _).trans HL.out, ?_⟩
              rw [nowsL_put HOK.out.1 p ly (by rw [HLX.out, HOK.out.2]; omega), HNW.out])
            go_wp2_with fail
            go_roundw
            case rel => exact HG.out
            case measure => simp [intOf]; omega
      · have hbI : (10 : Int) ≤ (i : Int) := by omega
        obtain ⟨bo, oo, B1, e1, B2, e2, rfl, hb0, p0, p1, p2, p3, p4, hs1, hs2⟩ := H1.out.at_ hlt
        have HB := Lib.hid HA.out.under
        have q0 := (HB.out.cell (p := ⟨bo, oo + i * 5, none⟩) hb0).trans p0
        have q1' := (HB.out.cell (p := ⟨bo, oo + i * 5 + 1, none⟩) hb0).trans p1
        have q2' := (HB.out.cell (p := ⟨bo, oo + i * 5 + 2, none⟩) hb0).trans p2
        have q3 := (HB.out.cell (p := ⟨bo, oo + i * 5 + 3, none⟩) hb0).trans p3
        have q4 := (HB.out.cell (p := ⟨bo, oo + i * 5 + 4, none⟩) hb0).trans p4
        have hlt1 : bo < wr.heap.size := Nat.lt_of_lt_of_le hb0 HB.out.size
        clear p0 p1 p2 p3 p4 hs1 hs2
        go_wp2_with fail
        refine ((HA.out.next ((Below.refl _ _).alloc (Nat.le_refl _) _)).crashIn l2 n2 c2 A2 (H2.out.below (HA.out.next ((Below.refl _ _).alloc (Nat.le_refl _) _)).under)).mono ?_
        rintro e w10 ⟨rfl, ha⟩
        have HC2 := Lib.hid ha
        have hTW : ∀ i, i < 16 → _ := fun i hi => torn_word l2 HA.out.words.1 ha.words.1 (i := i) (by rw [HA.out.words.2]; exact hi)
        rw [HL.out, HNW.out] at hTW
        have HTW := Lib.hid hTW
        generalize hwc : crashW l2 2 ws = wc at *
        clear ha hTW
        go_wp2_with fail
        refine HC2.out.shot.mono ?_
        rintro e w11 ⟨q3, d3, o3, rfl, hp3, hl3, hq3, _, ha⟩
        have HC3 := Lib.hid ha
        have hXB := hp3 _ (ha.has (List.mem_cons_self ..))
        rw [hl3] at hXB
        have hOB := HP1.out _ (ha.has (List.mem_cons_of_mem _ (List.mem_cons_of_mem _ (List.mem_cons_self ..))))
        rw [HL1.out] at hOB
        have hNL : now.length = 128 := by rw [← HNW.out, nowsL_len HA.out.words.1, HA.out.words.2]
        have hNB := row_pic (c := d2) (by rw [hNL]; exact HD2.out.1) HD2.out.2 (by rw [← HNW.out]; exact nows_b HA.out.words.1) (ha.has (List.mem_cons_of_mem _ (List.mem_cons_self ..)))
        rw [hNL] at hNB
        have HXB : Hid (BS w11 w11.heap.size (some ⟨q3, 0, none⟩) 128 d3 (lastsQ wc)) := Lib.hid hXB
        have HOB : Hid (BS w11 w11.heap.size (some ⟨q1, 0, none⟩) 128 d1 (lastsQ ws3)) := Lib.hid hOB
        have HNB : Hid (BS w11 w11.heap.size (some ⟨q2, 0, none⟩) 128 d2 now) := Lib.hid hNB
        have hU := ha.under
        clear ha hXB hOB hNB hp3 hl3 HC2 HC3 HA HL HNW hwc
        have HU := Lib.hid hU
        clear hU
        go_wp2_with fail
        go_loopw [13] (fun iv wr => TnL w w11 iv wr) (fun iv _ => (128 - intOf iv).toNat)
        case atStart => exact ⟨0, rfl, by omega, HU.out, Below.refl _ _⟩
        case round =>
          obtain ⟨j, rfl, hj, hbu, hbd⟩ := hrel
          obtain ⟨a, ha⟩ : ∃ a, a = 8 * j := ⟨_, rfl⟩
          rw [← ha]
          by_cases hj2 : j < 16
          · have hlt : (a : Int) < 128 := by omega
            obtain ⟨a2, ha2⟩ : ∃ a2, a2 = a + 8 := ⟨_, rfl⟩
            have hw8 : IntKind.i64.wrap ((a : Int) + 8) = (a2 : Int) := by rw [show (a : Int) + 8 = (a2 : Int) by omega]; exact IntWalk.i64_in _ ⟨by omega, by omega⟩
            obtain ⟨xs, hxs⟩ : ∃ xs, xs = str (((lastsQ wc).drop a).take 8) := ⟨_, rfl⟩
            obtain ⟨os', hos⟩ : ∃ os', os' = str (((lastsQ ws3).drop a).take 8) := ⟨_, rfl⟩
            obtain ⟨ns, hns⟩ : ∃ ns, ns = str ((now.drop a).take 8) := ⟨_, rfl⟩
            have hor : xs = os' ∨ xs = ns := by
              rw [hxs, hos, hns, ha]
              rcases HTW.out j hj2 with e | e
              · exact .inl (congrArg str e)
              · exact .inr (congrArg str e)
            have hpx : ∀ W, (Instr.slice 28 (.slice (some ⟨q3, 0, none⟩) 128 d3) (some (.int .i64 (a : Int))) (some (.int .i64 (a2 : Int))) none).run Try.prog W = .ok (.slice (some ⟨q3, a, none⟩) 8 (d3 - a)) W := fun W => run_part8 q3 d3 a a2 ha2 (by omega) HXB.out.cap.1 W
            have hpo : ∀ W, (Instr.slice 28 (.slice (some ⟨q1, 0, none⟩) 128 d1) (some (.int .i64 (a : Int))) (some (.int .i64 (a2 : Int))) none).run Try.prog W = .ok (.slice (some ⟨q1, a, none⟩) 8 (d1 - a)) W := fun W => run_part8 q1 d1 a a2 ha2 (by omega) HOB.out.cap.1 W
            have hpn : ∀ W, (Instr.slice 28 (.slice (some ⟨q2, 0, none⟩) 128 d2) (some (.int .i64 (a : Int))) (some (.int .i64 (a2 : Int))) none).run Try.prog W = .ok (.slice (some ⟨q2, a, none⟩) 8 (d2 - a)) W := fun W => run_part8 q2 d2 a a2 ha2 (by omega) HNB.out.cap.1 W
            have hvx : ∀ m, (convert 28 9 (.slice (some ⟨q3, a, none⟩) 8 (d3 - a))).run Try.prog (wr.drewN m) = .ok (.string xs) (wr.drewN m) := fun m => by rw [hxs]; exact conv_part8 (bs_on HXB.out (below_drewN hbd m)) (by omega)
            have hvo : ∀ m, (convert 28 9 (.slice (some ⟨q1, a, none⟩) 8 (d1 - a))).run Try.prog (wr.drewN m) = .ok (.string os') (wr.drewN m) := fun m => by rw [hos]; exact conv_part8 (bs_on HOB.out (below_drewN hbd m)) (by omega)
            have hvn : ∀ m, (convert 28 9 (.slice (some ⟨q2, a, none⟩) 8 (d2 - a))).run Try.prog (wr.drewN m) = .ok (.string ns) (wr.drewN m) := fun m => by rw [hns]; exact conv_part8 (bs_on HNB.out (below_drewN hbd m)) (by omega)
            have HR2 : Hid (∀ m, TnL w w11 (.int .i64 (a2 : Int)) (wr.drewN m)) := Lib.hid fun m => ⟨j + 1, by rw [ha2, ha]; rfl, by omega, below_drewN hbu m, below_drewN hbd m⟩
            have HAA := Lib.hid (And.intro ha ha2)
            clear hxs hos hns hbu hbd ha ha2
            have hor2 : (xs.toList == os'.toList) = true ∨ xs = ns := hor.imp (fun e => by rw [e]; exact beq_self_eq_true _) id
            clear hor
            by_cases hxb : (xs.toList == os'.toList) = true
            · clear hor2 hpn hvn
              go_upto_region 33 with (fail)
              go_quiet (fail)
              go_wp2_with fail
              go_roundw
              case rel => exact HR2.out _
              case measure => have := HAA.out.2; simp [intOf]; omega
            · have hxn : xs = ns := hor2.resolve_left hxb
              have hxb2 : (xs.toList == os'.toList) = false := Bool.eq_false_iff.mpr hxb
              subst hxn
              clear hor2 hxb
              go_upto_region 33 with (fail)
              go_quiet (fail)
              go_wp2_with fail
              go_roundw
              case rel => exact HR2.out _
              case measure => have := HAA.out.2; simp [intOf]; omega
          · have hlt : ¬ (a : Int) < 128 := by omega
            have HAW := Lib.hid (awake8_any wr)
            have HBU := Lib.hid hbu
            clear hbu hbd ha
            go_wp2_with fail
            refine HAW.out.mono ?_
            rintro e wz ⟨rfl, hz⟩
            have HZ := Lib.hid (HBU.out.trans (hz.mono HBU.out.size))
            clear hz
            go_wp2
            go_ret
            exact ⟨rfl, HZ.out⟩
    · have hlI : ¬ (i : Int) < (n1 : Int) := by omega
      go_wp2_with fail
      refine ((HA.out).crashIn l2 n2 c2 A2 (H2.out.below (HA.out).under)).mono ?_
      rintro e w10 ⟨rfl, ha⟩
      have HC2 := Lib.hid ha
      have hTW : ∀ i, i < 16 → _ := fun i hi => torn_word l2 HA.out.words.1 ha.words.1 (i := i) (by rw [HA.out.words.2]; exact hi)
      rw [HL.out, HNW.out] at hTW
      have HTW := Lib.hid hTW
      generalize hwc : crashW l2 2 ws = wc at *
      clear ha hTW
      go_wp2_with fail
      refine HC2.out.shot.mono ?_
      rintro e w11 ⟨q3, d3, o3, rfl, hp3, hl3, hq3, _, ha⟩
      have HC3 := Lib.hid ha
      have hXB := hp3 _ (ha.has (List.mem_cons_self ..))
      rw [hl3] at hXB
      have hOB := HP1.out _ (ha.has (List.mem_cons_of_mem _ (List.mem_cons_of_mem _ (List.mem_cons_self ..))))
      rw [HL1.out] at hOB
      have hNL : now.length = 128 := by rw [← HNW.out, nowsL_len HA.out.words.1, HA.out.words.2]
      have hNB := row_pic (c := d2) (by rw [hNL]; exact HD2.out.1) HD2.out.2 (by rw [← HNW.out]; exact nows_b HA.out.words.1) (ha.has (List.mem_cons_of_mem _ (List.mem_cons_self ..)))
      rw [hNL] at hNB
      have HXB : Hid (BS w11 w11.heap.size (some ⟨q3, 0, none⟩) 128 d3 (lastsQ wc)) := Lib.hid hXB
      have HOB : Hid (BS w11 w11.heap.size (some ⟨q1, 0, none⟩) 128 d1 (lastsQ ws3)) := Lib.hid hOB
      have HNB : Hid (BS w11 w11.heap.size (some ⟨q2, 0, none⟩) 128 d2 now) := Lib.hid hNB
      have hU := ha.under
      clear ha hXB hOB hNB hp3 hl3 HC2 HC3 HA HL HNW hwc
      have HU := Lib.hid hU
      clear hU
      go_wp2_with fail
      go_loopw [13] (fun iv wr => TnL w w11 iv wr) (fun iv _ => (128 - intOf iv).toNat)
      case atStart => exact ⟨0, rfl, by omega, HU.out, Below.refl _ _⟩
      case round =>
        obtain ⟨j, rfl, hj, hbu, hbd⟩ := hrel
        obtain ⟨a, ha⟩ : ∃ a, a = 8 * j := ⟨_, rfl⟩
        rw [← ha]
        by_cases hj2 : j < 16
        · have hlt : (a : Int) < 128 := by omega
          obtain ⟨a2, ha2⟩ : ∃ a2, a2 = a + 8 := ⟨_, rfl⟩
          have hw8 : IntKind.i64.wrap ((a : Int) + 8) = (a2 : Int) := by rw [show (a : Int) + 8 = (a2 : Int) by omega]; exact IntWalk.i64_in _ ⟨by omega, by omega⟩
          obtain ⟨xs, hxs⟩ : ∃ xs, xs = str (((lastsQ wc).drop a).take 8) := ⟨_, rfl⟩
          obtain ⟨os', hos⟩ : ∃ os', os' = str (((lastsQ ws3).drop a).take 8) := ⟨_, rfl⟩
          obtain ⟨ns, hns⟩ : ∃ ns, ns = str ((now.drop a).take 8) := ⟨_, rfl⟩
          have hor : xs = os' ∨ xs = ns := by
            rw [hxs, hos, hns, ha]
            rcases HTW.out j hj2 with e | e
            · exact .inl (congrArg str e)
            · exact .inr (congrArg str e)
          have hpx : ∀ W, (Instr.slice 28 (.slice (some ⟨q3, 0, none⟩) 128 d3) (some (.int .i64 (a : Int))) (some (.int .i64 (a2 : Int))) none).run Try.prog W = .ok (.slice (some ⟨q3, a, none⟩) 8 (d3 - a)) W := fun W => run_part8 q3 d3 a a2 ha2 (by omega) HXB.out.cap.1 W
          have hpo : ∀ W, (Instr.slice 28 (.slice (some ⟨q1, 0, none⟩) 128 d1) (some (.int .i64 (a : Int))) (some (.int .i64 (a2 : Int))) none).run Try.prog W = .ok (.slice (some ⟨q1, a, none⟩) 8 (d1 - a)) W := fun W => run_part8 q1 d1 a a2 ha2 (by omega) HOB.out.cap.1 W
          have hpn : ∀ W, (Instr.slice 28 (.slice (some ⟨q2, 0, none⟩) 128 d2) (some (.int .i64 (a : Int))) (some (.int .i64 (a2 : Int))) none).run Try.prog W = .ok (.slice (some ⟨q2, a, none⟩) 8 (d2 - a)) W := fun W => run_part8 q2 d2 a a2 ha2 (by omega) HNB.out.cap.1 W
          have hvx : ∀ m, (convert 28 9 (.slice (some ⟨q3, a, none⟩) 8 (d3 - a))).run Try.prog (wr.drewN m) = .ok (.string xs) (wr.drewN m) := fun m => by rw [hxs]; exact conv_part8 (bs_on HXB.out (below_drewN hbd m)) (by omega)
          have hvo : ∀ m, (convert 28 9 (.slice (some ⟨q1, a, none⟩) 8 (d1 - a))).run Try.prog (wr.drewN m) = .ok (.string os') (wr.drewN m) := fun m => by rw [hos]; exact conv_part8 (bs_on HOB.out (below_drewN hbd m)) (by omega)
          have hvn : ∀ m, (convert 28 9 (.slice (some ⟨q2, a, none⟩) 8 (d2 - a))).run Try.prog (wr.drewN m) = .ok (.string ns) (wr.drewN m) := fun m => by rw [hns]; exact conv_part8 (bs_on HNB.out (below_drewN hbd m)) (by omega)
          have HR2 : Hid (∀ m, TnL w w11 (.int .i64 (a2 : Int)) (wr.drewN m)) := Lib.hid fun m => ⟨j + 1, by rw [ha2, ha]; rfl, by omega, below_drewN hbu m, below_drewN hbd m⟩
          have HAA := Lib.hid (And.intro ha ha2)
          clear hxs hos hns hbu hbd ha ha2
          have hor2 : (xs.toList == os'.toList) = true ∨ xs = ns := hor.imp (fun e => by rw [e]; exact beq_self_eq_true _) id
          clear hor
          by_cases hxb : (xs.toList == os'.toList) = true
          · clear hor2 hpn hvn
            go_upto_region 33 with (fail)
            go_quiet (fail)
            go_wp2_with fail
            go_roundw
            case rel => exact HR2.out _
            case measure => have := HAA.out.2; simp [intOf]; omega
          · have hxn : xs = ns := hor2.resolve_left hxb
            have hxb2 : (xs.toList == os'.toList) = false := Bool.eq_false_iff.mpr hxb
            subst hxn
            clear hor2 hxb
            go_upto_region 33 with (fail)
            go_quiet (fail)
            go_wp2_with fail
            go_roundw
            case rel => exact HR2.out _
            case measure => have := HAA.out.2; simp [intOf]; omega
        · have hlt : ¬ (a : Int) < 128 := by omega
          have HAW := Lib.hid (awake8_any wr)
          have HBU := Lib.hid hbu
          clear hbu hbd ha
          go_wp2_with fail
          refine HAW.out.mono ?_
          rintro e wz ⟨rfl, hz⟩
          have HZ := Lib.hid (HBU.out.trans (hz.mono HBU.out.size))
          clear hz
          go_wp2
          go_ret
          exact ⟨rfl, HZ.out⟩
end Go.Proofs.Ythigknolpdohoaa
