/-
  PagesBytes.
-/
import Derived.Test.YtajgbflmfopfoaaDoorPhB
import Derived.Test.YtajgbflmfopfoaaDoorPgR
namespace Go.Proofs.YtajgbflmfopfoaaDoor
open Go.RowKit Go Go.Shelf Go.WideShapes Go.ChangeShapes Go.Deep
set_option linter.unusedVariables false
set_option linter.unusedSimpArgs false
set_option maxRecDepth 100000
def lenV : Value → Nat
  | .slice _ n _ => n
  | _ => 0
set_option maxHeartbeats 8000000 in
theorem bytes19_any (A : Option Addr) (n c : Nat) (l : List Pg) (w : World) (h : PS w A n c l) (hS : SZ w) :
    Calls Tryd.prog 5 #[.slice A n c] w fun e w' => e = .returned (.bool true) ∧ Below w.heap.size w w' := by
  have HFE := Lib.hid (few_any A n c l w h)
  have hl70 : (l.take 70).length ≤ 70 := by rw [List.length_take]; omega
  generalize l.take 70 = l7 at *
  have HSV : Hid (∀ W, Below w.heap.size w W → SZ W) := Lib.hid (fun W hb => hS.below hb)
  obtain ⟨q, hq⟩ : ∃ q, q = l7.length := ⟨_, rfl⟩
  have HQ := Lib.hid hq
  rw [← hq] at HFE hl70
  clear h hS hq
  by_cases h16 : 16 < q
  · go_enter Tryd.func5, Tryd.ntmps5
    go_wp2_with fail
    refine HFE.out.mono ?_
    rintro e w0 ⟨rfl, hw0, hp7⟩
    have HP7 := Lib.hid hp7
    have HB0 : Hid (Below w.heap.size w w0) := Lib.hid (by rw [← hw0]; exact Below.refl _ _)
    clear hw0 hp7
    go_wp2_with fail
    refine (ours_any A _ c l7 w0 (HP7.out.below HB0.out) (by omega)).mono ?_
    rintro e w1 ⟨A3, c3', rfl, hmi, hx1, hb⟩
    clear hx1
    rw [← HQ.out] at hmi ⊢
    have HB1 := Lib.hid (HB0.out.trans (hb.mono HB0.out.size))
    have HMI := Lib.hid hmi
    clear hb hmi
    go_wp2_with fail
    refine (pgbytes_any A3 _ c3' l7 w1 HMI.out (HSV.out _ HB1.out)).mono ?_
    rintro e w2 ⟨hb, hd⟩
    have HB2 := Lib.hid (HB1.out.trans (hb.mono HB1.out.size))
    clear hb HMI
    rcases hd with ⟨_, rfl⟩ | ⟨h2, _⟩ | ⟨h2, _⟩
    rotate_left 1
    · exact absurd h2 (by rw [← HQ.out]; omega)
    · exact absurd h2 (by rw [← HQ.out]; omega)
    have h16i : (16 : Int) < (q : Int) := by omega
    go_wp2_with fail
    refine (awake19_any _ (HSV.out _ HB2.out)).mono ?_
    rintro e w9 ⟨rfl, hb⟩
    have HB9 := Lib.hid (HB2.out.trans (hb.mono HB2.out.size))
    clear hb
    go_wp2
    go_ret
    exact ⟨rfl, HB9.out⟩
  · have HRD : Hid (l7.all oneP = true → rd16 (blkP l7) = full16 l7) := Lib.hid (fun h => rd16_blk (by rw [← HQ.out]; omega) h)
    obtain ⟨x, hx⟩ : ∃ x, x = l7.all oneP := ⟨_, rfl⟩
    have HALL := Lib.hid hx.symm
    clear hx
    cases x
    · go_enter Tryd.func5, Tryd.ntmps5
      go_wp2_with fail
      refine HFE.out.mono ?_
      rintro e w0 ⟨rfl, hw0, hp7⟩
      have HP7 := Lib.hid hp7
      have HB0 : Hid (Below w.heap.size w w0) := Lib.hid (by rw [← hw0]; exact Below.refl _ _)
      clear hw0 hp7
      go_wp2_with fail
      refine (ours_any A _ c l7 w0 (HP7.out.below HB0.out) (by omega)).mono ?_
      rintro e w1 ⟨A3, c3', rfl, hmi, hx1, hb⟩
      clear hx1
      rw [← HQ.out] at hmi ⊢
      have HB1 := Lib.hid (HB0.out.trans (hb.mono HB0.out.size))
      have HMI := Lib.hid hmi
      clear hb hmi
      go_wp2_with fail
      refine (pgbytes_any A3 _ c3' l7 w1 HMI.out (HSV.out _ HB1.out)).mono ?_
      rintro e w2 ⟨hb, hd⟩
      have HB2 := Lib.hid (HB1.out.trans (hb.mono HB1.out.size))
      clear hb HMI
      rcases hd with ⟨h2, _⟩ | ⟨_, _, rfl⟩ | ⟨_, h2, _⟩
      · exact absurd h2 (by rw [← HQ.out]; omega)
      rotate_left 1
      · rw [HALL.out] at h2; cases h2
      have h16i : ¬ (16 : Int) < (q : Int) := by omega
      go_wp2
      go_loopw [33] (fun i W => ∃ k : Nat, i = .int .i64 (k : Int) ∧ k ≤ q ∧ (∀ j, j < k → oneP (pg l7 j) = true) ∧ Below w.heap.size w W) (fun i _ => q - (intOf i).toNat)
      case atStart => exact ⟨0, rfl, Nat.zero_le _, fun j hj => absurd hj (by omega), HB2.out⟩
      case round =>
        obtain ⟨k, rfl, hk, hone, hb⟩ := hrel
        have HONE := Lib.hid hone
        have HB := Lib.hid hb
        clear hone hb
        by_cases hlt : k < q
        · have hltI : (k : Int) < (q : Int) := by omega
          obtain ⟨b, o, rfl, hb0, hcell⟩ := HP7.out.cells (by omega)
          have hbW := (hcell _ HB.out).1
          have hp := (hcell _ HB.out).2 k hlt
          obtain ⟨p, hpe⟩ : ∃ p, p = pg l7 k := ⟨_, rfl⟩
          rw [← hpe] at hp
          have HPE := Lib.hid hpe
          obtain ⟨c0, c1, c2, c3, c4⟩ := hp
          have HB3 := Lib.hid (HB.out.trans ((bel_alloc wr (.cells #[.int .i64 p.k, .int .i64 p.c, .int .i64 p.r, .int .i64 p.s, .int .u64 p.n] RT)).mono HB.out.size))
          clear hpe hcell
          go_wp2_with fail
          refine (rone_any p _ (HSV.out _ HB3.out)).mono ?_
          rintro e w4 ⟨rfl, hb4⟩
          have HB4 := Lib.hid (HB3.out.trans (hb4.mono HB3.out.size))
          clear hb4 c0 c1 c2 c3 c4
          obtain ⟨x, hx⟩ : ∃ x, x = oneP p := ⟨_, rfl⟩
          rw [← hx]
          have HX := Lib.hid hx
          clear hx
          cases x
          · go_wp2_with fail
            refine (awake19_any _ (HSV.out _ HB4.out)).mono ?_
            rintro e w9 ⟨rfl, hb⟩
            have HB9 := Lib.hid (HB4.out.trans (hb.mono HB4.out.size))
            clear hb
            go_wp2
            go_ret
            exact ⟨rfl, HB9.out⟩
          · go_wp2
            go_roundw
            case rel => exact ⟨k + 1, by go_num, by omega, fun j hj => by
              rcases Nat.lt_or_ge j k with hj2 | hj2
              · exact HONE.out j hj2
              · obtain rfl : j = k := by omega
                rw [← HPE.out]; exact HX.out.symm, HB4.out⟩
            case measure => simp [intOf]; omega
        · have HNO := HALL.out
          exfalso
          have : l7.all oneP = true := by
            rw [List.all_eq_true]
            intro x hx
            obtain ⟨j, hj, rfl⟩ := List.getElem_of_mem hx
            have := HONE.out j (by rw [← HQ.out] at hj; omega)
            have e := pg_some hj
            rw [List.getElem?_eq_getElem hj] at e
            rw [Option.some.inj e]
            exact this
          rw [this] at HNO
          cases HNO
    · replace HRD := Lib.hid (HRD.out HALL.out)
      go_enter Tryd.func5, Tryd.ntmps5
      go_wp2_with fail
      refine HFE.out.mono ?_
      rintro e w0 ⟨rfl, hw0, hp7⟩
      have HP7 := Lib.hid hp7
      have HB0 : Hid (Below w.heap.size w w0) := Lib.hid (by rw [← hw0]; exact Below.refl _ _)
      clear hw0 hp7
      go_wp2_with fail
      refine (ours_any A _ c l7 w0 (HP7.out.below HB0.out) (by omega)).mono ?_
      rintro e w1 ⟨A3, c3', rfl, hmi, hx1, hb⟩
      clear hx1
      rw [← HQ.out] at hmi ⊢
      have HB1 := Lib.hid (HB0.out.trans (hb.mono HB0.out.size))
      have HMI := Lib.hid hmi
      clear hb hmi
      go_wp2_with fail
      refine (pgbytes_any A3 _ c3' l7 w1 HMI.out (HSV.out _ HB1.out)).mono ?_
      rintro e w2 ⟨hb, hd⟩
      have HB2 := Lib.hid (HB1.out.trans (hb.mono HB1.out.size))
      clear hb HMI
      rcases hd with ⟨h2, _⟩ | ⟨_, h2, _⟩ | ⟨_, _, A5, c5, rfl, hbs⟩
      · exact absurd h2 (by rw [← HQ.out]; omega)
      · rw [HALL.out] at h2; cases h2
      have HBLK := Lib.hid hbs
      clear hbs
      have h16i : ¬ (16 : Int) < (q : Int) := by omega
      go_wp2
      go_loopw [33] (fun i W => ∃ k : Nat, i = .int .i64 (k : Int) ∧ k ≤ q ∧ (∀ j, j < k → oneP (pg l7 j) = true) ∧ Below w2.heap.size w2 W) (fun i _ => q - (intOf i).toNat)
      case atStart => exact ⟨0, rfl, Nat.zero_le _, fun j hj => absurd hj (by omega), Below.refl _ _⟩
      case round =>
        obtain ⟨k, rfl, hk, hone, hb⟩ := hrel
        have HONE := Lib.hid hone
        have HBX := Lib.hid hb
        have HB := Lib.hid (HB2.out.trans (hb.mono HB2.out.size))
        clear hone hb
        by_cases hlt : k < q
        · have hltI : (k : Int) < (q : Int) := by omega
          obtain ⟨b, o, rfl, hb0, hcell⟩ := HP7.out.cells (by omega)
          have hbW := (hcell _ HB.out).1
          have hp := (hcell _ HB.out).2 k hlt
          obtain ⟨p, hpe⟩ : ∃ p, p = pg l7 k := ⟨_, rfl⟩
          rw [← hpe] at hp
          have HPE := Lib.hid hpe
          obtain ⟨c0, c1, c2, c3, c4⟩ := hp
          have HB3 := Lib.hid (HB.out.trans ((bel_alloc wr (.cells #[.int .i64 p.k, .int .i64 p.c, .int .i64 p.r, .int .i64 p.s, .int .u64 p.n] RT)).mono HB.out.size))
          clear hpe hcell
          go_wp2_with fail
          refine (rone_any p _ (HSV.out _ HB3.out)).mono ?_
          rintro e w4 ⟨rfl, hb4⟩
          have HB4 := Lib.hid (HB3.out.trans (hb4.mono HB3.out.size))
          have HBX4 := Lib.hid (HBX.out.trans (((bel_alloc wr (.cells #[.int .i64 p.k, .int .i64 p.c, .int .i64 p.r, .int .i64 p.s, .int .u64 p.n] RT)).trans (hb4.mono (by simp))).mono HBX.out.size))
          clear hb4 c0 c1 c2 c3 c4
          obtain ⟨x, hx⟩ : ∃ x, x = oneP p := ⟨_, rfl⟩
          rw [← hx]
          have HX := Lib.hid hx
          clear hx
          cases x
          · exfalso
            have := all_at (HALL.out) (show k < l7.length by rw [← HQ.out]; exact hlt)
            have h2 := HX.out
            rw [HPE.out, this] at h2
            cases h2
          · go_wp2
            go_roundw
            case rel => exact ⟨k + 1, by go_num, by omega, fun j hj => by
              rcases Nat.lt_or_ge j k with hj2 | hj2
              · exact HONE.out j hj2
              · obtain rfl : j = k := by omega
                rw [← HPE.out]; exact HX.out.symm, HBX4.out⟩
            case measure => simp [intOf]; omega
        · obtain rfl : k = q := by omega
          have hltI : ¬ (k : Int) < (k : Int) := by omega
          have HBLKW := Lib.hid ((HBLK.out.below HBX.out).more HBX.out.size)
          clear HONE
          go_wp2_with fail
          refine (parse_any A5 c5 (blkP l7) wr HBLKW.out (HSV.out _ HB.out)).mono ?_
          rintro e w4 ⟨hb4, hd4⟩
          rw [HRD.out] at hd4
          have HB4 := Lib.hid (HB.out.trans (hb4.mono HB.out.size))
          have HBLK4 := Lib.hid ((HBLKW.out.below hb4).more hb4.size)
          rcases hd4 with ⟨h2, _⟩ | ⟨_, A6, c6, rfl, hx6⟩
          · rw [full16_one HALL.out] at h2; cases h2
          have HX6 := Lib.hid hx6
          clear hb4 hx6 HBLKW
          have HPA := Lib.hid (((HP7.out.below HB4.out).below (bel_alloc w4 (.cells #[] RT))))
          have HO0 := Lib.hid (OwnP.empty w4 w4.heap.size RT (Nat.le_refl _))
          have HS2 := Lib.hid (bel_alloc w4 (.cells #[] RT)).size
          have HE2 := Lib.hid (bel_alloc w4 (.cells #[] RT))
          go_wp2_with (at_builtin; refine wp_appsP kdR _ rfl (.tmp 56) (.tmp 57) rfl w4.heap.size _ [] rfl HO0.out _ k c l7 rfl HPA.out (by simp; omega) HS2.out ?_; intro v5 w5 hown1 hb1; rw [List.nil_append] at hown1; have HO5 := Lib.hid hown1; have HC5 := Lib.hid (HE2.out.trans hb1); clear hown1 hb1 HO0 HPA HS2 HE2)
          go_loopw [9] (fun v W => ∃ m : Nat, k + m ≤ 16 ∧ OwnP W w4.heap.size RT v (l7 ++ List.replicate m pz) ∧ Below w4.heap.size w4 W) (fun v _ => 16 - lenV v)
          case atStart => exact ⟨0, by omega, by rw [List.replicate_zero, List.append_nil]; exact HO5.out, HC5.out⟩
          case round =>
            clear HO5 HC5
            obtain ⟨m, hm, ho, hbx⟩ := hrel
            have HW := Lib.hid hbx
            have HOM := Lib.hid ho
            obtain ⟨z, hz⟩ : ∃ z, z = k + m := ⟨_, rfl⟩
            have HLM : Hid ((l7 ++ List.replicate m pz).length = z) := Lib.hid (by rw [List.length_append, List.length_replicate, ← HQ.out, hz])
            obtain ⟨A7, c7, hv, hps, _⟩ := ho.ps
            rw [HLM.out] at hv hps
            subst hv
            have HPS7 := Lib.hid hps
            have HZ := Lib.hid hz
            have hz16 : z ≤ 16 := by omega
            clear ho hbx hps hz
            by_cases hz1 : z < 16
            · have hzI : (z : Int) < 16 := by omega
              go_wp2_with (at_builtin; refine wp_appP kdR wr rfl (.tmp 62) (.tmp 64) rfl w4.heap.size _ (l7 ++ List.replicate m pz) pz rfl HOM.out wr.heap.size rfl rfl (by rw [HLM.out]; omega) HW.out.size ?_; intro v6 w6 hown1 hb1; have HO6 := Lib.hid hown1; have HC6 := Lib.hid (HW.out.trans hb1); clear hown1 hb1)
              have HLV : Hid (lenV v6 = z + 1) := Lib.hid (by
                obtain ⟨A', c', hv', _⟩ := HO6.out.ps
                rw [hv', List.length_append, HLM.out]; rfl)
              go_roundw
              case rel => exact ⟨m + 1, by have := HZ.out; omega, by rw [List.replicate_succ', ← List.append_assoc]; exact HO6.out, HC6.out⟩
              case measure => rw [HLV.out]; show 16 - (z + 1) < 16 - z; omega
            · obtain rfl : z = 16 := by omega
              have HM : Hid (l7 ++ List.replicate m pz = full16 l7) := Lib.hid (by
                have := HZ.out
                unfold full16
                rw [← HQ.out, show 16 - k = m by omega])
              have HPF : Hid (PS wr A7 16 c7 (full16 l7)) := Lib.hid (by rw [← HM.out]; exact HPS7.out)
              have HPX := Lib.hid (HX6.out.below HW.out)
              have HB6 := Lib.hid (HB4.out.trans (HW.out.mono HB4.out.size))
              have HPL := Lib.hid (HP7.out.below HB6.out)
              have HBK := Lib.hid ((HBLK4.out.below HW.out).more HW.out.size)
              obtain ⟨sB, hsB⟩ : ∃ s, s = str (blkP l7) := ⟨_, rfl⟩
              have HSB := Lib.hid hsB
              clear hsB
              have HK : Hid (∀ W, Below wr.heap.size wr W → (fun w' => (convert 38 9 (.slice A5 256 c5)).run Tryd.prog w' = .ok (.string sB) w' ∧ Below wr.heap.size wr w') W) := Lib.hid (fun W hW => ⟨by have := conv_at (HBK.out.below hW); rw [← HSB.out] at this; exact this, hW⟩)
              have HRB : Hid (∀ W, Below wr.heap.size wr W → Calls Tryd.prog 18 #[.slice A k c] W (Gives W (blkP l7))) := Lib.hid (fun W hW => rbytes_any A k c l7 W (HPL.out.below hW) (by omega) HALL.out)
              have HPLN : Hid (∀ W, Below wr.heap.size wr W → Calls Tryd.prog 20 #[.slice A6 16 c6] W (CopyTo W (full16 l7))) := Lib.hid (fun W hW => plain_any A6 16 c6 (full16 l7) W (HPX.out.below hW) (by omega))
              have HSAME : Hid (∀ W A8 c8, PS W A8 16 c8 (full16 l7) → Below wr.heap.size wr W → Calls Tryd.prog 19 #[.slice A8 16 c8, .slice A7 16 c7] W fun e w' => e = .returned (.bool true) ∧ Below W.heap.size W w') := Lib.hid (fun W A8 c8 h8 hW => by
                have := same_any A8 A7 16 c8 16 c7 (full16 l7) (full16 l7) W h8 (HPF.out.below hW) (by omega)
                rw [(eqL_iff _ _).2 rfl] at this
                exact this)
              have HAW : Hid (∀ W, Below wr.heap.size wr W → Calls Tryd.prog 10 #[] W fun e w' => e = .returned (.bool true) ∧ Below W.heap.size W w') := Lib.hid (fun W hW => awake19_any W (HSV.out _ (HB6.out.trans (hW.mono HB6.out.size))))
              have HLF : Hid ((full16 l7).length = 16) := Lib.hid (full16_len (by rw [← HQ.out]; omega))
              have HCB : Hid (∀ A' c' W, BS W W.heap.size A' 256 c' (blkP l7) → (convert 38 9 (.slice A' 256 c')).run Tryd.prog W = .ok (.string sB) W) := Lib.hid (fun A' c' W h => by have := conv_at h; rw [← HSB.out] at this; exact this)
              have HLB : Hid ((blkP l7).length = 256) := Lib.hid (blkP_len l7)
              have hzI : ¬ (16 : Int) < 16 := by omega
              clear HOM HPS7 HM HBK HPX HPL HPF
              go_wp2
              refine wp_region_F (S := (fun w' => (convert 38 9 (.slice A5 256 c5)).run Tryd.prog w' = .ok (.string sB) w' ∧ Below wr.heap.size wr w')) [] (by kernel_rfl) (HK.out _ ((Below.refl _ _).drew)) (fun hHeld => ?_)
              refine wpAnyF_take (i := 0) (oi := _) (v := ?_) rfl (by kernel_rfl) (by kernel_rfl) (by kernel_rfl) (by kernel_rfl) (fun _ _ _ h => h) (Or.inl ⟨by rfl, ?_⟩) (by assumption) ?_
              rotate_left 1
              · intro w hSw
                (try dsimp only at hSw)
                (first | (go_simp; done) | (go_simp; with_reducible rfl))
              (try simp only [Act.put, List.getElem_toArray, List.getElem_cons_succ, List.getElem_cons_zero, List.setIfInBounds_toArray, List.set_cons_zero, List.set_cons_succ])
              refine wpAnyF_take (i := 1) (oi := _) (v := ?_) rfl (by kernel_rfl) (by kernel_rfl) (by kernel_rfl) (by kernel_rfl) (fun _ _ _ h => h) (Or.inl ⟨by rfl, ?_⟩) (by assumption) ?_
              rotate_left 1
              · intro w hSw
                (try dsimp only at hSw)
                (first | (go_simp; done) | (go_simp; with_reducible rfl))
              (try simp only [Act.put, List.getElem_toArray, List.getElem_cons_succ, List.getElem_cons_zero, List.setIfInBounds_toArray, List.set_cons_zero, List.set_cons_succ])
              refine wpAnyF_take (i := 2) (oi := _) (v := ?_) rfl (by kernel_rfl) (by kernel_rfl) (by kernel_rfl) (by kernel_rfl) (fun _ _ _ h => h) (Or.inl ⟨by rfl, ?_⟩) (by assumption) ?_
              rotate_left 1
              · intro w hSw
                (try dsimp only at hSw)
                (first | (go_simp; done) | (go_simp; with_reducible rfl))
              (try simp only [Act.put, List.getElem_toArray, List.getElem_cons_succ, List.getElem_cons_zero, List.setIfInBounds_toArray, List.set_cons_zero, List.set_cons_succ])
              refine wpAnyF_take (i := 3) (oi := _) (v := ?_) rfl (by kernel_rfl) (by kernel_rfl) (by kernel_rfl) (by kernel_rfl) (fun _ _ _ h => h) (Or.inl ⟨by rfl, ?_⟩) (by assumption) ?_
              rotate_left 1
              · intro w hSw
                (try dsimp only at hSw)
                (first | (go_simp; done) | (go_simp; with_reducible rfl))
              (try simp only [Act.put, List.getElem_toArray, List.getElem_cons_succ, List.getElem_cons_zero, List.setIfInBounds_toArray, List.set_cons_zero, List.set_cons_succ])
              refine wpAnyF_take (i := 4) (oi := _) (v := ?_) rfl (by kernel_rfl) (by kernel_rfl) (by kernel_rfl) (by kernel_rfl) (fun _ _ _ h => h) (Or.inl ⟨by rfl, ?_⟩) (by assumption) ?_
              rotate_left 1
              · intro w hSw
                (try dsimp only at hSw)
                (first | (go_simp; done) | (go_simp; with_reducible rfl))
              (try simp only [Act.put, List.getElem_toArray, List.getElem_cons_succ, List.getElem_cons_zero, List.setIfInBounds_toArray, List.set_cons_zero, List.set_cons_succ])
              refine wpAnyF_take (i := 5) (oi := _) (v := ?_) rfl (by kernel_rfl) (by kernel_rfl) (by kernel_rfl) (by kernel_rfl) (fun _ _ _ h => h) (Or.inl ⟨by rfl, ?_⟩) (by assumption) ?_
              rotate_left 1
              · intro w hSw
                (try dsimp only at hSw)
                (first | (go_simp; done) | (go_simp; with_reducible rfl))
              (try simp only [Act.put, List.getElem_toArray, List.getElem_cons_succ, List.getElem_cons_zero, List.setIfInBounds_toArray, List.set_cons_zero, List.set_cons_succ])
              refine wpAnyF_ready (rs := [6]) (by kernel_rfl) (by simp) ?_
              refine AllReadyF.cons (o := _) rfl (fun K hK => ?_) AllReadyF.nil
              go_simp
              (go_at_call 18)
              refine (HRB.out _ hHeld.2).mono ?_
              rintro e w7 ⟨A8, c8, rfl, hb7, hx7⟩
              rw [HLB.out] at hx7 ⊢
              have hc7 := HCB.out _ _ _ hx7
              refine hK.out _ _ (HK.out _ (hHeld.2.trans (hb7.mono hHeld.2.size))) (fun hHeld1 => ?_)
              clear hK K
              (try simp only [Act.put, List.getElem_toArray, List.getElem_cons_succ, List.getElem_cons_zero, List.setIfInBounds_toArray, List.set_cons_zero, List.set_cons_succ])
              refine wpAnyF_ready (rs := [7]) (by kernel_rfl) (by simp) ?_
              refine AllReadyF.cons (o := _) rfl (fun K hK => ?_) AllReadyF.nil
              go_simp
              refine hK.out _ _ (by assumption) (fun hHeld2 => ?_)
              clear hK K
              (try simp only [Act.put, List.getElem_toArray, List.getElem_cons_succ, List.getElem_cons_zero, List.setIfInBounds_toArray, List.set_cons_zero, List.set_cons_succ])
              refine wpAnyF_take (i := 8) (oi := _) (v := ?_) rfl (by kernel_rfl) (by kernel_rfl) (by kernel_rfl) (by kernel_rfl) (fun _ _ _ h => h) (Or.inl ⟨by rfl, ?_⟩) (by assumption) ?_
              rotate_left 1
              · intro w hSw
                (try dsimp only at hSw)
                (first | (go_simp; done) | (go_simp; with_reducible rfl))
              (try simp only [Act.put, List.getElem_toArray, List.getElem_cons_succ, List.getElem_cons_zero, List.setIfInBounds_toArray, List.set_cons_zero, List.set_cons_succ])
              refine wpAnyF_take (i := 9) (oi := _) (v := ?_) rfl (by kernel_rfl) (by kernel_rfl) (by kernel_rfl) (by kernel_rfl) (fun _ _ _ h => h) (Or.inl ⟨by rfl, ?_⟩) (by assumption) ?_
              rotate_left 1
              · intro w hSw
                (try dsimp only at hSw)
                (first | (go_simp; done) | (go_simp; with_reducible rfl))
              (try simp only [Act.put, List.getElem_toArray, List.getElem_cons_succ, List.getElem_cons_zero, List.setIfInBounds_toArray, List.set_cons_zero, List.set_cons_succ])
              refine wpAnyF_take (i := 10) (oi := _) (v := ?_) rfl (by kernel_rfl) (by kernel_rfl) (by kernel_rfl) (by kernel_rfl) (fun _ _ _ h => h) (Or.inl ⟨by rfl, ?_⟩) (by assumption) ?_
              rotate_left 1
              · intro w hSw
                (try dsimp only at hSw)
                (first | (go_simp; done) | (go_simp; with_reducible rfl))
              (try simp only [Act.put, List.getElem_toArray, List.getElem_cons_succ, List.getElem_cons_zero, List.setIfInBounds_toArray, List.set_cons_zero, List.set_cons_succ])
              refine wpAnyF_take (i := 11) (oi := _) (v := ?_) rfl (by kernel_rfl) (by kernel_rfl) (by kernel_rfl) (by kernel_rfl) (fun _ _ _ h => h) (Or.inl ⟨by rfl, ?_⟩) (by assumption) ?_
              rotate_left 1
              · intro w hSw
                (try dsimp only at hSw)
                (first | (go_simp; done) | (go_simp; with_reducible rfl))
              (try simp only [Act.put, List.getElem_toArray, List.getElem_cons_succ, List.getElem_cons_zero, List.setIfInBounds_toArray, List.set_cons_zero, List.set_cons_succ])
              refine wpAnyF_take (i := 12) (oi := _) (v := ?_) rfl (by kernel_rfl) (by kernel_rfl) (by kernel_rfl) (by kernel_rfl) (fun _ _ _ h => h) (Or.inl ⟨by rfl, ?_⟩) (by assumption) ?_
              rotate_left 1
              · intro w hSw
                (try dsimp only at hSw)
                (first | (go_simp; done) | (go_simp; with_reducible rfl))
              (try simp only [Act.put, List.getElem_toArray, List.getElem_cons_succ, List.getElem_cons_zero, List.setIfInBounds_toArray, List.set_cons_zero, List.set_cons_succ])
              refine wpAnyF_take (i := 13) (oi := _) (v := ?_) rfl (by kernel_rfl) (by kernel_rfl) (by kernel_rfl) (by kernel_rfl) (fun _ _ _ h => h) (Or.inl ⟨by rfl, ?_⟩) (by assumption) ?_
              rotate_left 1
              · intro w hSw
                (try dsimp only at hSw)
                (first | (go_simp; done) | (go_simp; with_reducible rfl))
              (try simp only [Act.put, List.getElem_toArray, List.getElem_cons_succ, List.getElem_cons_zero, List.setIfInBounds_toArray, List.set_cons_zero, List.set_cons_succ])
              refine wpAnyF_take (i := 14) (oi := _) (v := ?_) rfl (by kernel_rfl) (by kernel_rfl) (by kernel_rfl) (by kernel_rfl) (fun _ _ _ h => h) (Or.inl ⟨by rfl, ?_⟩) (by assumption) ?_
              rotate_left 1
              · intro w hSw
                (try dsimp only at hSw)
                (first | (go_simp; done) | (go_simp; with_reducible rfl))
              (try simp only [Act.put, List.getElem_toArray, List.getElem_cons_succ, List.getElem_cons_zero, List.setIfInBounds_toArray, List.set_cons_zero, List.set_cons_succ])
              refine wpAnyF_take (i := 15) (oi := _) (v := ?_) rfl (by kernel_rfl) (by kernel_rfl) (by kernel_rfl) (by kernel_rfl) (fun _ _ _ h => h) (Or.inl ⟨by rfl, ?_⟩) (by assumption) ?_
              rotate_left 1
              · intro w hSw
                (try dsimp only at hSw)
                (first | (go_simp; done) | (go_simp; with_reducible rfl))
              (try simp only [Act.put, List.getElem_toArray, List.getElem_cons_succ, List.getElem_cons_zero, List.setIfInBounds_toArray, List.set_cons_zero, List.set_cons_succ])
              refine wpAnyF_take (i := 17) (oi := _) (v := ?_) rfl (by kernel_rfl) (by kernel_rfl) (by kernel_rfl) (by kernel_rfl) (fun _ _ _ h => h) (Or.inl ⟨by rfl, ?_⟩) (by assumption) ?_
              rotate_left 1
              · intro w hSw
                (try dsimp only at hSw)
                (first | (go_simp; done) | (go_simp; with_reducible rfl))
              (try simp only [Act.put, List.getElem_toArray, List.getElem_cons_succ, List.getElem_cons_zero, List.setIfInBounds_toArray, List.set_cons_zero, List.set_cons_succ])
              refine wpAnyF_ready (rs := [16]) (by kernel_rfl) (by simp) ?_
              refine AllReadyF.cons (o := _) rfl (fun K hK => ?_) AllReadyF.nil
              go_simp
              (go_at_call 20)
              refine (HPLN.out _ hHeld1.2).mono ?_
              rintro e w8 ⟨A9, c9, rfl, hx8, hx9, hb8⟩
              clear hx9
              rw [HLF.out] at hx8 ⊢
              refine hK.out _ _ (HK.out _ (hHeld1.2.trans (hb8.mono hHeld1.2.size))) (fun hHeld3 => ?_)
              clear hK K
              (try simp only [Act.put, List.getElem_toArray, List.getElem_cons_succ, List.getElem_cons_zero, List.setIfInBounds_toArray, List.set_cons_zero, List.set_cons_succ])
              refine wpAnyF_ready (rs := [18]) (by kernel_rfl) (by simp) ?_
              refine AllReadyF.cons (o := _) rfl (fun K hK => ?_) AllReadyF.nil
              go_simp
              (go_at_call 19)
              refine (HSAME.out _ A9 c9 hx8 hHeld3.2).mono ?_
              rintro e w10 ⟨rfl, hb10⟩
              refine hK.out _ _ (HK.out _ (hHeld3.2.trans (hb10.mono hHeld3.2.size))) (fun hHeld5 => ?_)
              clear hK K
              (try simp only [Act.put, List.getElem_toArray, List.getElem_cons_succ, List.getElem_cons_zero, List.setIfInBounds_toArray, List.set_cons_zero, List.set_cons_succ])
              refine wpAnyF_take (i := 19) (oi := _) (v := ?_) rfl (by kernel_rfl) (by kernel_rfl) (by kernel_rfl) (by kernel_rfl) (fun _ _ _ h => h) (Or.inl ⟨by rfl, ?_⟩) (by assumption) ?_
              rotate_left 1
              · intro w hSw
                (try dsimp only at hSw)
                (first | (go_simp; done) | (go_simp; with_reducible rfl))
              (try simp only [Act.put, List.getElem_toArray, List.getElem_cons_succ, List.getElem_cons_zero, List.setIfInBounds_toArray, List.set_cons_zero, List.set_cons_succ])
              refine wpAnyF_take (i := 20) (oi := _) (v := ?_) rfl (by kernel_rfl) (by kernel_rfl) (by kernel_rfl) (by kernel_rfl) (fun _ _ _ h => h) (Or.inl ⟨by rfl, ?_⟩) (by assumption) ?_
              rotate_left 1
              · intro w hSw
                (try dsimp only at hSw)
                (first | (go_simp; done) | (go_simp; with_reducible rfl))
              (try simp only [Act.put, List.getElem_toArray, List.getElem_cons_succ, List.getElem_cons_zero, List.setIfInBounds_toArray, List.set_cons_zero, List.set_cons_succ])
              refine wpAnyF_ready (rs := [21]) (by kernel_rfl) (by simp) ?_
              refine AllReadyF.cons (o := _) rfl (fun K hK => ?_) AllReadyF.nil
              go_simp
              (go_at_call 10)
              refine (HAW.out _ hHeld5.2).mono ?_
              rintro e w11 ⟨rfl, hb11⟩
              refine hK.out _ _ (HK.out _ (hHeld5.2.trans (hb11.mono hHeld5.2.size))) (fun hHeld4 => ?_)
              clear hK K
              (try simp only [Act.put, List.getElem_toArray, List.getElem_cons_succ, List.getElem_cons_zero, List.setIfInBounds_toArray, List.set_cons_zero, List.set_cons_succ])
              refine wpAnyF_take (i := 22) (oi := _) (v := ?_) rfl (by kernel_rfl) (by kernel_rfl) (by kernel_rfl) (by kernel_rfl) (fun _ _ _ h => h) (Or.inl ⟨by rfl, ?_⟩) (by assumption) ?_
              rotate_left 1
              · intro w hSw
                (try dsimp only at hSw)
                (first | (go_simp; done) | (go_simp; with_reducible rfl))
              (try simp only [Act.put, List.getElem_toArray, List.getElem_cons_succ, List.getElem_cons_zero, List.setIfInBounds_toArray, List.set_cons_zero, List.set_cons_succ])
              refine wpAnyF_take (i := 23) (oi := _) (v := ?_) rfl (by kernel_rfl) (by kernel_rfl) (by kernel_rfl) (by kernel_rfl) (fun _ _ _ h => h) (Or.inl ⟨by rfl, ?_⟩) (by assumption) ?_
              rotate_left 1
              · intro w hSw
                (try dsimp only at hSw)
                (first | (go_simp; done) | (go_simp; with_reducible rfl))
              (try simp only [Act.put, List.getElem_toArray, List.getElem_cons_succ, List.getElem_cons_zero, List.setIfInBounds_toArray, List.set_cons_zero, List.set_cons_succ])
              refine wpAnyF_done (by kernel_rfl) ?_ _
              go_wp2
              go_ret
              exact ⟨rfl, HB6.out.trans (hHeld4.2.mono HB6.out.size)⟩
end Go.Proofs.YtajgbflmfopfoaaDoor
