/-
  The program's take; Take, Give, Turn.
-/
import Derived.Test.YtooahpfeamobcaaDoorPgH
namespace Go.Proofs.YtooahpfeamobcaaDoor
open Go.RowKit Go
set_option linter.unusedVariables false
set_option linter.unusedSimpArgs false
set_option maxRecDepth 100000
theorem layF_step {l : List Pg} {a m : Nat} {p q : Pg} (h : a + m < l.length) (h1 : 1 ≤ m) : (layF l a m p q).set (a + m) q = layF l a (m + 1) p q := by
  unfold layF
  have e : (l.take a ++ p :: List.replicate (m - 1) q).length = a + m := by simp; omega
  rw [List.set_append_right _ _ (by omega), e, Nat.sub_self, drop_at h, List.set_cons_zero, show m + 1 - 1 = m - 1 + 1 by omega, List.replicate_succ']
  simp
  rfl
set_option maxHeartbeats 4000000 in
theorem take_any' (B : Nat) (v : Value) (l : List Pg) (a s sn : Int) (W : World) (h : OwnP W B OT v l) (hS : SZ W) (hm : mayL l = true) (hB : B ≤ W.heap.size) (hwf : a ≤ 9223372036854775807) :
    Calls Tryd.prog 34 #[v, .int .i64 a, .int .i64 s, .int .u64 sn] W (ChgTo W B v (takeF l a s sn)) := by
  have hlen64 := (mayL_iff.1 hm).1
  have HOB := Lib.hid (ofObject_any s sn W hS)
  obtain ⟨A, c', hv, hps, hx1⟩ := h.ps
  subst hv
  clear hx1
  obtain ⟨q, hq⟩ : ∃ q, q = l.length := ⟨_, rfl⟩
  by_cases hok : okO s sn = true
  · obtain ⟨k1, k2, k3, k4⟩ := okO_iff.1 hok
    have hrp := run_pos k1 k2
    obtain ⟨r, hr⟩ : ∃ r, r = ((s + 255) / 256).toNat := ⟨_, rfl⟩
    rw [← hr] at hrp
    obtain ⟨r1, r2, r3⟩ := hrp
    have hsz : szR s = (r : Int) := by rw [szR_in k1 k2, r3]
    rw [hsz, hok] at HOB
    by_cases hrg : a < 0 ∨ (l.length : Int) < a + (r : Int)
    · have HE : Hid (∀ w', Below B W w' → ChgTo W B (.slice A l.length c') (takeF l a s sn) (.returned (.int .i64 3)) w') := Lib.hid (fun w' hb => by
        unfold takeF
        rw [if_neg (by rw [hm]; decide), if_neg (fun z => z ⟨k1, k2, k3, k4⟩), if_pos (by rw [← r3]; exact hrg)]
        exact ⟨rfl, hb, fun z => by cases z⟩)
      rw [← hq] at HE hrg hlen64 ⊢
      clear h hps hm hS hq hr r3 hsz hok k1 k2 k3 k4
      generalize takeF l a s sn = R at *
      by_cases ha : a < 0
      · clear hrg
        go_enter Tryd.func34, Tryd.ntmps34
        go_wp2_with fail
        refine HOB.out.mono ?_
        rintro e w1 ⟨rfl, hb⟩
        have HB1 := Lib.hid ((hb.mono hB).trans ((bel_alloc w1 (.cells #[.int .i64 2, .int .i64 0, .int .i64 (r : Int), .int .i64 s, .int .u64 sn] OT)).mono (Nat.le_trans hB hb.size)))
        clear hb
        go_wp2
        go_ret
        exact HE.out _ HB1.out
      · have hgt : (q : Int) - a < (r : Int) := by omega
        clear hrg
        go_enter Tryd.func34, Tryd.ntmps34
        go_wp2_with fail
        refine HOB.out.mono ?_
        rintro e w1 ⟨rfl, hb⟩
        have HB1 := Lib.hid ((hb.mono hB).trans ((bel_alloc w1 (.cells #[.int .i64 2, .int .i64 0, .int .i64 (r : Int), .int .i64 s, .int .u64 sn] OT)).mono (Nat.le_trans hB hb.size)))
        clear hb
        go_wp2
        go_ret
        exact HE.out _ HB1.out
    · obtain ⟨k, rfl⟩ : ∃ k : Nat, a = (k : Int) := ⟨a.toNat, by omega⟩
      have hkr : k + r ≤ l.length := by omega
      have hl0 : 0 < l.length := by omega
      obtain ⟨g, cap, hv2, hg1, hg2, hcap, hcap2⟩ := h.blk hl0
      cases hv2
      have HOW := Lib.hid h
      have HQ := Lib.hid hq
      have HFN : Hid (takeF l (k : Int) s sn = if ((l.drop k).take r).all isZ = false then (7, []) else (0, layF l k r (hdP s sn) ptl)) := Lib.hid (by
        unfold takeF
        rw [if_neg (by rw [hm]; decide), if_neg (fun z => z ⟨k1, k2, k3, k4⟩), if_neg (by rw [← r3]; exact hrg)]
        unfold freeN
        rw [Int.toNat_natCast, ← hr, decide_eq_true hkr, Bool.true_and])
      obtain ⟨z, hz⟩ : ∃ z, z = ((l.drop k).take r).all isZ := ⟨_, rfl⟩
      rw [← hz] at HFN
      have HALL : Hid (∀ W', Below W.heap.size W W' → Calls Tryd.prog 18 #[.slice (some ⟨g, k * 5, none⟩) r (c' - k), .func (Fn.func 30) #[] #[]] W' fun e w' => e = .returned (.bool z) ∧ Below W'.heap.size W' w') := Lib.hid (fun W' hb => by
        rw [hz]
        have := (hps.below hb).cut (k := k) (m := r) hkr
        rw [Nat.zero_add] at this
        exact all_free _ _ _ _ W' this (hS.below hb))
      have HPE : Hid ((⟨2, 0, (r : Int), s, sn⟩ : Pg) = hdP s sn) := Lib.hid (by unfold hdP; rw [r3])
      have HSZ := Lib.hid sz5_o
      rw [← hq] at hkr hcap hlen64 ⊢
      have hkrI : ¬ (q : Int) - (k : Int) < (r : Int) := by omega
      clear h hps hm hS hq hr r3 hsz hok k1 k2 k3 k4 hrg hz hl0
      generalize takeF l (k : Int) s sn = R at *
      go_enter Tryd.func34, Tryd.ntmps34
      go_wp2_with fail
      refine HOB.out.mono ?_
      rintro e w1 ⟨rfl, hb⟩
      have HB12 : Hid (Below W.heap.size W (w1.alloc (.cells #[.int .i64 2, .int .i64 0, .int .i64 (r : Int), .int .i64 s, .int .u64 sn] OT))) := Lib.hid (hb.trans ((bel_alloc _ _).mono hb.size))
      have HX1 := Lib.hid (heap_alloc_new w1 (.cells #[.int .i64 2, .int .i64 0, .int .i64 (r : Int), .int .i64 s, .int .u64 sn] OT))
      have HX2 : Hid (w1.heap.size < (w1.alloc (.cells #[.int .i64 2, .int .i64 0, .int .i64 (r : Int), .int .i64 s, .int .u64 sn] OT)).heap.size) := Lib.hid (by simp)
      clear hb
      go_wp2_with fail
      refine (HALL.out _ HB12.out).mono ?_
      rintro e w3 ⟨rfl, hb3⟩
      have HBX := Lib.hid ((hb3.block _ HX2.out).trans HX1.out)
      have HB3 := Lib.hid (HB12.out.trans (hb3.mono HB12.out.size))
      have hl3 : w1.heap.size < w3.heap.size := Nat.lt_of_lt_of_le HX2.out hb3.size
      obtain ⟨c0, c1, c2, c3, c4⟩ := five HBX.out
      clear hb3
      cases z
      · have HE : Hid (ChgTo W B (.slice (some ⟨g, 0, none⟩) q c') R (.returned (.int .i64 7)) w3) := Lib.hid (by
          rw [HFN.out, if_pos rfl]
          exact ⟨rfl, HB3.out.mono hB, fun z => by cases z⟩)
        go_wp2
        go_ret
        exact HE.out
      · have HO3 := Lib.hid (HOW.out.below HB3.out)
        have HTH := Lib.hid (HO3.out.there (i := k) (by rw [← HQ.out]; omega))
        have HPU : Hid (OwnP (w3.setCells g (k * 5) (Pg.cs ⟨2, 0, (r : Int), s, sn⟩)) B OT (.slice (some ⟨g, 0, none⟩) q c') (layF l k 1 (hdP s sn) ptl)) := Lib.hid (by
          have := HO3.out.put (i := k) (by rw [← HQ.out]; omega) ⟨2, 0, (r : Int), s, sn⟩
          rw [layF_one (q := ptl) (by rw [← HQ.out]; omega), HPE.out, ← HQ.out] at this
          rw [HPE.out]
          exact this)
        have HBP : Hid (Below B W (w3.setCells g (k * 5) (Pg.cs ⟨2, 0, (r : Int), s, sn⟩))) := Lib.hid (below_setCells g _ _ (HB3.out.mono hB) hg1)
        go_wp2_with (with_reducible refine wpList_storeP HSZ.out rfl (.tmp 46) (.tmp 45) rfl g (k * 5) ⟨2, 0, (r : Int), s, sn⟩ rfl rfl HTH.out ?_)
        all_goals clear c0 c1 c2 c3 c4 HALL HX1 HX2 HBX HOB HB12
        all_goals
          go_loopw [50] (fun v W' => ∃ j : Nat, v = .int .i64 (j : Int) ∧ j + 1 ≤ r ∧ OwnP W' B OT (.slice (some ⟨g, 0, none⟩) q c') (layF l k (j + 1) (hdP s sn) ptl) ∧ Below B W W') (fun v _ => r - (intOf v).toNat)
          case atStart => exact ⟨0, rfl, r1, HPU.out, HBP.out⟩
          case round =>
            obtain ⟨j, rfl, hj, hown, hb4⟩ := hrel
            have HO4 := Lib.hid hown
            have HB4 := Lib.hid hb4
            clear hown hb4
            by_cases hjr : j + 1 < r
            · have hlen : (layF l k (j + 1) (hdP s sn) ptl).length = l.length := layF_len (by rw [← HQ.out]; omega) (by omega)
              have HT4 := Lib.hid (HO4.out.there (i := k + (j + 1)) (by rw [hlen, ← HQ.out]; omega))
              have HP4 : Hid (OwnP (wr.setCells g ((k + (j + 1)) * 5) ptl.cs) B OT (.slice (some ⟨g, 0, none⟩) q c') (layF l k (j + 2) (hdP s sn) ptl)) := Lib.hid (by
                have := HO4.out.put (i := k + (j + 1)) (by rw [hlen, ← HQ.out]; omega) ptl
                rw [layF_step (by rw [← HQ.out]; omega) (by omega)] at this
                exact this)
              have HB5 : Hid (Below B W (wr.setCells g ((k + (j + 1)) * 5) ptl.cs)) := Lib.hid (below_setCells g _ _ HB4.out hg1)
              have e5 : (k + (j + 1)) * 5 = k * 5 + (1 + j) * 5 := by omega
              rw [e5] at HT4 HP4 HB5
              clear hlen e5
              go_wp2_with (with_reducible refine wpList_storeP HSZ.out rfl (.tmp 57) (.tmp 56) rfl g (k * 5 + (1 + j) * 5) ptl rfl rfl HT4.out ?_)
              all_goals
                go_roundw
                case rel => exact ⟨j + 1, by go_num, by omega, HP4.out, HB5.out⟩
                case measure => simp [intOf]; omega
            · obtain rfl : r = j + 1 := by omega
              have HE : Hid (ChgTo W B (.slice (some ⟨g, 0, none⟩) q c') R (.returned (.int .i64 0)) wr) := Lib.hid (by
                rw [HFN.out, if_neg (by decide)]
                exact ⟨rfl, HB4.out, fun _ => HO4.out⟩)
              go_wp2
              go_ret
              exact HE.out
  · have hok' : okO s sn = false := by simpa using hok
    rw [hok'] at HOB
    have HE : Hid (∀ w', Below B W w' → ChgTo W B (.slice A l.length c') (takeF l a s sn) (.returned (.int .i64 1)) w') := Lib.hid (fun w' hb => by
      unfold takeF
      rw [if_neg (by rw [hm]; decide), if_pos (okO_no hok')]
      exact ⟨rfl, hb, fun z => by cases z⟩)
    rw [← hq] at HE hlen64 ⊢
    clear h hps hm hS hq hok hok'
    generalize takeF l a s sn = R at *
    generalize szR s = r at *
    go_enter Tryd.func34, Tryd.ntmps34
    go_wp2_with fail
    refine HOB.out.mono ?_
    rintro e w1 ⟨rfl, hb⟩
    have HB1 := Lib.hid ((hb.mono hB).trans ((bel_alloc w1 (.cells #[.int .i64 2, .int .i64 0, .int .i64 r, .int .i64 s, .int .u64 sn] OT)).mono (Nat.le_trans hB hb.size)))
    clear hb
    go_wp2
    go_ret
    exact HE.out _ HB1.out
end Go.Proofs.YtooahpfeamobcaaDoor
