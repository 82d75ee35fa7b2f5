/-
  GeomBack's walk.
-/
import Derived.Test.YtokekhiibbhamaaDoorGeoI
import Derived.Test.YtokekhiibbhamaaDoorGeoK
namespace Go.Proofs.YtokekhiibbhamaaDoor
open Go.RowKit Go.Shelf Go
set_option linter.unusedVariables false
set_option linter.unusedSimpArgs false
namespace Geo
theorem lst_pos (c1 c2 c3 c4 i : Nat) (h : i < (lst c1 c2 c3 c4).length) : ∃ q k, (lst c1 c2 c3 c4).getD i (0, 0) = (q, k) ∧ ((q = 1 ∧ i = k ∧ k < c1) ∨ (q = 2 ∧ i = c1 + k ∧ k < c2) ∨ (q = 3 ∧ i = c1 + c2 + k ∧ k < c3) ∨ (q = 4 ∧ i = c1 + c2 + c3 + k ∧ k < c4)) := by
  rw [lst_len] at h
  by_cases h1 : i < c1
  · exact ⟨1, i, lst_1 _ _ _ _ _ h1, .inl ⟨rfl, rfl, h1⟩⟩
  · by_cases h2 : i < c1 + c2
    · have := lst_2 c1 c2 c3 c4 (i - c1) (by omega)
      rw [show c1 + (i - c1) = i by omega] at this
      exact ⟨2, i - c1, this, .inr (.inl ⟨rfl, by omega, by omega⟩)⟩
    · by_cases h3 : i < c1 + c2 + c3
      · have := lst_3 c1 c2 c3 c4 (i - (c1 + c2)) (by omega)
        rw [show c1 + c2 + (i - (c1 + c2)) = i by omega] at this
        exact ⟨3, i - (c1 + c2), this, .inr (.inr (.inl ⟨rfl, by omega, by omega⟩))⟩
      · have := lst_4 c1 c2 c3 c4 (i - (c1 + c2 + c3)) (by omega)
        rw [show c1 + c2 + c3 + (i - (c1 + c2 + c3)) = i by omega] at this
        exact ⟨4, i - (c1 + c2 + c3), this, .inr (.inr (.inr ⟨rfl, by omega, by omega⟩))⟩
theorem lst_at0 (c1 c2 c3 c4 i q k : Nat) (h : i < (lst c1 c2 c3 c4).length) (hx : (lst c1 c2 c3 c4).getD i (0, 0) = (q, k)) : at0 (lst c1 c2 c3 c4) (q : Int) (k : Int) = (i : Int) := by
  refine at0_first h (by rw [hx]; exact ⟨rfl, rfl⟩) fun j hj hh => ?_
  obtain ⟨q1, k1, e1, d1⟩ := lst_pos c1 c2 c3 c4 i h
  obtain ⟨q2, k2, e2, d2⟩ := lst_pos c1 c2 c3 c4 j (by omega)
  rw [hx] at e1
  rw [e2] at hh
  obtain ⟨f1, f2⟩ := hh
  injection e1 with g1 g2
  simp only at f1 f2
  omega
end Geo
set_option maxHeartbeats 2000000 in
set_option maxRecDepth 100000 in
theorem back_out (p t n : Int) (N : Nat) (hn : n < 0 ∨ (N : Int) ≤ n)
    (HW : Gives1K 14 #[.agg #[.int .i64 p, .int .i64 t], .int .i64 n] (.agg #[.int .i64 0, .int .i64 0]))
    (HAL : ∀ W, Calls Tryd.prog 15 #[.agg #[.int .i64 p, .int .i64 t]] W fun e w' => (∃ a c, e = .returned (.slice a N c)) ∧ Below W.heap.size W w')
    (w : World) (hK : KindsIs w) :
    Calls Tryd.prog 4 #[.agg #[.int .i64 p, .int .i64 t], .int .i64 n] w fun e w' => e = .returned (.bool true) ∧ Below w.heap.size w w' := by
  have hb : Below w.heap.size w (w.alloc (.cells #[.int .i64 p, .int .i64 t] 23)) := (Below.refl _ _).alloc (Nat.le_refl _) _
  have ht := Two.new w 23 p t
  have HB := Lib.hid hb
  have HT := Lib.hid ht
  have HKI := Lib.hid (hK.ck (CK.below hb))
  have GW := Lib.hid HW
  have GAL := Lib.hid HAL
  have GAW := Lib.hid (fun W => awake7_any W)
  have hcmp : ∀ w, (binOp .eql 32 (.agg #[.int .i64 0, .int .i64 0]) (.agg #[.int .i64 0, .int .i64 0])).run Tryd.prog w = .ok (.bool true) w := fun w => by rw [gpart_eq]; rfl
  clear hb ht hK HW HAL
  rcases hn with h1 | h1
  · go_enter Tryd.func4, Tryd.ntmps4
    go_wp2_with fail
    generalize w.alloc (.cells #[.int .i64 p, .int .i64 t] 23) = W0 at *
    refine (GW.out _ HKI.out).mono ?_
    rintro e w1 ⟨rfl, hb1⟩
    have hb2 : Below W0.heap.size W0 (w1.alloc (.cells #[.int .i64 0, .int .i64 0] 32)) := hb1.alloc hb1.size _
    have hpt := Two.new w1 32 0 0
    have HPT := Lib.hid hpt
    have HA1 := Lib.hid ((After.refl W0).next hb2)
    have c0 := (HT.out.after HA1.out).fst
    have c1 := (HT.out.after HA1.out).snd
    clear hb1 hb2 hpt
    go_wp2_with fail
    refine (GAL.out _).mono ?_
    rintro e w2 ⟨⟨a, c, rfl⟩, hb2⟩
    have HA2 := Lib.hid (HA1.out.next hb2)
    have HP2 := Lib.hid (HPT.out.ck (CK.below hb2))
    have d0 := HP2.out.fst
    have d1 := HP2.out.snd
    clear hb2 c0 c1
    go_wp2_with fail
    refine (GAW.out _).mono ?_
    rintro e w3 ⟨rfl, hb3⟩
    have HA3 := Lib.hid (HA2.out.next hb3)
    clear hb3
    go_wp2
    go_ret
    exact ⟨rfl, HB.out.trans (Below.mono HA3.out HB.out.size)⟩
  · have h0 : ¬ n < 0 := by omega
    go_enter Tryd.func4, Tryd.ntmps4
    go_wp2_with fail
    generalize w.alloc (.cells #[.int .i64 p, .int .i64 t] 23) = W0 at *
    refine (GW.out _ HKI.out).mono ?_
    rintro e w1 ⟨rfl, hb1⟩
    have hb2 : Below W0.heap.size W0 (w1.alloc (.cells #[.int .i64 0, .int .i64 0] 32)) := hb1.alloc hb1.size _
    have hpt := Two.new w1 32 0 0
    have HPT := Lib.hid hpt
    have HA1 := Lib.hid ((After.refl W0).next hb2)
    have c0 := (HT.out.after HA1.out).fst
    have c1 := (HT.out.after HA1.out).snd
    clear hb1 hb2 hpt
    go_wp2_with fail
    refine (GAL.out _).mono ?_
    rintro e w2 ⟨⟨a, c, rfl⟩, hb2⟩
    have HA2 := Lib.hid (HA1.out.next hb2)
    have HP2 := Lib.hid (HPT.out.ck (CK.below hb2))
    have d0 := HP2.out.fst
    have d1 := HP2.out.snd
    clear hb2 c0 c1
    go_wp2_with fail
    refine (GAW.out _).mono ?_
    rintro e w3 ⟨rfl, hb3⟩
    have HA3 := Lib.hid (HA2.out.next hb3)
    clear hb3
    go_wp2
    go_ret
    exact ⟨rfl, HB.out.trans (Below.mono HA3.out HB.out.size)⟩
set_option maxHeartbeats 4000000 in
set_option maxRecDepth 100000 in
theorem back_in (p t kd : Int) (k n N : Nat) (l : List (Nat × Nat)) (hN : N ≤ 1000) (hk : k ≤ 1000) (hn : n < N) (hkd : (kd = 1 ∧ n = 0) ∨ kd = 2 ∨ kd = 3 ∨ kd = 4)
    (hx : ∃ q, l[n]? = some (q, k) ∧ (q : Int) = kd)
    (HW : Gives1K 14 #[.agg #[.int .i64 p, .int .i64 t], .int .i64 (n : Int)] (.agg #[.int .i64 kd, .int .i64 (k : Int)]))
    (HAL : ∀ W, Calls Tryd.prog 15 #[.agg #[.int .i64 p, .int .i64 t]] W fun e w' => AllPost N l W e w')
    (HE2 : kd = 2 → Gives1K 7 #[.agg #[.int .i64 p, .int .i64 t], .int .i64 (k : Int)] (.int .i64 (n : Int)))
    (HE3 : kd = 3 → Gives1K 9 #[.agg #[.int .i64 p, .int .i64 t], .int .i64 (k : Int)] (.int .i64 (n : Int)))
    (HE4 : kd = 4 → Gives1K 10 #[.agg #[.int .i64 p, .int .i64 t], .int .i64 (k : Int)] (.int .i64 (n : Int)))
    (w : World) (hK : KindsIs w) :
    Calls Tryd.prog 4 #[.agg #[.int .i64 p, .int .i64 t], .int .i64 (n : Int)] w fun e w' => e = .returned (.bool true) ∧ Below w.heap.size w w' := by
  have hb : Below w.heap.size w (w.alloc (.cells #[.int .i64 p, .int .i64 t] 23)) := (Below.refl _ _).alloc (Nat.le_refl _) _
  have ht := Two.new w 23 p t
  have HB := Lib.hid hb
  have HT := Lib.hid ht
  have HI := Lib.hid (info_geo2 p t)
  have HKI := Lib.hid (hK.ck (CK.below hb))
  have GW := Lib.hid HW
  have GAL := Lib.hid HAL
  have GE2 := Lib.hid HE2
  have GE3 := Lib.hid HE3
  have GE4 := Lib.hid HE4
  have GAW := Lib.hid (fun W => awake7_any W)
  have HKD := Lib.hid hkd
  have HX := Lib.hid hx
  have hnN : (n : Int) < (N : Int) := by omega
  have hnl : ¬ (N : Int) ≤ (n : Int) := by omega
  have hn0 : ¬ (n : Int) < 0 := by omega
  have hNb : (N : Int) ≤ 1000 := by omega
  have e0 : ((n : Int) == (n : Int)) = true := beq_self_eq_true _
  have e1 : ((k : Int) == (k : Int)) = true := beq_self_eq_true _
  have e2 : (kd == kd) = true := beq_self_eq_true _
  clear hb ht hK HW HAL HE2 HE3 HE4 hkd hx hn hN
  go_enter Tryd.func4, Tryd.ntmps4
  go_wp2_with fail
  generalize w.alloc (.cells #[.int .i64 p, .int .i64 t] 23) = W0 at *
  refine (GW.out _ HKI.out).mono ?_
  rintro e w1 ⟨rfl, hb1⟩
  have hb2 : Below W0.heap.size W0 (w1.alloc (.cells #[.int .i64 kd, .int .i64 (k : Int)] 32)) := hb1.alloc hb1.size _
  have hpt := Two.new w1 32 kd (k : Int)
  have HPT := Lib.hid hpt
  have HA1 := Lib.hid ((After.refl W0).next hb2)
  have c0 := (HT.out.after HA1.out).fst
  have c1 := (HT.out.after HA1.out).snd
  clear hb1 hb2 hpt
  go_wp2_with fail
  generalize w1.alloc (.cells #[.int .i64 kd, .int .i64 (k : Int)] 32) = W1 at *
  generalize w1.heap.size = bp at *
  refine (GAL.out _).mono ?_
  rintro e w2 ⟨g, c, rfl, hb2, hpr⟩
  have HA2 := Lib.hid (HA1.out.next hb2)
  have HP2 := Lib.hid (HPT.out.ck (CK.below hb2))
  have HPR := Lib.hid hpr
  have HK2 := Lib.hid (HKI.out.ck (CK.below HA2.out))
  have HL1 : Hid (∀ W, After w2 W → W.cell? ⟨bp, 0, none⟩ = some (.int .i64 kd)) := Lib.hid (fun W hW => (HP2.out.ck (CK.below hW)).fst)
  have HL2 : Hid (∀ W, After w2 W → W.cell? ⟨bp, 1, none⟩ = some (.int .i64 (k : Int))) := Lib.hid (fun W hW => (HP2.out.ck (CK.below hW)).snd)
  have HL3 : Hid (∀ W, After w2 W → W.cell? ⟨g, n * 2, none⟩ = some (.int .i64 kd)) := Lib.hid (fun W hW => by
    obtain ⟨q, hq1, hq2⟩ := HX.out
    have := ((HPR.out.below hW).2 n (q, k) hq1).1
    rw [this, ← hq2])
  have HL4 : Hid (∀ W, After w2 W → W.cell? ⟨g, n * 2 + 1, none⟩ = some (.int .i64 (k : Int))) := Lib.hid (fun W hW => by
    obtain ⟨q, hq1, hq2⟩ := HX.out
    exact ((HPR.out.below hW).2 n (q, k) hq1).2)
  clear hb2 c0 c1 hpr
  go_wp2_with fail
  refine wp_region_class (After w2) (by kernel_rfl) (by kernel_rfl) (After.drew w2) ?_
  repeat (first
    | go_big_quiet_skip
    | (go_big_quiet_want; first
      | (with_reducible refine quiet_load1 3 (.tmp 26) rfl _ rfl .i64 Tryd.underlying3 _ HL1.out ?_; (simp only [Act.put, List.setIfInBounds_toArray, List.set_cons_zero, List.set_cons_succ]); go_big_quiet_on)
      | (with_reducible refine quiet_load1 3 (.tmp 31) rfl _ rfl .i64 Tryd.underlying3 _ HL3.out ?_; (simp only [Act.put, List.setIfInBounds_toArray, List.set_cons_zero, List.set_cons_succ]); go_big_quiet_on)
      | (with_reducible refine quiet_load1 3 (.tmp 35) rfl _ rfl .i64 Tryd.underlying3 _ HL2.out ?_; (simp only [Act.put, List.setIfInBounds_toArray, List.set_cons_zero, List.set_cons_succ]); go_big_quiet_on)
      | (with_reducible refine quiet_load1 3 (.tmp 40) rfl _ rfl .i64 Tryd.underlying3 _ HL4.out ?_; (simp only [Act.put, List.setIfInBounds_toArray, List.set_cons_zero, List.set_cons_succ]); go_big_quiet_on)
      | (go_big_quiet_op; first
        | go_big_quiet_on
        | ((with_reducible refine ⟨_, fun _ _ => rfl, ?_⟩); go_big_quiet_on)
        | ((with_reducible refine ⟨_, fun _ _ => ⟨rfl, rfl⟩, ?_⟩); go_big_quiet_on))))
  refine wpQuiet_nil ?_
  intro W4 hW4
  have HA4 : Hid (After W0 W4) := Lib.hid (HA2.out.trans (hW4.mono HA2.out.size))
  have HK4 := Lib.hid (HK2.out.ck (CK.below hW4))
  have d0 := HL1.out W4 hW4
  have d1 := HL2.out W4 hW4
  have f0 := (HT.out.after HA4.out).fst
  have f1 := (HT.out.after HA4.out).snd
  clear hW4
  rcases HKD.out with ⟨rfl, hz⟩ | rfl | rfl | rfl
  · have e9 : ((n : Int) == 0) = true := by rw [hz]; rfl
    clear hz
    go_wp2_with fail
    refine (GAW.out _).mono ?_
    rintro e w6 ⟨rfl, hb6⟩
    have HA6 := Lib.hid (HA4.out.next hb6)
    clear hb6
    go_wp2
    go_ret
    exact ⟨rfl, HB.out.trans (Below.mono HA6.out HB.out.size)⟩
  · have GX := Lib.hid (GE2.out rfl)
    go_wp2_with fail
    refine (GX.out _ HK4.out).mono ?_
    rintro e w5 ⟨rfl, hb5⟩
    have HA5 := Lib.hid (HA4.out.next hb5)
    clear hb5
    go_wp2_with fail
    refine (GAW.out _).mono ?_
    rintro e w6 ⟨rfl, hb6⟩
    have HA6 := Lib.hid (HA5.out.next hb6)
    clear hb6
    go_wp2
    go_ret
    exact ⟨rfl, HB.out.trans (Below.mono HA6.out HB.out.size)⟩
  · have GX := Lib.hid (GE3.out rfl)
    go_wp2_with fail
    refine (GX.out _ HK4.out).mono ?_
    rintro e w5 ⟨rfl, hb5⟩
    have HA5 := Lib.hid (HA4.out.next hb5)
    clear hb5
    go_wp2_with fail
    refine (GAW.out _).mono ?_
    rintro e w6 ⟨rfl, hb6⟩
    have HA6 := Lib.hid (HA5.out.next hb6)
    clear hb6
    go_wp2
    go_ret
    exact ⟨rfl, HB.out.trans (Below.mono HA6.out HB.out.size)⟩
  · have GX := Lib.hid (GE4.out rfl)
    go_wp2_with fail
    refine (GX.out _ HK4.out).mono ?_
    rintro e w5 ⟨rfl, hb5⟩
    have HA5 := Lib.hid (HA4.out.next hb5)
    clear hb5
    go_wp2_with fail
    refine (GAW.out _).mono ?_
    rintro e w6 ⟨rfl, hb6⟩
    have HA6 := Lib.hid (HA5.out.next hb6)
    clear hb6
    go_wp2
    go_ret
    exact ⟨rfl, HB.out.trans (Below.mono HA6.out HB.out.size)⟩
theorem geomBack_any (p t n : Int) (w : World) (hK : KindsIs w) :
    Calls Tryd.prog 4 #[.agg #[.int .i64 p, .int .i64 t], .int .i64 n] w fun e w' => e = .returned (.bool true) ∧ Below w.heap.size w w' := by
  by_cases h : Geo.May p t
  · have h' := h
    obtain ⟨h1, h2, h3, h4⟩ := h
    obtain ⟨p, rfl⟩ : ∃ n : Nat, p = (n : Int) := ⟨p.toNat, by omega⟩
    obtain ⟨t, rfl⟩ : ∃ n : Nat, t = (n : Int) := ⟨t.toNat, by omega⟩
    have hp : p ≤ 64 := by omega
    have ht : t ≤ 24 := by omega
    have hgo := geo_yes p t hp ht h'
    have hlen := Geo.all_len p t
    have htot : Geo.tot p t ≤ 1000 := by unfold Geo.tot Geo.lv Geo.ep Geo.se Geo.mp; omega
    have hc2 : Geo.ep p ≤ 100 := by unfold Geo.ep Geo.se Geo.mp; omega
    have hc3 : Geo.se p ≤ 100 := by unfold Geo.se Geo.mp; omega
    by_cases hn : 0 ≤ n ∧ n < (Geo.tot p t : Int)
    · obtain ⟨n, rfl⟩ : ∃ m : Nat, n = (m : Int) := ⟨n.toNat, by omega⟩
      have hnt : n < Geo.tot p t := by omega
      obtain ⟨q, k, hx, hd⟩ := Geo.lst_pos 1 (Geo.ep p) (Geo.se p) (1 + t) n (by rw [Geo.lst_all, hlen]; exact hnt)
      have hat := Geo.lst_at0 1 (Geo.ep p) (Geo.se p) (1 + t) n q k (by rw [Geo.lst_all, hlen]; exact hnt) hx
      have hk : k ≤ 1000 := by omega
      have hx' : (Geo.all p t)[n]? = some (q, k) := by
        rw [← Geo.lst_all]
        rw [List.getD_eq_getElem?_getD] at hx
        have hlt : n < (Geo.lst 1 (Geo.ep p) (Geo.se p) (1 + t)).length := by rw [Geo.lst_all, hlen]; exact hnt
        rw [List.getElem?_eq_getElem hlt] at hx ⊢
        rw [← hx]; rfl
      refine back_in p t (q : Int) k n (Geo.tot p t) (Geo.all p t) htot hk hnt (by omega) ⟨q, hx', rfl⟩ (fun W hW => ?_) (fun W => rall_yes p t hp ht h' W) (fun e W hW => ?_) (fun e W hW => ?_) (fun e W hW => ?_) w hK
      · have := where_any p t (n : Int) _ _ _ _ hgo W hW
        rw [partAt_in, hx] at this; exact this
      · have := epochAt_any p t (k : Int) _ _ _ _ hgo W hW
        rw [← e, hat] at this; exact this
      · have := sealedAt_any p t (k : Int) _ _ _ _ hgo W hW
        rw [← e, hat] at this; exact this
      · have := logAt_any p t (k : Int) _ _ _ _ hgo W hW
        rw [← e, hat] at this; exact this
    · refine back_out p t n (Geo.tot p t) (by omega) (fun W hW => ?_) (fun W => (rall_yes p t hp ht h' W).mono ?_) w hK
      · have := where_any p t n _ _ _ _ hgo W hW
        have hz : partAt (Geo.lst 1 (Geo.ep p) (Geo.se p) (1 + t)) n = (0, 0) := by
          unfold partAt
          by_cases h0 : 0 ≤ n
          · rw [if_pos h0, List.getD_eq_getElem?_getD, List.getElem?_eq_none (by rw [Geo.lst_all, hlen]; omega)]; rfl
          · rw [if_neg h0]
        rw [hz] at this; exact this
      · rintro e w' ⟨g, c, rfl, hb, _⟩
        exact ⟨⟨_, c, rfl⟩, hb⟩
  · have hgo := geo_no p t h
    refine back_out p t n 0 (by omega) (fun W hW => ?_) (fun W => (rall_no p t h W).mono ?_) w hK
    · have := where_any p t n _ _ _ _ hgo W hW
      have hz : partAt (Geo.lst 0 0 0 0) n = (0, 0) := by
        unfold partAt
        by_cases h0 : 0 ≤ n
        · rw [if_pos h0]; rfl
        · rw [if_neg h0]
      rw [hz] at this; exact this
    · rintro e w' ⟨rfl, hb⟩
      exact ⟨⟨none, 0, rfl⟩, hb⟩
end Go.Proofs.YtokekhiibbhamaaDoor
