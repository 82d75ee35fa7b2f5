/-
  The statements' step, few, awake.
-/
import Derived.Test.YtajgbflmfopfoaaDoorPgN
namespace Go.Proofs.YtajgbflmfopfoaaDoor
open Go.RowKit Go
set_option linter.unusedVariables false
set_option linter.unusedSimpArgs false
set_option maxRecDepth 100000
def StepTo (w : World) (l : List Pg) (e : Ending) (w' : World) : Prop := ∃ (l' : List Pg) (A' : Option Addr) (c' : Nat), (l' = l ∨ mayL l' = true) ∧ e = .returned (.tuple #[.slice A' l'.length c', .bool true]) ∧ PS w' A' l'.length c' l' ∧ Below w.heap.size w w'
/-- what a call answers may be, or is an error -/
structure Good (R : Nat × List Pg) : Prop where
  may : R.1 = 0 → mayL R.2 = true
  len : R.2.length < 1000
theorem good_of {R : Nat × List Pg} (h1 : R.1 = 0 → mayL R.2 = true) (h2 : ErrNil R) : Good R := ⟨h1, by
  by_cases h : R.1 = 0
  · have := (mayL_iff.1 (h1 h)).1; omega
  · rw [h2 h]; decide⟩
theorem takeF_good (l : List Pg) (a s n : Int) : Good (takeF l a s n) := good_of takeF_may (takeF_err _ _ _ _)
theorem giveF_good (l : List Pg) (a : Int) : Good (giveF l a) := good_of giveF_may (giveF_err _ _)
theorem turnF_good (l : List Pg) (a c : Int) : Good (turnF l a c) := good_of turnF_may (turnF_err _ _ _)
theorem firstI_le (l : List Pg) (m : Int) : firstI l m 0 ≤ 9223372036854775807 ∨ 1000 ≤ l.length := by
  by_cases h : 1000 ≤ l.length
  · exact .inr h
  · refine .inl ?_
    rcases firstI_neg l m _ 0 (Nat.le_refl _) with h1 | h1 <;> omega
set_option maxHeartbeats 8000000 in
theorem step_2 (A : Option Addr) (n c : Nat) (l : List Pg) (k at_ s cl sn : Int) (w : World) (h : PS w A n c l) (hS : SZ w) (hn : n < 1000) (hat : at_ ≤ 9223372036854775807) (hs1 : -9223372036854775808 ≤ s) (hs2 : s ≤ 9223372036854775807) (hk : k = 2) :
    Calls Tryd.prog 9 #[.slice A n c, .agg #[.int .i64 k, .int .i64 at_, .int .i64 s, .int .i64 cl, .int .u64 sn]] w (StepTo w l) := by
  obtain ⟨V, hV⟩ : ∃ V, V = w.alloc (.cells #[.int .i64 k, .int .i64 at_, .int .i64 s, .int .i64 cl, .int .u64 sn] 26) := ⟨_, rfl⟩
  have hsz : V.heap.size = w.heap.size + 1 := by rw [hV, box1]
  have hbV : Below w.heap.size w V := by rw [hV]; exact bel_alloc _ _
  have hbx : V.heap[w.heap.size]? = some (.cells #[.int .i64 k, .int .i64 at_, .int .i64 s, .int .i64 cl, .int .u64 sn] 26 (0, 0)) := by rw [hV]; exact heap_alloc_new _ _
  have HBW0 := Lib.hid hbV
  have HBX0 : Hid (∀ W, Below V.heap.size V W → W.cell? ⟨w.heap.size, 0, none⟩ = some (.int .i64 k) ∧ W.cell? ⟨w.heap.size, 1, none⟩ = some (.int .i64 at_) ∧ W.cell? ⟨w.heap.size, 2, none⟩ = some (.int .i64 s) ∧ W.cell? ⟨w.heap.size, 3, none⟩ = some (.int .i64 cl) ∧ W.cell? ⟨w.heap.size, 4, none⟩ = some (.int .u64 sn)) := Lib.hid (fun W hb => five ((hb.block _ (by omega)).trans hbx))
  have HLV0 : Hid (∀ W, Below V.heap.size V W → w.heap.size < W.heap.size) := Lib.hid (fun W hb => by have := hb.size; omega)
  have HSV0 : Hid (∀ W, Below V.heap.size V W → SZ W) := Lib.hid (fun W hb => (hS.below hbV).below hb)
  have HPL0 : Hid (∀ W, Below V.heap.size V W → PS W A n c l) := Lib.hid (fun W hb => (h.below hbV).below hb)
  have HOU := Lib.hid (ours_any A n c l V (h.below hbV) (by omega))
  have HLN := Lib.hid h.len
  have HEL : Hid (eqL l l = true) := Lib.hid ((eqL_iff _ _).2 rfl)
  have HV := Lib.hid hV
  have hcn := h.cap
  have hcm := h.capm
  clear h hS hbV hbx hsz
  rw [hV] at HOU
  clear hV
  subst hk
  go_enter Tryd.func9, Tryd.ntmps9
  go_wp2_with fail
  refine HOU.out.mono ?_
  rintro e w1 ⟨A3, c3', rfl, hmi, hx1, hb⟩
  clear hx1
  rw [← HV.out] at hb
  have HBX : Hid (∀ W, Below w1.heap.size w1 W → W.cell? ⟨w.heap.size, 0, none⟩ = some (.int .i64 2) ∧ W.cell? ⟨w.heap.size, 1, none⟩ = some (.int .i64 at_) ∧ W.cell? ⟨w.heap.size, 2, none⟩ = some (.int .i64 s) ∧ W.cell? ⟨w.heap.size, 3, none⟩ = some (.int .i64 cl) ∧ W.cell? ⟨w.heap.size, 4, none⟩ = some (.int .u64 sn)) := Lib.hid (fun W h2 => HBX0.out W (hb.trans (h2.mono hb.size)))
  have HLV : Hid (∀ W, Below w1.heap.size w1 W → w.heap.size < W.heap.size) := Lib.hid (fun W h2 => HLV0.out W (hb.trans (h2.mono hb.size)))
  have HSV : Hid (∀ W, Below w1.heap.size w1 W → SZ W) := Lib.hid (fun W h2 => HSV0.out W (hb.trans (h2.mono hb.size)))
  have HPL : Hid (∀ W, Below w1.heap.size w1 W → PS W A n c l) := Lib.hid (fun W h2 => HPL0.out W (hb.trans (h2.mono hb.size)))
  have HMI : Hid (∀ W, Below w1.heap.size w1 W → PS W A3 l.length c3' l) := Lib.hid (fun W h2 => hmi.below h2)
  have HBW : Hid (Below w.heap.size w w1) := Lib.hid (HBW0.out.trans (hb.mono HBW0.out.size))
  have HB1 : Hid (Below w1.heap.size w1 w1) := Lib.hid (Below.refl _ _)
  clear hmi hb
  obtain ⟨c0, c1, c2, c3, c4⟩ := HBX.out _ HB1.out
  have hlv := HLV.out _ HB1.out
  obtain ⟨R, hR⟩ : ∃ R, R = giveF l at_ := ⟨_, rfl⟩
  have HRR := Lib.hid hR
  have HG : Hid (Good R) := Lib.hid (by rw [hR]; exact giveF_good _ _)
  have HEQ : Hid (eqL R.2 R.2 = true) := Lib.hid ((eqL_iff _ _).2 rfl)
  clear hR
  go_wp2_with fail
  refine (HRR.out ▸ pgive_any A3 l.length c3' l at_ _ (HMI.out _ HB1.out) (HSV.out _ HB1.out) (by rw [HLN.out]; omega)).mono ?_
  rintro e w2 ⟨Am, cm, rfl, hpm, hb⟩
  have HB2 := Lib.hid (HB1.out.trans (hb.mono HB1.out.size))
  have HPM := Lib.hid hpm
  clear hb hpm c0 c1 c2 c3 c4
  obtain ⟨c0, c1, c2, c3, c4⟩ := HBX.out _ HB2.out
  have hlv2 := HLV.out _ HB2.out
  go_wp2_with fail
  refine (HRR.out ▸ rgive_any A n c l at_ _ (HPL.out _ HB2.out) (HSV.out _ HB2.out) (by omega)).mono ?_
  rintro e w3 ⟨Aw, cw, rfl, hpw, hb⟩
  have HB3 := Lib.hid (HB2.out.trans (hb.mono HB2.out.size))
  have HPM3 := Lib.hid (HPM.out.below hb)
  have HPW := Lib.hid hpw
  clear hb hpw c0 c1 c2 c3 c4
  go_wp2_with fail
  refine (plain_any Am _ cm R.2 w3 HPM3.out (by have := HG.out.len; omega)).mono ?_
  rintro e w4 ⟨Ap, cp, rfl, hpp, hx1, hb⟩
  clear hx1
  have HB4 := Lib.hid (HB3.out.trans (hb.mono HB3.out.size))
  have HPP := Lib.hid hpp
  have HPW4 := Lib.hid (HPW.out.below hb)
  clear hb hpp
  go_wp2_with fail
  refine (same_any Ap Aw _ cp _ cw R.2 R.2 w4 HPP.out HPW4.out HG.out.len).mono ?_
  rintro e w5 ⟨rfl, hb⟩
  rw [HEQ.out]
  have HB5 := Lib.hid (HB4.out.trans (hb.mono HB4.out.size))
  have HPW5 := Lib.hid (HPW4.out.below hb)
  clear hb
  go_wp2_with fail
  refine (plain_any A3 _ c3' l w5 (HMI.out _ HB5.out) (by rw [HLN.out]; omega)).mono ?_
  rintro e w6 ⟨Aq, cq, rfl, hpq, hx1, hb⟩
  clear hx1
  have HB6 := Lib.hid (HB5.out.trans (hb.mono HB5.out.size))
  have HPQ := Lib.hid hpq
  have HPW6 := Lib.hid (HPW5.out.below hb)
  clear hb hpq
  go_wp2_with fail
  refine (same_any Aq A _ cq n c l l w6 HPQ.out (HPL.out _ HB6.out) (by rw [HLN.out]; omega)).mono ?_
  rintro e w7 ⟨rfl, hb⟩
  rw [HEL.out]
  have HB7 := Lib.hid (HB6.out.trans (hb.mono HB6.out.size))
  have HPW7 := Lib.hid (HPW6.out.below hb)
  clear hb
  obtain ⟨r0, hr0⟩ : ∃ r0 : Nat, r0 = R.1 := ⟨_, rfl⟩
  rw [← hr0]
  have HR0 := Lib.hid hr0
  clear hr0
  by_cases h0 : r0 = 0
  · subst h0
    have HMY := Lib.hid (HG.out.may HR0.out.symm)
    go_wp2_with fail
    refine (rmay_any Aw _ cw R.2 w7 HPW7.out (HSV.out _ HB7.out)).mono ?_
    rintro e w8 ⟨rfl, hb⟩
    rw [HMY.out]
    have HE : Hid (StepTo w l (.returned (.tuple #[.slice Aw R.2.length cw, .bool true])) w8) := Lib.hid ⟨R.2, Aw, cw, .inr HMY.out, rfl, HPW7.out.below hb, HBW.out.trans ((HB7.out.trans (hb.mono HB7.out.size)).mono HBW.out.size)⟩
    clear hb
    go_wp2
    go_ret2
    exact HE.out
  · have HE : Hid (StepTo w l (.returned (.tuple #[.slice A n c, .bool true])) w7) := Lib.hid ⟨l, A, c, .inl rfl, by rw [HLN.out], by rw [HLN.out]; exact HPL.out _ HB7.out, HBW.out.trans (HB7.out.mono HBW.out.size)⟩
    have h0b : ((r0 : Int) != 0) = true := by simp [h0]
    go_wp2
    go_ret2
    exact HE.out
set_option maxHeartbeats 8000000 in
theorem step_34 (A : Option Addr) (n c : Nat) (l : List Pg) (k at_ s cl sn : Int) (w : World) (h : PS w A n c l) (hS : SZ w) (hn : n < 1000) (hat : at_ ≤ 9223372036854775807) (hs1 : -9223372036854775808 ≤ s) (hs2 : s ≤ 9223372036854775807) (hk : k = 3 ∨ k = 4) :
    Calls Tryd.prog 9 #[.slice A n c, .agg #[.int .i64 k, .int .i64 at_, .int .i64 s, .int .i64 cl, .int .u64 sn]] w (StepTo w l) := by
  obtain ⟨V, hV⟩ : ∃ V, V = w.alloc (.cells #[.int .i64 k, .int .i64 at_, .int .i64 s, .int .i64 cl, .int .u64 sn] 26) := ⟨_, rfl⟩
  have hsz : V.heap.size = w.heap.size + 1 := by rw [hV, box1]
  have hbV : Below w.heap.size w V := by rw [hV]; exact bel_alloc _ _
  have hbx : V.heap[w.heap.size]? = some (.cells #[.int .i64 k, .int .i64 at_, .int .i64 s, .int .i64 cl, .int .u64 sn] 26 (0, 0)) := by rw [hV]; exact heap_alloc_new _ _
  have HBW0 := Lib.hid hbV
  have HBX0 : Hid (∀ W, Below V.heap.size V W → W.cell? ⟨w.heap.size, 0, none⟩ = some (.int .i64 k) ∧ W.cell? ⟨w.heap.size, 1, none⟩ = some (.int .i64 at_) ∧ W.cell? ⟨w.heap.size, 2, none⟩ = some (.int .i64 s) ∧ W.cell? ⟨w.heap.size, 3, none⟩ = some (.int .i64 cl) ∧ W.cell? ⟨w.heap.size, 4, none⟩ = some (.int .u64 sn)) := Lib.hid (fun W hb => five ((hb.block _ (by omega)).trans hbx))
  have HLV0 : Hid (∀ W, Below V.heap.size V W → w.heap.size < W.heap.size) := Lib.hid (fun W hb => by have := hb.size; omega)
  have HSV0 : Hid (∀ W, Below V.heap.size V W → SZ W) := Lib.hid (fun W hb => (hS.below hbV).below hb)
  have HPL0 : Hid (∀ W, Below V.heap.size V W → PS W A n c l) := Lib.hid (fun W hb => (h.below hbV).below hb)
  have HOU := Lib.hid (ours_any A n c l V (h.below hbV) (by omega))
  have HLN := Lib.hid h.len
  have HEL : Hid (eqL l l = true) := Lib.hid ((eqL_iff _ _).2 rfl)
  have HV := Lib.hid hV
  have hcn := h.cap
  have hcm := h.capm
  clear h hS hbV hbx hsz
  rw [hV] at HOU
  clear hV
  rcases hk with rfl | rfl
  · go_enter Tryd.func9, Tryd.ntmps9
    go_wp2_with fail
    refine HOU.out.mono ?_
    rintro e w1 ⟨A3, c3', rfl, hmi, hx1, hb⟩
    clear hx1
    rw [← HV.out] at hb
    have HBX : Hid (∀ W, Below w1.heap.size w1 W → W.cell? ⟨w.heap.size, 0, none⟩ = some (.int .i64 3) ∧ W.cell? ⟨w.heap.size, 1, none⟩ = some (.int .i64 at_) ∧ W.cell? ⟨w.heap.size, 2, none⟩ = some (.int .i64 s) ∧ W.cell? ⟨w.heap.size, 3, none⟩ = some (.int .i64 cl) ∧ W.cell? ⟨w.heap.size, 4, none⟩ = some (.int .u64 sn)) := Lib.hid (fun W h2 => HBX0.out W (hb.trans (h2.mono hb.size)))
    have HLV : Hid (∀ W, Below w1.heap.size w1 W → w.heap.size < W.heap.size) := Lib.hid (fun W h2 => HLV0.out W (hb.trans (h2.mono hb.size)))
    have HSV : Hid (∀ W, Below w1.heap.size w1 W → SZ W) := Lib.hid (fun W h2 => HSV0.out W (hb.trans (h2.mono hb.size)))
    have HPL : Hid (∀ W, Below w1.heap.size w1 W → PS W A n c l) := Lib.hid (fun W h2 => HPL0.out W (hb.trans (h2.mono hb.size)))
    have HMI : Hid (∀ W, Below w1.heap.size w1 W → PS W A3 l.length c3' l) := Lib.hid (fun W h2 => hmi.below h2)
    have HBW : Hid (Below w.heap.size w w1) := Lib.hid (HBW0.out.trans (hb.mono HBW0.out.size))
    have HB1 : Hid (Below w1.heap.size w1 w1) := Lib.hid (Below.refl _ _)
    clear hmi hb
    obtain ⟨c0, c1, c2, c3, c4⟩ := HBX.out _ HB1.out
    have hlv := HLV.out _ HB1.out
    obtain ⟨R, hR⟩ : ∃ R, R = turnF l at_ cl := ⟨_, rfl⟩
    have HRR := Lib.hid hR
    have HG : Hid (Good R) := Lib.hid (by rw [hR]; exact turnF_good _ _ _)
    have HEQ : Hid (eqL R.2 R.2 = true) := Lib.hid ((eqL_iff _ _).2 rfl)
    clear hR
    go_wp2_with fail
    refine (HRR.out ▸ pturn_any A3 l.length c3' l at_ cl _ (HMI.out _ HB1.out) (HSV.out _ HB1.out) (by rw [HLN.out]; omega)).mono ?_
    rintro e w2 ⟨Am, cm, rfl, hpm, hb⟩
    have HB2 := Lib.hid (HB1.out.trans (hb.mono HB1.out.size))
    have HPM := Lib.hid hpm
    clear hb hpm c0 c1 c2 c3 c4
    obtain ⟨c0, c1, c2, c3, c4⟩ := HBX.out _ HB2.out
    have hlv2 := HLV.out _ HB2.out
    go_wp2_with fail
    refine (HRR.out ▸ rturn_any A n c l at_ cl _ (HPL.out _ HB2.out) (HSV.out _ HB2.out) (by omega)).mono ?_
    rintro e w3 ⟨Aw, cw, rfl, hpw, hb⟩
    have HB3 := Lib.hid (HB2.out.trans (hb.mono HB2.out.size))
    have HPM3 := Lib.hid (HPM.out.below hb)
    have HPW := Lib.hid hpw
    clear hb hpw c0 c1 c2 c3 c4
    go_wp2_with fail
    refine (plain_any Am _ cm R.2 w3 HPM3.out (by have := HG.out.len; omega)).mono ?_
    rintro e w4 ⟨Ap, cp, rfl, hpp, hx1, hb⟩
    clear hx1
    have HB4 := Lib.hid (HB3.out.trans (hb.mono HB3.out.size))
    have HPP := Lib.hid hpp
    have HPW4 := Lib.hid (HPW.out.below hb)
    clear hb hpp
    go_wp2_with fail
    refine (same_any Ap Aw _ cp _ cw R.2 R.2 w4 HPP.out HPW4.out HG.out.len).mono ?_
    rintro e w5 ⟨rfl, hb⟩
    rw [HEQ.out]
    have HB5 := Lib.hid (HB4.out.trans (hb.mono HB4.out.size))
    have HPW5 := Lib.hid (HPW4.out.below hb)
    clear hb
    go_wp2_with fail
    refine (plain_any A3 _ c3' l w5 (HMI.out _ HB5.out) (by rw [HLN.out]; omega)).mono ?_
    rintro e w6 ⟨Aq, cq, rfl, hpq, hx1, hb⟩
    clear hx1
    have HB6 := Lib.hid (HB5.out.trans (hb.mono HB5.out.size))
    have HPQ := Lib.hid hpq
    have HPW6 := Lib.hid (HPW5.out.below hb)
    clear hb hpq
    go_wp2_with fail
    refine (same_any Aq A _ cq n c l l w6 HPQ.out (HPL.out _ HB6.out) (by rw [HLN.out]; omega)).mono ?_
    rintro e w7 ⟨rfl, hb⟩
    rw [HEL.out]
    have HB7 := Lib.hid (HB6.out.trans (hb.mono HB6.out.size))
    have HPW7 := Lib.hid (HPW6.out.below hb)
    clear hb
    obtain ⟨r0, hr0⟩ : ∃ r0 : Nat, r0 = R.1 := ⟨_, rfl⟩
    rw [← hr0]
    have HR0 := Lib.hid hr0
    clear hr0
    by_cases h0 : r0 = 0
    · subst h0
      have HMY := Lib.hid (HG.out.may HR0.out.symm)
      go_wp2_with fail
      refine (rmay_any Aw _ cw R.2 w7 HPW7.out (HSV.out _ HB7.out)).mono ?_
      rintro e w8 ⟨rfl, hb⟩
      rw [HMY.out]
      have HE : Hid (StepTo w l (.returned (.tuple #[.slice Aw R.2.length cw, .bool true])) w8) := Lib.hid ⟨R.2, Aw, cw, .inr HMY.out, rfl, HPW7.out.below hb, HBW.out.trans ((HB7.out.trans (hb.mono HB7.out.size)).mono HBW.out.size)⟩
      clear hb
      go_wp2
      go_ret2
      exact HE.out
    · have HE : Hid (StepTo w l (.returned (.tuple #[.slice A n c, .bool true])) w7) := Lib.hid ⟨l, A, c, .inl rfl, by rw [HLN.out], by rw [HLN.out]; exact HPL.out _ HB7.out, HBW.out.trans (HB7.out.mono HBW.out.size)⟩
      have h0b : ((r0 : Int) != 0) = true := by simp [h0]
      go_wp2
      go_ret2
      exact HE.out
  · go_enter Tryd.func9, Tryd.ntmps9
    go_wp2_with fail
    refine HOU.out.mono ?_
    rintro e w1 ⟨A3, c3', rfl, hmi, hx1, hb⟩
    clear hx1
    rw [← HV.out] at hb
    have HBX : Hid (∀ W, Below w1.heap.size w1 W → W.cell? ⟨w.heap.size, 0, none⟩ = some (.int .i64 4) ∧ W.cell? ⟨w.heap.size, 1, none⟩ = some (.int .i64 at_) ∧ W.cell? ⟨w.heap.size, 2, none⟩ = some (.int .i64 s) ∧ W.cell? ⟨w.heap.size, 3, none⟩ = some (.int .i64 cl) ∧ W.cell? ⟨w.heap.size, 4, none⟩ = some (.int .u64 sn)) := Lib.hid (fun W h2 => HBX0.out W (hb.trans (h2.mono hb.size)))
    have HLV : Hid (∀ W, Below w1.heap.size w1 W → w.heap.size < W.heap.size) := Lib.hid (fun W h2 => HLV0.out W (hb.trans (h2.mono hb.size)))
    have HSV : Hid (∀ W, Below w1.heap.size w1 W → SZ W) := Lib.hid (fun W h2 => HSV0.out W (hb.trans (h2.mono hb.size)))
    have HPL : Hid (∀ W, Below w1.heap.size w1 W → PS W A n c l) := Lib.hid (fun W h2 => HPL0.out W (hb.trans (h2.mono hb.size)))
    have HMI : Hid (∀ W, Below w1.heap.size w1 W → PS W A3 l.length c3' l) := Lib.hid (fun W h2 => hmi.below h2)
    have HBW : Hid (Below w.heap.size w w1) := Lib.hid (HBW0.out.trans (hb.mono HBW0.out.size))
    have HB1 : Hid (Below w1.heap.size w1 w1) := Lib.hid (Below.refl _ _)
    clear hmi hb
    obtain ⟨c0, c1, c2, c3, c4⟩ := HBX.out _ HB1.out
    have hlv := HLV.out _ HB1.out
    obtain ⟨R, hR⟩ : ∃ R, R = turnF l at_ cl := ⟨_, rfl⟩
    have HRR := Lib.hid hR
    have HG : Hid (Good R) := Lib.hid (by rw [hR]; exact turnF_good _ _ _)
    have HEQ : Hid (eqL R.2 R.2 = true) := Lib.hid ((eqL_iff _ _).2 rfl)
    clear hR
    go_wp2_with fail
    refine (HRR.out ▸ pturn_any A3 l.length c3' l at_ cl _ (HMI.out _ HB1.out) (HSV.out _ HB1.out) (by rw [HLN.out]; omega)).mono ?_
    rintro e w2 ⟨Am, cm, rfl, hpm, hb⟩
    have HB2 := Lib.hid (HB1.out.trans (hb.mono HB1.out.size))
    have HPM := Lib.hid hpm
    clear hb hpm c0 c1 c2 c3 c4
    obtain ⟨c0, c1, c2, c3, c4⟩ := HBX.out _ HB2.out
    have hlv2 := HLV.out _ HB2.out
    go_wp2_with fail
    refine (HRR.out ▸ rturn_any A n c l at_ cl _ (HPL.out _ HB2.out) (HSV.out _ HB2.out) (by omega)).mono ?_
    rintro e w3 ⟨Aw, cw, rfl, hpw, hb⟩
    have HB3 := Lib.hid (HB2.out.trans (hb.mono HB2.out.size))
    have HPM3 := Lib.hid (HPM.out.below hb)
    have HPW := Lib.hid hpw
    clear hb hpw c0 c1 c2 c3 c4
    go_wp2_with fail
    refine (plain_any Am _ cm R.2 w3 HPM3.out (by have := HG.out.len; omega)).mono ?_
    rintro e w4 ⟨Ap, cp, rfl, hpp, hx1, hb⟩
    clear hx1
    have HB4 := Lib.hid (HB3.out.trans (hb.mono HB3.out.size))
    have HPP := Lib.hid hpp
    have HPW4 := Lib.hid (HPW.out.below hb)
    clear hb hpp
    go_wp2_with fail
    refine (same_any Ap Aw _ cp _ cw R.2 R.2 w4 HPP.out HPW4.out HG.out.len).mono ?_
    rintro e w5 ⟨rfl, hb⟩
    rw [HEQ.out]
    have HB5 := Lib.hid (HB4.out.trans (hb.mono HB4.out.size))
    have HPW5 := Lib.hid (HPW4.out.below hb)
    clear hb
    go_wp2_with fail
    refine (plain_any A3 _ c3' l w5 (HMI.out _ HB5.out) (by rw [HLN.out]; omega)).mono ?_
    rintro e w6 ⟨Aq, cq, rfl, hpq, hx1, hb⟩
    clear hx1
    have HB6 := Lib.hid (HB5.out.trans (hb.mono HB5.out.size))
    have HPQ := Lib.hid hpq
    have HPW6 := Lib.hid (HPW5.out.below hb)
    clear hb hpq
    go_wp2_with fail
    refine (same_any Aq A _ cq n c l l w6 HPQ.out (HPL.out _ HB6.out) (by rw [HLN.out]; omega)).mono ?_
    rintro e w7 ⟨rfl, hb⟩
    rw [HEL.out]
    have HB7 := Lib.hid (HB6.out.trans (hb.mono HB6.out.size))
    have HPW7 := Lib.hid (HPW6.out.below hb)
    clear hb
    obtain ⟨r0, hr0⟩ : ∃ r0 : Nat, r0 = R.1 := ⟨_, rfl⟩
    rw [← hr0]
    have HR0 := Lib.hid hr0
    clear hr0
    by_cases h0 : r0 = 0
    · subst h0
      have HMY := Lib.hid (HG.out.may HR0.out.symm)
      go_wp2_with fail
      refine (rmay_any Aw _ cw R.2 w7 HPW7.out (HSV.out _ HB7.out)).mono ?_
      rintro e w8 ⟨rfl, hb⟩
      rw [HMY.out]
      have HE : Hid (StepTo w l (.returned (.tuple #[.slice Aw R.2.length cw, .bool true])) w8) := Lib.hid ⟨R.2, Aw, cw, .inr HMY.out, rfl, HPW7.out.below hb, HBW.out.trans ((HB7.out.trans (hb.mono HB7.out.size)).mono HBW.out.size)⟩
      clear hb
      go_wp2
      go_ret2
      exact HE.out
    · have HE : Hid (StepTo w l (.returned (.tuple #[.slice A n c, .bool true])) w7) := Lib.hid ⟨l, A, c, .inl rfl, by rw [HLN.out], by rw [HLN.out]; exact HPL.out _ HB7.out, HBW.out.trans (HB7.out.mono HBW.out.size)⟩
      have h0b : ((r0 : Int) != 0) = true := by simp [h0]
      go_wp2
      go_ret2
      exact HE.out
set_option maxHeartbeats 8000000 in
theorem step_01 (A : Option Addr) (n c : Nat) (l : List Pg) (k at_ s cl sn : Int) (w : World) (h : PS w A n c l) (hS : SZ w) (hn : n < 1000) (hat : at_ ≤ 9223372036854775807) (hs1 : -9223372036854775808 ≤ s) (hs2 : s ≤ 9223372036854775807) (hk : k = 0 ∨ k = 1) :
    Calls Tryd.prog 9 #[.slice A n c, .agg #[.int .i64 k, .int .i64 at_, .int .i64 s, .int .i64 cl, .int .u64 sn]] w (StepTo w l) := by
  obtain ⟨V, hV⟩ : ∃ V, V = w.alloc (.cells #[.int .i64 k, .int .i64 at_, .int .i64 s, .int .i64 cl, .int .u64 sn] 26) := ⟨_, rfl⟩
  have hsz : V.heap.size = w.heap.size + 1 := by rw [hV, box1]
  have hbV : Below w.heap.size w V := by rw [hV]; exact bel_alloc _ _
  have hbx : V.heap[w.heap.size]? = some (.cells #[.int .i64 k, .int .i64 at_, .int .i64 s, .int .i64 cl, .int .u64 sn] 26 (0, 0)) := by rw [hV]; exact heap_alloc_new _ _
  have HBW0 := Lib.hid hbV
  have HBX0 : Hid (∀ W, Below V.heap.size V W → W.cell? ⟨w.heap.size, 0, none⟩ = some (.int .i64 k) ∧ W.cell? ⟨w.heap.size, 1, none⟩ = some (.int .i64 at_) ∧ W.cell? ⟨w.heap.size, 2, none⟩ = some (.int .i64 s) ∧ W.cell? ⟨w.heap.size, 3, none⟩ = some (.int .i64 cl) ∧ W.cell? ⟨w.heap.size, 4, none⟩ = some (.int .u64 sn)) := Lib.hid (fun W hb => five ((hb.block _ (by omega)).trans hbx))
  have HLV0 : Hid (∀ W, Below V.heap.size V W → w.heap.size < W.heap.size) := Lib.hid (fun W hb => by have := hb.size; omega)
  have HSV0 : Hid (∀ W, Below V.heap.size V W → SZ W) := Lib.hid (fun W hb => (hS.below hbV).below hb)
  have HPL0 : Hid (∀ W, Below V.heap.size V W → PS W A n c l) := Lib.hid (fun W hb => (h.below hbV).below hb)
  have HOU := Lib.hid (ours_any A n c l V (h.below hbV) (by omega))
  have HLN := Lib.hid h.len
  have HEL : Hid (eqL l l = true) := Lib.hid ((eqL_iff _ _).2 rfl)
  have HV := Lib.hid hV
  have hcn := h.cap
  have hcm := h.capm
  clear h hS hbV hbx hsz
  rw [hV] at HOU
  clear hV
  have HAT : Hid (at_ ≤ 9223372036854775807) := Lib.hid hat
  rcases hk with rfl | rfl
  · go_enter Tryd.func9, Tryd.ntmps9
    go_wp2_with fail
    refine HOU.out.mono ?_
    rintro e w1 ⟨A3, c3', rfl, hmi, hx1, hb⟩
    clear hx1
    rw [← HV.out] at hb
    have HBX : Hid (∀ W, Below w1.heap.size w1 W → W.cell? ⟨w.heap.size, 0, none⟩ = some (.int .i64 0) ∧ W.cell? ⟨w.heap.size, 1, none⟩ = some (.int .i64 at_) ∧ W.cell? ⟨w.heap.size, 2, none⟩ = some (.int .i64 s) ∧ W.cell? ⟨w.heap.size, 3, none⟩ = some (.int .i64 cl) ∧ W.cell? ⟨w.heap.size, 4, none⟩ = some (.int .u64 sn)) := Lib.hid (fun W h2 => HBX0.out W (hb.trans (h2.mono hb.size)))
    have HLV : Hid (∀ W, Below w1.heap.size w1 W → w.heap.size < W.heap.size) := Lib.hid (fun W h2 => HLV0.out W (hb.trans (h2.mono hb.size)))
    have HSV : Hid (∀ W, Below w1.heap.size w1 W → SZ W) := Lib.hid (fun W h2 => HSV0.out W (hb.trans (h2.mono hb.size)))
    have HPL : Hid (∀ W, Below w1.heap.size w1 W → PS W A n c l) := Lib.hid (fun W h2 => HPL0.out W (hb.trans (h2.mono hb.size)))
    have HMI : Hid (∀ W, Below w1.heap.size w1 W → PS W A3 l.length c3' l) := Lib.hid (fun W h2 => hmi.below h2)
    have HBW : Hid (Below w.heap.size w w1) := Lib.hid (HBW0.out.trans (hb.mono HBW0.out.size))
    have HB1 : Hid (Below w1.heap.size w1 w1) := Lib.hid (Below.refl _ _)
    clear hmi hb
    obtain ⟨c0, c1, c2, c3, c4⟩ := HBX.out _ HB1.out
    have hlv := HLV.out _ HB1.out
    obtain ⟨R, hR⟩ : ∃ R, R = takeF l at_ s sn := ⟨_, rfl⟩
    have HRR := Lib.hid hR
    have HG : Hid (Good R) := Lib.hid (by rw [hR]; exact takeF_good _ _ _ _)
    have HEQ : Hid (eqL R.2 R.2 = true) := Lib.hid ((eqL_iff _ _).2 rfl)
    clear hR
    go_wp2_with fail
    refine (HRR.out ▸ ptake_any A3 l.length c3' l at_ s sn _ (HMI.out _ HB1.out) (HSV.out _ HB1.out) (by rw [HLN.out]; omega) HAT.out).mono ?_
    rintro e w2 ⟨Am, cm, rfl, hpm, hb⟩
    have HB2 := Lib.hid (HB1.out.trans (hb.mono HB1.out.size))
    have HPM := Lib.hid hpm
    clear hb hpm c0 c1 c2 c3 c4
    obtain ⟨c0, c1, c2, c3, c4⟩ := HBX.out _ HB2.out
    have hlv2 := HLV.out _ HB2.out
    go_wp2_with fail
    refine (HRR.out ▸ rtake_any A n c l at_ s sn _ (HPL.out _ HB2.out) (HSV.out _ HB2.out) (by omega)).mono ?_
    rintro e w3 ⟨Aw, cw, rfl, hpw, hb⟩
    have HB3 := Lib.hid (HB2.out.trans (hb.mono HB2.out.size))
    have HPM3 := Lib.hid (HPM.out.below hb)
    have HPW := Lib.hid hpw
    clear hb hpw c0 c1 c2 c3 c4
    go_wp2_with fail
    refine (plain_any Am _ cm R.2 w3 HPM3.out (by have := HG.out.len; omega)).mono ?_
    rintro e w4 ⟨Ap, cp, rfl, hpp, hx1, hb⟩
    clear hx1
    have HB4 := Lib.hid (HB3.out.trans (hb.mono HB3.out.size))
    have HPP := Lib.hid hpp
    have HPW4 := Lib.hid (HPW.out.below hb)
    clear hb hpp
    go_wp2_with fail
    refine (same_any Ap Aw _ cp _ cw R.2 R.2 w4 HPP.out HPW4.out HG.out.len).mono ?_
    rintro e w5 ⟨rfl, hb⟩
    rw [HEQ.out]
    have HB5 := Lib.hid (HB4.out.trans (hb.mono HB4.out.size))
    have HPW5 := Lib.hid (HPW4.out.below hb)
    clear hb
    go_wp2_with fail
    refine (plain_any A3 _ c3' l w5 (HMI.out _ HB5.out) (by rw [HLN.out]; omega)).mono ?_
    rintro e w6 ⟨Aq, cq, rfl, hpq, hx1, hb⟩
    clear hx1
    have HB6 := Lib.hid (HB5.out.trans (hb.mono HB5.out.size))
    have HPQ := Lib.hid hpq
    have HPW6 := Lib.hid (HPW5.out.below hb)
    clear hb hpq
    go_wp2_with fail
    refine (same_any Aq A _ cq n c l l w6 HPQ.out (HPL.out _ HB6.out) (by rw [HLN.out]; omega)).mono ?_
    rintro e w7 ⟨rfl, hb⟩
    rw [HEL.out]
    have HB7 := Lib.hid (HB6.out.trans (hb.mono HB6.out.size))
    have HPW7 := Lib.hid (HPW6.out.below hb)
    clear hb
    obtain ⟨r0, hr0⟩ : ∃ r0 : Nat, r0 = R.1 := ⟨_, rfl⟩
    rw [← hr0]
    have HR0 := Lib.hid hr0
    clear hr0
    by_cases h0 : r0 = 0
    · subst h0
      have HMY := Lib.hid (HG.out.may HR0.out.symm)
      go_wp2_with fail
      refine (rmay_any Aw _ cw R.2 w7 HPW7.out (HSV.out _ HB7.out)).mono ?_
      rintro e w8 ⟨rfl, hb⟩
      rw [HMY.out]
      have HE : Hid (StepTo w l (.returned (.tuple #[.slice Aw R.2.length cw, .bool true])) w8) := Lib.hid ⟨R.2, Aw, cw, .inr HMY.out, rfl, HPW7.out.below hb, HBW.out.trans ((HB7.out.trans (hb.mono HB7.out.size)).mono HBW.out.size)⟩
      clear hb
      go_wp2
      go_ret2
      exact HE.out
    · have HE : Hid (StepTo w l (.returned (.tuple #[.slice A n c, .bool true])) w7) := Lib.hid ⟨l, A, c, .inl rfl, by rw [HLN.out], by rw [HLN.out]; exact HPL.out _ HB7.out, HBW.out.trans (HB7.out.mono HBW.out.size)⟩
      have h0b : ((r0 : Int) != 0) = true := by simp [h0]
      go_wp2
      go_ret2
      exact HE.out
  · go_enter Tryd.func9, Tryd.ntmps9
    go_wp2_with fail
    refine HOU.out.mono ?_
    rintro e w1 ⟨A3, c3', rfl, hmi, hx1, hb⟩
    clear hx1
    rw [← HV.out] at hb
    have HBX : Hid (∀ W, Below w1.heap.size w1 W → W.cell? ⟨w.heap.size, 0, none⟩ = some (.int .i64 1) ∧ W.cell? ⟨w.heap.size, 1, none⟩ = some (.int .i64 at_) ∧ W.cell? ⟨w.heap.size, 2, none⟩ = some (.int .i64 s) ∧ W.cell? ⟨w.heap.size, 3, none⟩ = some (.int .i64 cl) ∧ W.cell? ⟨w.heap.size, 4, none⟩ = some (.int .u64 sn)) := Lib.hid (fun W h2 => HBX0.out W (hb.trans (h2.mono hb.size)))
    have HLV : Hid (∀ W, Below w1.heap.size w1 W → w.heap.size < W.heap.size) := Lib.hid (fun W h2 => HLV0.out W (hb.trans (h2.mono hb.size)))
    have HSV : Hid (∀ W, Below w1.heap.size w1 W → SZ W) := Lib.hid (fun W h2 => HSV0.out W (hb.trans (h2.mono hb.size)))
    have HPL : Hid (∀ W, Below w1.heap.size w1 W → PS W A n c l) := Lib.hid (fun W h2 => HPL0.out W (hb.trans (h2.mono hb.size)))
    have HMI : Hid (∀ W, Below w1.heap.size w1 W → PS W A3 l.length c3' l) := Lib.hid (fun W h2 => hmi.below h2)
    have HBW : Hid (Below w.heap.size w w1) := Lib.hid (HBW0.out.trans (hb.mono HBW0.out.size))
    have HB1 : Hid (Below w1.heap.size w1 w1) := Lib.hid (Below.refl _ _)
    clear hmi hb
    obtain ⟨c0, c1, c2, c3, c4⟩ := HBX.out _ HB1.out
    have hlv := HLV.out _ HB1.out
    obtain ⟨R, hR⟩ : ∃ R, R = takeF l at_ s sn := ⟨_, rfl⟩
    have HRR := Lib.hid hR
    have HG : Hid (Good R) := Lib.hid (by rw [hR]; exact takeF_good _ _ _ _)
    have HEQ : Hid (eqL R.2 R.2 = true) := Lib.hid ((eqL_iff _ _).2 rfl)
    clear hR
    go_wp2_with fail
    refine (HRR.out ▸ ptake_any A3 l.length c3' l at_ s sn _ (HMI.out _ HB1.out) (HSV.out _ HB1.out) (by rw [HLN.out]; omega) HAT.out).mono ?_
    rintro e w2 ⟨Am, cm, rfl, hpm, hb⟩
    have HB2 := Lib.hid (HB1.out.trans (hb.mono HB1.out.size))
    have HPM := Lib.hid hpm
    clear hb hpm c0 c1 c2 c3 c4
    obtain ⟨c0, c1, c2, c3, c4⟩ := HBX.out _ HB2.out
    have hlv2 := HLV.out _ HB2.out
    go_wp2_with fail
    refine (HRR.out ▸ rtake_any A n c l at_ s sn _ (HPL.out _ HB2.out) (HSV.out _ HB2.out) (by omega)).mono ?_
    rintro e w3 ⟨Aw, cw, rfl, hpw, hb⟩
    have HB3 := Lib.hid (HB2.out.trans (hb.mono HB2.out.size))
    have HPM3 := Lib.hid (HPM.out.below hb)
    have HPW := Lib.hid hpw
    clear hb hpw c0 c1 c2 c3 c4
    go_wp2_with fail
    refine (plain_any Am _ cm R.2 w3 HPM3.out (by have := HG.out.len; omega)).mono ?_
    rintro e w4 ⟨Ap, cp, rfl, hpp, hx1, hb⟩
    clear hx1
    have HB4 := Lib.hid (HB3.out.trans (hb.mono HB3.out.size))
    have HPP := Lib.hid hpp
    have HPW4 := Lib.hid (HPW.out.below hb)
    clear hb hpp
    go_wp2_with fail
    refine (same_any Ap Aw _ cp _ cw R.2 R.2 w4 HPP.out HPW4.out HG.out.len).mono ?_
    rintro e w5 ⟨rfl, hb⟩
    rw [HEQ.out]
    have HB5 := Lib.hid (HB4.out.trans (hb.mono HB4.out.size))
    have HPW5 := Lib.hid (HPW4.out.below hb)
    clear hb
    go_wp2_with fail
    refine (plain_any A3 _ c3' l w5 (HMI.out _ HB5.out) (by rw [HLN.out]; omega)).mono ?_
    rintro e w6 ⟨Aq, cq, rfl, hpq, hx1, hb⟩
    clear hx1
    have HB6 := Lib.hid (HB5.out.trans (hb.mono HB5.out.size))
    have HPQ := Lib.hid hpq
    have HPW6 := Lib.hid (HPW5.out.below hb)
    clear hb hpq
    go_wp2_with fail
    refine (same_any Aq A _ cq n c l l w6 HPQ.out (HPL.out _ HB6.out) (by rw [HLN.out]; omega)).mono ?_
    rintro e w7 ⟨rfl, hb⟩
    rw [HEL.out]
    have HB7 := Lib.hid (HB6.out.trans (hb.mono HB6.out.size))
    have HPW7 := Lib.hid (HPW6.out.below hb)
    clear hb
    obtain ⟨r0, hr0⟩ : ∃ r0 : Nat, r0 = R.1 := ⟨_, rfl⟩
    rw [← hr0]
    have HR0 := Lib.hid hr0
    clear hr0
    by_cases h0 : r0 = 0
    · subst h0
      have HMY := Lib.hid (HG.out.may HR0.out.symm)
      go_wp2_with fail
      refine (rmay_any Aw _ cw R.2 w7 HPW7.out (HSV.out _ HB7.out)).mono ?_
      rintro e w8 ⟨rfl, hb⟩
      rw [HMY.out]
      have HE : Hid (StepTo w l (.returned (.tuple #[.slice Aw R.2.length cw, .bool true])) w8) := Lib.hid ⟨R.2, Aw, cw, .inr HMY.out, rfl, HPW7.out.below hb, HBW.out.trans ((HB7.out.trans (hb.mono HB7.out.size)).mono HBW.out.size)⟩
      clear hb
      go_wp2
      go_ret2
      exact HE.out
    · have HE : Hid (StepTo w l (.returned (.tuple #[.slice A n c, .bool true])) w7) := Lib.hid ⟨l, A, c, .inl rfl, by rw [HLN.out], by rw [HLN.out]; exact HPL.out _ HB7.out, HBW.out.trans (HB7.out.mono HBW.out.size)⟩
      have h0b : ((r0 : Int) != 0) = true := by simp [h0]
      go_wp2
      go_ret2
      exact HE.out
set_option maxHeartbeats 8000000 in
theorem step_no (A : Option Addr) (n c : Nat) (l : List Pg) (k at_ s cl sn : Int) (w : World) (h : PS w A n c l) (hS : SZ w) (hn : n < 1000) (hat : at_ ≤ 9223372036854775807) (hs1 : -9223372036854775808 ≤ s) (hs2 : s ≤ 9223372036854775807) (hk : k ≠ 0 ∧ k ≠ 1 ∧ k ≠ 2 ∧ k ≠ 3 ∧ k ≠ 4 ∧ k ≠ 5) :
    Calls Tryd.prog 9 #[.slice A n c, .agg #[.int .i64 k, .int .i64 at_, .int .i64 s, .int .i64 cl, .int .u64 sn]] w (StepTo w l) := by
  obtain ⟨V, hV⟩ : ∃ V, V = w.alloc (.cells #[.int .i64 k, .int .i64 at_, .int .i64 s, .int .i64 cl, .int .u64 sn] 26) := ⟨_, rfl⟩
  have hsz : V.heap.size = w.heap.size + 1 := by rw [hV, box1]
  have hbV : Below w.heap.size w V := by rw [hV]; exact bel_alloc _ _
  have hbx : V.heap[w.heap.size]? = some (.cells #[.int .i64 k, .int .i64 at_, .int .i64 s, .int .i64 cl, .int .u64 sn] 26 (0, 0)) := by rw [hV]; exact heap_alloc_new _ _
  have HBW0 := Lib.hid hbV
  have HBX0 : Hid (∀ W, Below V.heap.size V W → W.cell? ⟨w.heap.size, 0, none⟩ = some (.int .i64 k) ∧ W.cell? ⟨w.heap.size, 1, none⟩ = some (.int .i64 at_) ∧ W.cell? ⟨w.heap.size, 2, none⟩ = some (.int .i64 s) ∧ W.cell? ⟨w.heap.size, 3, none⟩ = some (.int .i64 cl) ∧ W.cell? ⟨w.heap.size, 4, none⟩ = some (.int .u64 sn)) := Lib.hid (fun W hb => five ((hb.block _ (by omega)).trans hbx))
  have HLV0 : Hid (∀ W, Below V.heap.size V W → w.heap.size < W.heap.size) := Lib.hid (fun W hb => by have := hb.size; omega)
  have HSV0 : Hid (∀ W, Below V.heap.size V W → SZ W) := Lib.hid (fun W hb => (hS.below hbV).below hb)
  have HPL0 : Hid (∀ W, Below V.heap.size V W → PS W A n c l) := Lib.hid (fun W hb => (h.below hbV).below hb)
  have HOU := Lib.hid (ours_any A n c l V (h.below hbV) (by omega))
  have HLN := Lib.hid h.len
  have HEL : Hid (eqL l l = true) := Lib.hid ((eqL_iff _ _).2 rfl)
  have HV := Lib.hid hV
  have hcn := h.cap
  have hcm := h.capm
  clear h hS hbV hbx hsz
  rw [hV] at HOU
  clear hV
  obtain ⟨k0, k1, k2, k3, k4, k5⟩ := hk
  have b0 : (k == 0) = false := beq_eq_false_iff_ne.2 k0
  have b1 : (k == 1) = false := beq_eq_false_iff_ne.2 k1
  have b2 : (k == 2) = false := beq_eq_false_iff_ne.2 k2
  have b3 : (k == 3) = false := beq_eq_false_iff_ne.2 k3
  have b4 : (k == 4) = false := beq_eq_false_iff_ne.2 k4
  have b5 : (k == 5) = false := beq_eq_false_iff_ne.2 k5
  clear k0 k1 k2 k3 k4 k5
  go_enter Tryd.func9, Tryd.ntmps9
  go_wp2_with fail
  refine HOU.out.mono ?_
  rintro e w1 ⟨A3, c3', rfl, hmi, hx1, hb⟩
  clear hx1
  rw [← HV.out] at hb
  have HBX : Hid (∀ W, Below w1.heap.size w1 W → W.cell? ⟨w.heap.size, 0, none⟩ = some (.int .i64 k) ∧ W.cell? ⟨w.heap.size, 1, none⟩ = some (.int .i64 at_) ∧ W.cell? ⟨w.heap.size, 2, none⟩ = some (.int .i64 s) ∧ W.cell? ⟨w.heap.size, 3, none⟩ = some (.int .i64 cl) ∧ W.cell? ⟨w.heap.size, 4, none⟩ = some (.int .u64 sn)) := Lib.hid (fun W h2 => HBX0.out W (hb.trans (h2.mono hb.size)))
  have HLV : Hid (∀ W, Below w1.heap.size w1 W → w.heap.size < W.heap.size) := Lib.hid (fun W h2 => HLV0.out W (hb.trans (h2.mono hb.size)))
  have HSV : Hid (∀ W, Below w1.heap.size w1 W → SZ W) := Lib.hid (fun W h2 => HSV0.out W (hb.trans (h2.mono hb.size)))
  have HPL : Hid (∀ W, Below w1.heap.size w1 W → PS W A n c l) := Lib.hid (fun W h2 => HPL0.out W (hb.trans (h2.mono hb.size)))
  have HMI : Hid (∀ W, Below w1.heap.size w1 W → PS W A3 l.length c3' l) := Lib.hid (fun W h2 => hmi.below h2)
  have HBW : Hid (Below w.heap.size w w1) := Lib.hid (HBW0.out.trans (hb.mono HBW0.out.size))
  have HB1 : Hid (Below w1.heap.size w1 w1) := Lib.hid (Below.refl _ _)
  clear hmi hb
  obtain ⟨c0, c1, c2, c3, c4⟩ := HBX.out _ HB1.out
  have hlv := HLV.out _ HB1.out
  have HE : Hid (StepTo w l (.returned (.tuple #[.slice A n c, .bool true])) w1) := Lib.hid ⟨l, A, c, .inl rfl, by rw [HLN.out], by rw [HLN.out]; exact HPL.out _ HB1.out, HBW.out⟩
  go_wp2
  go_ret2
  exact HE.out
set_option maxHeartbeats 8000000 in
theorem step_5 (A : Option Addr) (n c : Nat) (l : List Pg) (k at_ s cl sn : Int) (w : World) (h : PS w A n c l) (hS : SZ w) (hn : n < 1000) (hat : at_ ≤ 9223372036854775807) (hs1 : -9223372036854775808 ≤ s) (hs2 : s ≤ 9223372036854775807) (hk : k = 5) :
    Calls Tryd.prog 9 #[.slice A n c, .agg #[.int .i64 k, .int .i64 at_, .int .i64 s, .int .i64 cl, .int .u64 sn]] w (StepTo w l) := by
  obtain ⟨V, hV⟩ : ∃ V, V = w.alloc (.cells #[.int .i64 k, .int .i64 at_, .int .i64 s, .int .i64 cl, .int .u64 sn] 26) := ⟨_, rfl⟩
  have hsz : V.heap.size = w.heap.size + 1 := by rw [hV, box1]
  have hbV : Below w.heap.size w V := by rw [hV]; exact bel_alloc _ _
  have hbx : V.heap[w.heap.size]? = some (.cells #[.int .i64 k, .int .i64 at_, .int .i64 s, .int .i64 cl, .int .u64 sn] 26 (0, 0)) := by rw [hV]; exact heap_alloc_new _ _
  have HBW0 := Lib.hid hbV
  have HBX0 : Hid (∀ W, Below V.heap.size V W → W.cell? ⟨w.heap.size, 0, none⟩ = some (.int .i64 k) ∧ W.cell? ⟨w.heap.size, 1, none⟩ = some (.int .i64 at_) ∧ W.cell? ⟨w.heap.size, 2, none⟩ = some (.int .i64 s) ∧ W.cell? ⟨w.heap.size, 3, none⟩ = some (.int .i64 cl) ∧ W.cell? ⟨w.heap.size, 4, none⟩ = some (.int .u64 sn)) := Lib.hid (fun W hb => five ((hb.block _ (by omega)).trans hbx))
  have HLV0 : Hid (∀ W, Below V.heap.size V W → w.heap.size < W.heap.size) := Lib.hid (fun W hb => by have := hb.size; omega)
  have HSV0 : Hid (∀ W, Below V.heap.size V W → SZ W) := Lib.hid (fun W hb => (hS.below hbV).below hb)
  have HPL0 : Hid (∀ W, Below V.heap.size V W → PS W A n c l) := Lib.hid (fun W hb => (h.below hbV).below hb)
  have HOU := Lib.hid (ours_any A n c l V (h.below hbV) (by omega))
  have HLN := Lib.hid h.len
  have HEL : Hid (eqL l l = true) := Lib.hid ((eqL_iff _ _).2 rfl)
  have HV := Lib.hid hV
  have hcn := h.cap
  have hcm := h.capm
  clear h hS hbV hbx hsz
  rw [hV] at HOU
  clear hV
  subst hk
  rcases (by omega : 1 ≤ s ∨ (s ≤ 0 ∧ -9223372036854775808 < s) ∨ s = -9223372036854775808) with hs | ⟨hs, hsl⟩ | hs
  · go_enter Tryd.func9, Tryd.ntmps9
    go_wp2_with fail
    refine HOU.out.mono ?_
    rintro e w1 ⟨A3, c3', rfl, hmi, hx1, hb⟩
    clear hx1
    rw [← HV.out] at hb
    have HBX : Hid (∀ W, Below w1.heap.size w1 W → W.cell? ⟨w.heap.size, 0, none⟩ = some (.int .i64 5) ∧ W.cell? ⟨w.heap.size, 1, none⟩ = some (.int .i64 at_) ∧ W.cell? ⟨w.heap.size, 2, none⟩ = some (.int .i64 s) ∧ W.cell? ⟨w.heap.size, 3, none⟩ = some (.int .i64 cl) ∧ W.cell? ⟨w.heap.size, 4, none⟩ = some (.int .u64 sn)) := Lib.hid (fun W h2 => HBX0.out W (hb.trans (h2.mono hb.size)))
    have HLV : Hid (∀ W, Below w1.heap.size w1 W → w.heap.size < W.heap.size) := Lib.hid (fun W h2 => HLV0.out W (hb.trans (h2.mono hb.size)))
    have HSV : Hid (∀ W, Below w1.heap.size w1 W → SZ W) := Lib.hid (fun W h2 => HSV0.out W (hb.trans (h2.mono hb.size)))
    have HPL : Hid (∀ W, Below w1.heap.size w1 W → PS W A n c l) := Lib.hid (fun W h2 => HPL0.out W (hb.trans (h2.mono hb.size)))
    have HMI : Hid (∀ W, Below w1.heap.size w1 W → PS W A3 l.length c3' l) := Lib.hid (fun W h2 => hmi.below h2)
    have HBW : Hid (Below w.heap.size w w1) := Lib.hid (HBW0.out.trans (hb.mono HBW0.out.size))
    have HB1 : Hid (Below w1.heap.size w1 w1) := Lib.hid (Below.refl _ _)
    clear hmi hb
    obtain ⟨c0, c1, c2, c3, c4⟩ := HBX.out _ HB1.out
    have hlv := HLV.out _ HB1.out
    go_wp2_with fail
    refine (rfirst_any A n c _ l _ (HPL.out _ HB1.out) (by omega) (by omega)).mono ?_
    rintro e w1' ⟨rfl, rfl⟩
    obtain ⟨fi, hfi⟩ : ∃ fi, fi = firstI l (1 + (s - 1) / 256) 0 := ⟨_, rfl⟩
    rw [← hfi]
    have HAT : Hid (fi ≤ 9223372036854775807) := Lib.hid (by rw [hfi]; rcases firstI_le l (1 + (s - 1) / 256) with h1 | h1; exact h1; rw [HLN.out] at h1; omega)
    clear hfi
    obtain ⟨R, hR⟩ : ∃ R, R = takeF l fi s sn := ⟨_, rfl⟩
    have HRR := Lib.hid hR
    have HG : Hid (Good R) := Lib.hid (by rw [hR]; exact takeF_good _ _ _ _)
    have HEQ : Hid (eqL R.2 R.2 = true) := Lib.hid ((eqL_iff _ _).2 rfl)
    clear hR
    go_wp2_with fail
    refine (HRR.out ▸ ptake_any A3 l.length c3' l fi s sn _ (HMI.out _ HB1.out) (HSV.out _ HB1.out) (by rw [HLN.out]; omega) HAT.out).mono ?_
    rintro e w2 ⟨Am, cm, rfl, hpm, hb⟩
    have HB2 := Lib.hid (HB1.out.trans (hb.mono HB1.out.size))
    have HPM := Lib.hid hpm
    clear hb hpm c0 c1 c2 c3 c4
    obtain ⟨c0, c1, c2, c3, c4⟩ := HBX.out _ HB2.out
    have hlv2 := HLV.out _ HB2.out
    go_wp2_with fail
    refine (HRR.out ▸ rtake_any A n c l fi s sn _ (HPL.out _ HB2.out) (HSV.out _ HB2.out) (by omega)).mono ?_
    rintro e w3 ⟨Aw, cw, rfl, hpw, hb⟩
    have HB3 := Lib.hid (HB2.out.trans (hb.mono HB2.out.size))
    have HPM3 := Lib.hid (HPM.out.below hb)
    have HPW := Lib.hid hpw
    clear hb hpw c0 c1 c2 c3 c4
    go_wp2_with fail
    refine (plain_any Am _ cm R.2 w3 HPM3.out (by have := HG.out.len; omega)).mono ?_
    rintro e w4 ⟨Ap, cp, rfl, hpp, hx1, hb⟩
    clear hx1
    have HB4 := Lib.hid (HB3.out.trans (hb.mono HB3.out.size))
    have HPP := Lib.hid hpp
    have HPW4 := Lib.hid (HPW.out.below hb)
    clear hb hpp
    go_wp2_with fail
    refine (same_any Ap Aw _ cp _ cw R.2 R.2 w4 HPP.out HPW4.out HG.out.len).mono ?_
    rintro e w5 ⟨rfl, hb⟩
    rw [HEQ.out]
    have HB5 := Lib.hid (HB4.out.trans (hb.mono HB4.out.size))
    have HPW5 := Lib.hid (HPW4.out.below hb)
    clear hb
    go_wp2_with fail
    refine (plain_any A3 _ c3' l w5 (HMI.out _ HB5.out) (by rw [HLN.out]; omega)).mono ?_
    rintro e w6 ⟨Aq, cq, rfl, hpq, hx1, hb⟩
    clear hx1
    have HB6 := Lib.hid (HB5.out.trans (hb.mono HB5.out.size))
    have HPQ := Lib.hid hpq
    have HPW6 := Lib.hid (HPW5.out.below hb)
    clear hb hpq
    go_wp2_with fail
    refine (same_any Aq A _ cq n c l l w6 HPQ.out (HPL.out _ HB6.out) (by rw [HLN.out]; omega)).mono ?_
    rintro e w7 ⟨rfl, hb⟩
    rw [HEL.out]
    have HB7 := Lib.hid (HB6.out.trans (hb.mono HB6.out.size))
    have HPW7 := Lib.hid (HPW6.out.below hb)
    clear hb
    obtain ⟨r0, hr0⟩ : ∃ r0 : Nat, r0 = R.1 := ⟨_, rfl⟩
    rw [← hr0]
    have HR0 := Lib.hid hr0
    clear hr0
    by_cases h0 : r0 = 0
    · subst h0
      have HMY := Lib.hid (HG.out.may HR0.out.symm)
      go_wp2_with fail
      refine (rmay_any Aw _ cw R.2 w7 HPW7.out (HSV.out _ HB7.out)).mono ?_
      rintro e w8 ⟨rfl, hb⟩
      rw [HMY.out]
      have HE : Hid (StepTo w l (.returned (.tuple #[.slice Aw R.2.length cw, .bool true])) w8) := Lib.hid ⟨R.2, Aw, cw, .inr HMY.out, rfl, HPW7.out.below hb, HBW.out.trans ((HB7.out.trans (hb.mono HB7.out.size)).mono HBW.out.size)⟩
      clear hb
      go_wp2
      go_ret2
      exact HE.out
    · have HE : Hid (StepTo w l (.returned (.tuple #[.slice A n c, .bool true])) w7) := Lib.hid ⟨l, A, c, .inl rfl, by rw [HLN.out], by rw [HLN.out]; exact HPL.out _ HB7.out, HBW.out.trans (HB7.out.mono HBW.out.size)⟩
      have h0b : ((r0 : Int) != 0) = true := by simp [h0]
      go_wp2
      go_ret2
      exact HE.out
  · obtain ⟨d, hd⟩ : ∃ d, (s - 1).tdiv 256 = d := ⟨_, rfl⟩
    have hd1 : -36028797018963969 ≤ d ∧ d ≤ 0 := by
      rw [← hd, show s - 1 = -(1 - s) by omega, Int.neg_tdiv, Int.tdiv_eq_ediv_of_nonneg (by omega)]; omega
    obtain ⟨hd1, hd2⟩ := hd1
    go_enter Tryd.func9, Tryd.ntmps9
    go_wp2_with fail
    refine HOU.out.mono ?_
    rintro e w1 ⟨A3, c3', rfl, hmi, hx1, hb⟩
    clear hx1
    rw [← HV.out] at hb
    have HBX : Hid (∀ W, Below w1.heap.size w1 W → W.cell? ⟨w.heap.size, 0, none⟩ = some (.int .i64 5) ∧ W.cell? ⟨w.heap.size, 1, none⟩ = some (.int .i64 at_) ∧ W.cell? ⟨w.heap.size, 2, none⟩ = some (.int .i64 s) ∧ W.cell? ⟨w.heap.size, 3, none⟩ = some (.int .i64 cl) ∧ W.cell? ⟨w.heap.size, 4, none⟩ = some (.int .u64 sn)) := Lib.hid (fun W h2 => HBX0.out W (hb.trans (h2.mono hb.size)))
    have HLV : Hid (∀ W, Below w1.heap.size w1 W → w.heap.size < W.heap.size) := Lib.hid (fun W h2 => HLV0.out W (hb.trans (h2.mono hb.size)))
    have HSV : Hid (∀ W, Below w1.heap.size w1 W → SZ W) := Lib.hid (fun W h2 => HSV0.out W (hb.trans (h2.mono hb.size)))
    have HPL : Hid (∀ W, Below w1.heap.size w1 W → PS W A n c l) := Lib.hid (fun W h2 => HPL0.out W (hb.trans (h2.mono hb.size)))
    have HMI : Hid (∀ W, Below w1.heap.size w1 W → PS W A3 l.length c3' l) := Lib.hid (fun W h2 => hmi.below h2)
    have HBW : Hid (Below w.heap.size w w1) := Lib.hid (HBW0.out.trans (hb.mono HBW0.out.size))
    have HB1 : Hid (Below w1.heap.size w1 w1) := Lib.hid (Below.refl _ _)
    clear hmi hb
    obtain ⟨c0, c1, c2, c3, c4⟩ := HBX.out _ HB1.out
    have hlv := HLV.out _ HB1.out
    go_wp2_with fail
    refine (rfirst_any A n c _ l _ (HPL.out _ HB1.out) (by omega) (by omega)).mono ?_
    rintro e w1' ⟨rfl, rfl⟩
    obtain ⟨fi, hfi⟩ : ∃ fi, fi = firstI l (1 + d) 0 := ⟨_, rfl⟩
    rw [← hfi]
    have HAT : Hid (fi ≤ 9223372036854775807) := Lib.hid (by rw [hfi]; rcases firstI_le l (1 + d) with h1 | h1; exact h1; rw [HLN.out] at h1; omega)
    clear hfi
    obtain ⟨R, hR⟩ : ∃ R, R = takeF l fi s sn := ⟨_, rfl⟩
    have HRR := Lib.hid hR
    have HG : Hid (Good R) := Lib.hid (by rw [hR]; exact takeF_good _ _ _ _)
    have HEQ : Hid (eqL R.2 R.2 = true) := Lib.hid ((eqL_iff _ _).2 rfl)
    clear hR
    go_wp2_with fail
    refine (HRR.out ▸ ptake_any A3 l.length c3' l fi s sn _ (HMI.out _ HB1.out) (HSV.out _ HB1.out) (by rw [HLN.out]; omega) HAT.out).mono ?_
    rintro e w2 ⟨Am, cm, rfl, hpm, hb⟩
    have HB2 := Lib.hid (HB1.out.trans (hb.mono HB1.out.size))
    have HPM := Lib.hid hpm
    clear hb hpm c0 c1 c2 c3 c4
    obtain ⟨c0, c1, c2, c3, c4⟩ := HBX.out _ HB2.out
    have hlv2 := HLV.out _ HB2.out
    go_wp2_with fail
    refine (HRR.out ▸ rtake_any A n c l fi s sn _ (HPL.out _ HB2.out) (HSV.out _ HB2.out) (by omega)).mono ?_
    rintro e w3 ⟨Aw, cw, rfl, hpw, hb⟩
    have HB3 := Lib.hid (HB2.out.trans (hb.mono HB2.out.size))
    have HPM3 := Lib.hid (HPM.out.below hb)
    have HPW := Lib.hid hpw
    clear hb hpw c0 c1 c2 c3 c4
    go_wp2_with fail
    refine (plain_any Am _ cm R.2 w3 HPM3.out (by have := HG.out.len; omega)).mono ?_
    rintro e w4 ⟨Ap, cp, rfl, hpp, hx1, hb⟩
    clear hx1
    have HB4 := Lib.hid (HB3.out.trans (hb.mono HB3.out.size))
    have HPP := Lib.hid hpp
    have HPW4 := Lib.hid (HPW.out.below hb)
    clear hb hpp
    go_wp2_with fail
    refine (same_any Ap Aw _ cp _ cw R.2 R.2 w4 HPP.out HPW4.out HG.out.len).mono ?_
    rintro e w5 ⟨rfl, hb⟩
    rw [HEQ.out]
    have HB5 := Lib.hid (HB4.out.trans (hb.mono HB4.out.size))
    have HPW5 := Lib.hid (HPW4.out.below hb)
    clear hb
    go_wp2_with fail
    refine (plain_any A3 _ c3' l w5 (HMI.out _ HB5.out) (by rw [HLN.out]; omega)).mono ?_
    rintro e w6 ⟨Aq, cq, rfl, hpq, hx1, hb⟩
    clear hx1
    have HB6 := Lib.hid (HB5.out.trans (hb.mono HB5.out.size))
    have HPQ := Lib.hid hpq
    have HPW6 := Lib.hid (HPW5.out.below hb)
    clear hb hpq
    go_wp2_with fail
    refine (same_any Aq A _ cq n c l l w6 HPQ.out (HPL.out _ HB6.out) (by rw [HLN.out]; omega)).mono ?_
    rintro e w7 ⟨rfl, hb⟩
    rw [HEL.out]
    have HB7 := Lib.hid (HB6.out.trans (hb.mono HB6.out.size))
    have HPW7 := Lib.hid (HPW6.out.below hb)
    clear hb
    obtain ⟨r0, hr0⟩ : ∃ r0 : Nat, r0 = R.1 := ⟨_, rfl⟩
    rw [← hr0]
    have HR0 := Lib.hid hr0
    clear hr0
    by_cases h0 : r0 = 0
    · subst h0
      have HMY := Lib.hid (HG.out.may HR0.out.symm)
      go_wp2_with fail
      refine (rmay_any Aw _ cw R.2 w7 HPW7.out (HSV.out _ HB7.out)).mono ?_
      rintro e w8 ⟨rfl, hb⟩
      rw [HMY.out]
      have HE : Hid (StepTo w l (.returned (.tuple #[.slice Aw R.2.length cw, .bool true])) w8) := Lib.hid ⟨R.2, Aw, cw, .inr HMY.out, rfl, HPW7.out.below hb, HBW.out.trans ((HB7.out.trans (hb.mono HB7.out.size)).mono HBW.out.size)⟩
      clear hb
      go_wp2
      go_ret2
      exact HE.out
    · have HE : Hid (StepTo w l (.returned (.tuple #[.slice A n c, .bool true])) w7) := Lib.hid ⟨l, A, c, .inl rfl, by rw [HLN.out], by rw [HLN.out]; exact HPL.out _ HB7.out, HBW.out.trans (HB7.out.mono HBW.out.size)⟩
      have h0b : ((r0 : Int) != 0) = true := by simp [h0]
      go_wp2
      go_ret2
      exact HE.out
  · obtain ⟨t, ht⟩ : ∃ t : Int, t = 9223372036854775807 := ⟨_, rfl⟩
    have hw : wrap64 (s - 1) = t := by rw [hs, ht]; first | rfl | kernel_rfl | (unfold wrap64; rfl) | (unfold wrap64; omega) | (simp [wrap64])
    have ht1 : 0 ≤ t ∧ t ≤ 9223372036854775807 := by omega
    obtain ⟨ht1, ht2⟩ := ht1
    clear hs ht
    go_enter Tryd.func9, Tryd.ntmps9
    go_wp2_with fail
    refine HOU.out.mono ?_
    rintro e w1 ⟨A3, c3', rfl, hmi, hx1, hb⟩
    clear hx1
    rw [← HV.out] at hb
    have HBX : Hid (∀ W, Below w1.heap.size w1 W → W.cell? ⟨w.heap.size, 0, none⟩ = some (.int .i64 5) ∧ W.cell? ⟨w.heap.size, 1, none⟩ = some (.int .i64 at_) ∧ W.cell? ⟨w.heap.size, 2, none⟩ = some (.int .i64 s) ∧ W.cell? ⟨w.heap.size, 3, none⟩ = some (.int .i64 cl) ∧ W.cell? ⟨w.heap.size, 4, none⟩ = some (.int .u64 sn)) := Lib.hid (fun W h2 => HBX0.out W (hb.trans (h2.mono hb.size)))
    have HLV : Hid (∀ W, Below w1.heap.size w1 W → w.heap.size < W.heap.size) := Lib.hid (fun W h2 => HLV0.out W (hb.trans (h2.mono hb.size)))
    have HSV : Hid (∀ W, Below w1.heap.size w1 W → SZ W) := Lib.hid (fun W h2 => HSV0.out W (hb.trans (h2.mono hb.size)))
    have HPL : Hid (∀ W, Below w1.heap.size w1 W → PS W A n c l) := Lib.hid (fun W h2 => HPL0.out W (hb.trans (h2.mono hb.size)))
    have HMI : Hid (∀ W, Below w1.heap.size w1 W → PS W A3 l.length c3' l) := Lib.hid (fun W h2 => hmi.below h2)
    have HBW : Hid (Below w.heap.size w w1) := Lib.hid (HBW0.out.trans (hb.mono HBW0.out.size))
    have HB1 : Hid (Below w1.heap.size w1 w1) := Lib.hid (Below.refl _ _)
    clear hmi hb
    obtain ⟨c0, c1, c2, c3, c4⟩ := HBX.out _ HB1.out
    have hlv := HLV.out _ HB1.out
    go_wp2_with fail
    refine (rfirst_any A n c _ l _ (HPL.out _ HB1.out) (by omega) (by omega)).mono ?_
    rintro e w1' ⟨rfl, rfl⟩
    obtain ⟨fi, hfi⟩ : ∃ fi, fi = firstI l (1 + t / 256) 0 := ⟨_, rfl⟩
    rw [← hfi]
    have HAT : Hid (fi ≤ 9223372036854775807) := Lib.hid (by rw [hfi]; rcases firstI_le l (1 + t / 256) with h1 | h1; exact h1; rw [HLN.out] at h1; omega)
    clear hfi
    obtain ⟨R, hR⟩ : ∃ R, R = takeF l fi s sn := ⟨_, rfl⟩
    have HRR := Lib.hid hR
    have HG : Hid (Good R) := Lib.hid (by rw [hR]; exact takeF_good _ _ _ _)
    have HEQ : Hid (eqL R.2 R.2 = true) := Lib.hid ((eqL_iff _ _).2 rfl)
    clear hR
    go_wp2_with fail
    refine (HRR.out ▸ ptake_any A3 l.length c3' l fi s sn _ (HMI.out _ HB1.out) (HSV.out _ HB1.out) (by rw [HLN.out]; omega) HAT.out).mono ?_
    rintro e w2 ⟨Am, cm, rfl, hpm, hb⟩
    have HB2 := Lib.hid (HB1.out.trans (hb.mono HB1.out.size))
    have HPM := Lib.hid hpm
    clear hb hpm c0 c1 c2 c3 c4
    obtain ⟨c0, c1, c2, c3, c4⟩ := HBX.out _ HB2.out
    have hlv2 := HLV.out _ HB2.out
    go_wp2_with fail
    refine (HRR.out ▸ rtake_any A n c l fi s sn _ (HPL.out _ HB2.out) (HSV.out _ HB2.out) (by omega)).mono ?_
    rintro e w3 ⟨Aw, cw, rfl, hpw, hb⟩
    have HB3 := Lib.hid (HB2.out.trans (hb.mono HB2.out.size))
    have HPM3 := Lib.hid (HPM.out.below hb)
    have HPW := Lib.hid hpw
    clear hb hpw c0 c1 c2 c3 c4
    go_wp2_with fail
    refine (plain_any Am _ cm R.2 w3 HPM3.out (by have := HG.out.len; omega)).mono ?_
    rintro e w4 ⟨Ap, cp, rfl, hpp, hx1, hb⟩
    clear hx1
    have HB4 := Lib.hid (HB3.out.trans (hb.mono HB3.out.size))
    have HPP := Lib.hid hpp
    have HPW4 := Lib.hid (HPW.out.below hb)
    clear hb hpp
    go_wp2_with fail
    refine (same_any Ap Aw _ cp _ cw R.2 R.2 w4 HPP.out HPW4.out HG.out.len).mono ?_
    rintro e w5 ⟨rfl, hb⟩
    rw [HEQ.out]
    have HB5 := Lib.hid (HB4.out.trans (hb.mono HB4.out.size))
    have HPW5 := Lib.hid (HPW4.out.below hb)
    clear hb
    go_wp2_with fail
    refine (plain_any A3 _ c3' l w5 (HMI.out _ HB5.out) (by rw [HLN.out]; omega)).mono ?_
    rintro e w6 ⟨Aq, cq, rfl, hpq, hx1, hb⟩
    clear hx1
    have HB6 := Lib.hid (HB5.out.trans (hb.mono HB5.out.size))
    have HPQ := Lib.hid hpq
    have HPW6 := Lib.hid (HPW5.out.below hb)
    clear hb hpq
    go_wp2_with fail
    refine (same_any Aq A _ cq n c l l w6 HPQ.out (HPL.out _ HB6.out) (by rw [HLN.out]; omega)).mono ?_
    rintro e w7 ⟨rfl, hb⟩
    rw [HEL.out]
    have HB7 := Lib.hid (HB6.out.trans (hb.mono HB6.out.size))
    have HPW7 := Lib.hid (HPW6.out.below hb)
    clear hb
    obtain ⟨r0, hr0⟩ : ∃ r0 : Nat, r0 = R.1 := ⟨_, rfl⟩
    rw [← hr0]
    have HR0 := Lib.hid hr0
    clear hr0
    by_cases h0 : r0 = 0
    · subst h0
      have HMY := Lib.hid (HG.out.may HR0.out.symm)
      go_wp2_with fail
      refine (rmay_any Aw _ cw R.2 w7 HPW7.out (HSV.out _ HB7.out)).mono ?_
      rintro e w8 ⟨rfl, hb⟩
      rw [HMY.out]
      have HE : Hid (StepTo w l (.returned (.tuple #[.slice Aw R.2.length cw, .bool true])) w8) := Lib.hid ⟨R.2, Aw, cw, .inr HMY.out, rfl, HPW7.out.below hb, HBW.out.trans ((HB7.out.trans (hb.mono HB7.out.size)).mono HBW.out.size)⟩
      clear hb
      go_wp2
      go_ret2
      exact HE.out
    · have HE : Hid (StepTo w l (.returned (.tuple #[.slice A n c, .bool true])) w7) := Lib.hid ⟨l, A, c, .inl rfl, by rw [HLN.out], by rw [HLN.out]; exact HPL.out _ HB7.out, HBW.out.trans (HB7.out.mono HBW.out.size)⟩
      have h0b : ((r0 : Int) != 0) = true := by simp [h0]
      go_wp2
      go_ret2
      exact HE.out
theorem step_any (A : Option Addr) (n c : Nat) (l : List Pg) (k at_ s cl sn : Int) (w : World) (h : PS w A n c l) (hS : SZ w) (hn : n < 1000) (hat : at_ ≤ 9223372036854775807) (hs1 : -9223372036854775808 ≤ s) (hs2 : s ≤ 9223372036854775807) :
    Calls Tryd.prog 9 #[.slice A n c, .agg #[.int .i64 k, .int .i64 at_, .int .i64 s, .int .i64 cl, .int .u64 sn]] w (StepTo w l) := by
  by_cases h01 : k = 0 ∨ k = 1
  · exact step_01 A n c l k at_ s cl sn w h hS hn hat hs1 hs2 h01
  by_cases h2 : k = 2
  · exact step_2 A n c l k at_ s cl sn w h hS hn hat hs1 hs2 h2
  by_cases h34 : k = 3 ∨ k = 4
  · exact step_34 A n c l k at_ s cl sn w h hS hn hat hs1 hs2 h34
  by_cases h5 : k = 5
  · exact step_5 A n c l k at_ s cl sn w h hS hn hat hs1 hs2 h5
  exact step_no A n c l k at_ s cl sn w h hS hn hat hs1 hs2 (by omega)
theorem few_big (b o n c : Nat) (l : List Pg) (w : World) (h : PS w (some ⟨b, o, none⟩) n c l) (hn : 70 < n) : Calls Tryd.prog 11 #[.slice (some ⟨b, o, none⟩) n c] w fun e w' => e = .returned (.slice (some ⟨b, o, none⟩) 70 c) ∧ w = w' := by
  have hcn := h.cap
  have hcm := h.capm
  have h1 : (70 : Int) < (n : Int) := by omega
  clear h
  go_enter Tryd.func11, Tryd.ntmps11
  go_wp2
  go_ret
  exact ⟨rfl, rfl⟩
theorem few_small (A : Option Addr) (n c : Nat) (w : World) (hn : n ≤ 70) : Calls Tryd.prog 11 #[.slice A n c] w fun e w' => e = .returned (.slice A n c) ∧ w = w' := by
  have h1 : ¬ (70 : Int) < (n : Int) := by omega
  go_enter Tryd.func11, Tryd.ntmps11
  go_wp2
  go_ret
  exact ⟨rfl, rfl⟩
/-- the first seventy -/
theorem few_any (A : Option Addr) (n c : Nat) (l : List Pg) (w : World) (h : PS w A n c l) : Calls Tryd.prog 11 #[.slice A n c] w fun e w' => e = .returned (.slice A (l.take 70).length c) ∧ w = w' ∧ PS w A (l.take 70).length c (l.take 70) := by
  have hl := h.len
  by_cases hn : 70 < n
  · obtain ⟨b, o, rfl, h2, h3⟩ := h.at_ (by omega)
    have e : (l.take 70).length = 70 := by rw [List.length_take]; omega
    rw [e]
    refine (few_big b o n c l w h hn).mono ?_
    rintro en w' ⟨rfl, rfl⟩
    refine ⟨rfl, rfl, e, by have := h.cap; omega, h.capm, (fun q => by cases q), fun _ => ⟨b, o, rfl, h2, fun i hi => ?_⟩⟩
    have := h3 i (by omega)
    have e2 : pg (l.take 70) i = pg l i := by
      simp only [List.getD_eq_getElem?_getD]
      rw [List.getElem?_take_of_lt hi]
    rw [e2]; exact this
  · have e : l.take 70 = l := List.take_of_length_le (by omega)
    rw [e, hl]
    refine (few_small A n c w (by omega)).mono ?_
    rintro en w' ⟨rfl, rfl⟩
    exact ⟨rfl, rfl, h⟩
end Go.Proofs.YtajgbflmfopfoaaDoor
