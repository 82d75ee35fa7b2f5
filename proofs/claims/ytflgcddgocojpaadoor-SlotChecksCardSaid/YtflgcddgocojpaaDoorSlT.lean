/-
  Layer 18: all that is told of a page is the document's.
-/
import Derived.Test.YtflgcddgocojpaaDoorSlS
namespace Go.Proofs.YtflgcddgocojpaaDoor
open Go.RowKit Go
set_option linter.unusedVariables false
set_option linter.unusedSimpArgs false
set_option maxHeartbeats 1000000

def SaR (w : World) (l : List Ob) (S : Nat) (nv iv : Value) (wr : World) : Prop := ∃ j : Nat, iv = .int .i64 ((j : Int) - 1) ∧ nv = .int .i64 ((cntF (freeO l) (min (j - 1) S) : Nat) : Int) ∧ j ≤ S + 2 ∧ Below w.heap.size w wr
theorem hasO_nat {l : List Ob} {j : Nat} (h : hasO l ((j : Int) - 1) = true) : ∃ i, j = i + 1 ∧ i < l.length ∧ freeO l i = false ∧ (oAt l i).1 ≠ 0 := by
  unfold hasO at h
  obtain ⟨h1, h2, h3⟩ := of_decide_eq_true h
  refine ⟨j - 1, by omega, by omega, ?_, ?_⟩
  · unfold freeO
    rw [decide_eq_false_iff_not, show j - 1 = ((j : Int) - 1).toNat by omega]; omega
  · rw [show j - 1 = ((j : Int) - 1).toNat by omega]; omega
theorem hasO_no {l : List Ob} {j : Nat} (h : hasO l ((j : Int) - 1) = false) : cntF (freeO l) (min (j + 1 - 1) l.length) = cntF (freeO l) (min (j - 1) l.length) := by
  unfold hasO at h
  have h1 := of_decide_eq_false h
  rcases Nat.eq_zero_or_pos j with rfl | hj
  · rfl
  · by_cases hl : j - 1 < l.length
    · have hf : freeO l (j - 1) = true := by
        unfold freeO
        rw [decide_eq_true_iff]
        rw [show ((j : Int) - 1).toNat = j - 1 by omega] at h1
        omega
      rw [show min (j + 1 - 1) l.length = (j - 1) + 1 by omega, cntF_succ, hf, show min (j - 1) l.length = j - 1 by omega]
      simp
    · rw [show min (j + 1 - 1) l.length = min (j - 1) l.length by omega]
theorem same18_any (k b q c n cl : Nat) (A : Option Addr) (l : List Ob) (w : World) (hS : SZ w) (hk : k < 8) (hl : OkL (clZ k) (clS k) l) (hn : n = clS k) (hv : ObV w A n l) (hs : BS w w.heap.size (some ⟨b, q, none⟩) 256 c (pageO (clZ k) l)) :
    Calls Tryd.prog 9 #[.slice (some ⟨b, q, none⟩) 256 c, .slice A n cl, .int .i64 (k : Int)] w fun e w' => e = .returned (.bool true) ∧ Below w.heap.size w w' := by
  subst hn
  obtain ⟨z1, z2, z3, z4, z5, -⟩ := cl_fits k hk
  have hm := mayP_page (z := clZ k) (S := clS k) (l := l) (by omega) z2 z3 hl
  have HG := Lib.hid (fun i wr (h : Below w.heap.size w wr) => get18_any k b q c i _ wr (hS.below h) hk ((hs.below h).more h.size))
  have HT := Lib.hid (fun i wr (h : Below w.heap.size w wr) => there_any A (clS k) cl i l wr (hv.below h) (by omega))
  have HU := Lib.hid (fun wr (h : Below w.heap.size w wr) => used_any k b q c _ wr (hS.below h) hk ((hs.below h).more h.size) hm)
  have HCK := Lib.hid (fun wr (h : Below w.heap.size w wr) => check_yes k b q c _ wr (hS.below h) hk ((hs.below h).more h.size))
  rw [hm] at HCK
  unfold mayE at HCK
  have HHO := Lib.hid (fun i => has_o z1 z2 z3 hl i)
  have HDE := Lib.hid (fun i (hi : i < clS k) => dec_o z1 z2 z3 hl hi)
  have HCN : Hid (cntF (freeB (clZ k) (pageO (clZ k) l)) (clS k) = cntF (freeO l) (clS k)) := Lib.hid (cntF_congr fun i hi => free_o z1 z2 z3 hl hi)
  rw [HCN.out] at HU
  have HV := Lib.hid hv
  have hlen := hl.len
  clear hs hS hv hl HCN
  unfold GetTo at HG
  rw [hm] at HG
  clear hm
  generalize pageO (clZ k) l = pg at *
  generalize clZ k = z at *
  generalize clS k = S at *
  go_enter Tryd.func9, Tryd.ntmps9
  go_wp2_with fail
  go_loopw [7, 8] (fun nv iv wr => SaR w l S nv iv wr) (fun _ iv _ => (S + 1 - intOf iv).toNat)
  case atStart => exact ⟨0, by simp, rfl, by omega, Below.refl _ _⟩
  case round =>
    obtain ⟨j, rfl, rfl, hj, hb⟩ := hrel
    have HB := Lib.hid hb
    have hcn := cntF_le (freeO l) (min (j - 1) S)
    by_cases hlt : j < S + 2
    · have hlI : (j : Int) - 1 ≤ (S : Int) := by omega
      have hwj : IntKind.i64.wrap ((j : Int) - 1 + 1) = (j : Int) := by rw [IntWalk.i64_in _ (by omega)]; omega
      have HG1 := Lib.hid (HG.out ((j : Int) - 1) wr hb)
      have HT1 := Lib.hid (fun w2 h => HT.out ((j : Int) - 1) w2 (hb.trans (Below.mono h hb.size)))
      have HH1 := Lib.hid (HHO.out ((j : Int) - 1))
      clear HG HT HHO HU HCK
      cases hh : hasO l ((j : Int) - 1)
      · have HNX : Hid (∀ w', Below w.heap.size w w' → SaR w l S (.int .i64 ((cntF (freeO l) (min (j - 1) S) : Nat) : Int)) (.int .i64 (j : Int)) w') := Lib.hid (fun w' h => ⟨j + 1, by congr 1; omega, by have := hasO_no hh; rw [hlen] at this; rw [this], by omega, h⟩)
        have hnh : ¬ Has z S pg ((j : Int) - 1) := fun h => by rw [HH1.out.1 h] at hh; cases hh
        rw [hh] at HT1
        clear hb HDE HH1 hh
        have hj1 : (j : Int) ≤ (j : Int) - 1 + 1 := by omega
        have hj2 : (j : Int) - 1 + 1 ≤ (j : Int) := by omega
        generalize (j : Int) - 1 = ji at *
        generalize cntF (freeO l) (min (j - 1) S) = cn at *
        go_wp2_with fail
        refine HG1.out.mono ?_
        rintro e w1 (⟨hm, _⟩ | ⟨_, _, rfl, hb1⟩ | ⟨_, hh, _⟩)
        · cases hm
        · have HB1 := Lib.hid (HB.out.trans (hb1.mono HB.out.size))
          have HT2 := Lib.hid (HT1.out w1 hb1)
          clear hb1 hnh
          go_wp2_with fail
          refine HT2.out.mono ?_
          rintro e w2 ⟨rfl, rfl⟩
          go_wp2_with fail
          go_roundw
          case rel => exact HNX.out _ HB1.out
          case measure => simp [intOf]; omega
        · exact absurd hh hnh
      · obtain ⟨i, rfl, hil, hfr, hs0⟩ := hasO_nat hh
        have hH : Has z S pg (((i + 1 : Nat) : Int) - 1) := HH1.out.2 hh
        have hei : (((i + 1 : Nat) : Int) - 1) = (i : Int) := by omega
        have hD := HDE.out i (by omega)
        rw [hh] at HT1
        rw [hei] at HG1 HT1 hH hwj hlI
        rw [hei]
        have HNX : Hid (∀ w', Below w.heap.size w w' → SaR w l S (.int .i64 (((cntF (freeO l) i : Nat) : Int) + 1)) (.int .i64 ((i + 1 : Nat) : Int)) w') := Lib.hid (fun w' h => ⟨i + 2, by congr 1; omega, by rw [show min (i + 2 - 1) S = i + 1 by omega, cntF_succ, hfr]; rfl, by omega, h⟩)
        rw [show min (i + 1 - 1) S = i by omega] at hcn ⊢
        obtain ⟨bo, o, A1, c1, rfl, hb0, q0, q1, q2, q3⟩ := HV.out.at_ (show i < S by omega)
        have HQ0 := Lib.hid q0
        have HQ1 := Lib.hid q1
        have HQ2 := Lib.hid q2
        have hwI : IntKind.i64.wrap ((i : Int) + 1) = ((i + 1 : Nat) : Int) := by rw [IntWalk.i64_in _ (by omega)]; omega
        clear hb HDE HH1 hh hei hwj hfr q0 q1 q2 q3
        rw [show decO (winL pg z (i : Int).toNat) = oAt l i by rw [Int.toNat_natCast]; exact hD] at HG1
        clear hD
        generalize cntF (freeO l) i = cn at *
        generalize oAt l i = oo at *
        obtain ⟨s, d⟩ := oo
        dsimp only at *
        go_wp2_with fail
        refine HG1.out.mono ?_
        rintro e w1 (⟨hm, _⟩ | ⟨_, hnh, _⟩ | ⟨_, _, A2, n2, rfl, hbs, hb1⟩)
        · cases hm
        · exact absurd hH hnh
        · have HB1 := Lib.hid (HB.out.trans (hb1.mono HB.out.size))
          have HT2 := Lib.hid (HT1.out w1 hb1)
          have p0 : w1.cell? ⟨bo, o + i * 2, none⟩ = some (.int .u64 (s : Int)) := (HB1.out.cell (p := ⟨bo, o + i * 2, none⟩) hb0).trans HQ0.out
          have p1 : w1.cell? ⟨bo, o + i * 2 + 1, none⟩ = some (.slice A1 d.length c1) := (HB1.out.cell (p := ⟨bo, o + i * 2 + 1, none⟩) hb0).trans HQ1.out
          have hc1 : ∀ m, (convert 23 9 (.slice A1 d.length c1)).run Tryd.prog (w1.drewN m) = .ok (.string (str d)) (w1.drewN m) := fun m => conv_at (HQ2.out.below (below_drewN HB1.out m))
          have hc2 : ∀ m, (convert 23 9 (.slice A2 n2 n2)).run Tryd.prog (w1.drewN m) = .ok (.string (str d)) (w1.drewN m) := fun m => conv_at (hbs.below (below_drewN (Below.refl _ w1) m))
          have HF : Hid (∀ m, Below w.heap.size w (w1.drewN m)) := Lib.hid (fun m => below_drewN HB1.out m)
          have hself : ((str d).toList == (str d).toList) = true := by simp
          have hbo : bo < w1.heap.size := Nat.lt_of_lt_of_le hb0 HB1.out.size
          clear hb1 hH hbs
          generalize str d = sd at *
          generalize d.length = dn at *
          go_wp2_with fail
          refine HT2.out.mono ?_
          rintro e w2 ⟨rfl, rfl⟩
          go_wp2_with fail
          go_quiet (fail)
          go_wp2_with fail
          go_roundw
          case rel => exact HNX.out _ (HF.out _)
          case measure => simp [intOf]; omega
    · obtain rfl : j = S + 2 := by omega
      have hlI : ¬ ((S + 2 : Nat) : Int) - 1 ≤ (S : Int) := by omega
      have HU1 := Lib.hid (HU.out wr hb)
      have HK1 := Lib.hid (fun w2 h => HCK.out w2 (hb.trans (Below.mono h hb.size)))
      rw [show min (S + 2 - 1) S = S by omega] at hcn ⊢
      clear hb HG HT HU HCK HHO HDE
      generalize cntF (freeO l) S = cn at *
      generalize ((S + 2 : Nat) : Int) - 1 = ji at *
      go_wp2_with fail
      refine HU1.out.mono ?_
      rintro e w1 ⟨rfl, hb1⟩
      have HB1 := Lib.hid (HB.out.trans (hb1.mono HB.out.size))
      have HK2 := Lib.hid (HK1.out w1 hb1)
      clear hb1
      go_wp2_with fail
      refine HK2.out.mono ?_
      rintro e w2 ⟨rfl, hb2⟩
      have HB2 := Lib.hid (HB1.out.trans (hb2.mono HB1.out.size))
      clear hb2
      go_wp2_with fail
      go_ret
      exact ⟨rfl, HB2.out⟩
end Go.Proofs.YtflgcddgocojpaaDoor
