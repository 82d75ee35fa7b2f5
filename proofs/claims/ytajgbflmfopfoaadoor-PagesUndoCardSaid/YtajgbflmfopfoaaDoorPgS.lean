/-
  PagesUndo.
-/
import Derived.Test.YtajgbflmfopfoaaDoorPgR
namespace Go.Proofs.YtajgbflmfopfoaaDoor
open Go.RowKit Go Go.WideShapes Go.ChangeShapes Go.Deep
set_option linter.unusedVariables false
set_option linter.unusedSimpArgs false
set_option maxRecDepth 100000
theorem andN (c : Int) (m : Nat) (hm : m < 9223372036854775808) : ∃ r : Nat, r ≤ m ∧ bits BinOp.and .i64 c (m : Int) = (r : Int) := by
  have h : (BitVec.ofInt 64 c &&& BitVec.ofInt 64 (m : Int)).toNat ≤ m := by
    rw [BitVec.toNat_and]
    have e : (BitVec.ofInt 64 (m : Int)).toNat = m := by simp; omega
    rw [e]
    exact Nat.and_le_right
  refine ⟨(BitVec.ofInt 64 c &&& BitVec.ofInt 64 (m : Int)).toNat, h, ?_⟩
  show IntKind.i64.wrap (((BitVec.ofInt 64 c &&& BitVec.ofInt 64 (m : Int)).toNat : Nat) : Int) = _
  exact IntWalk.i64_in _ (by omega)
theorem firA_le (l : List Pg) (m : Int) (h : l.length < 1000) : firA l m ≤ 9223372036854775807 := by
  unfold firA
  split
  · decide
  · rcases firstI_le l m with h1 | h1
    · exact h1
    · omega
/-- where something was taken there was a place -/
theorem taken_first {l : List Pg} {a s n : Int} (h : (takeF l a s n).1 = 0) : firstI l ((s + 255) / 256) 0 ≠ -1 ∧ firstI l ((s + 255) / 256) 0 ≤ a := by
  obtain ⟨_, h1, h2, _, _, h5, h6⟩ := takeF_ok h
  have hr := run_pos h1 h2
  obtain ⟨k1, _, _, _⟩ := free_part h6 hr.1
  have := firstI_least l ((s + 255) / 256) _ 0 (Nat.le_refl _) a.toNat (Nat.zero_le _) (by omega) (by omega) h6
  omega
set_option maxHeartbeats 4000000 in
theorem undo_any (z0 : Int) (w0 : (Lit.int .u8 z0).wf = true) (A : Option Addr) (n c : Nat) (l : List Pg) (sz sn : Int) (w : World) (h : PS w A n c l) (hf : Fit l n) (hS : SZ w) :
    Calls Tryd.prog 8 #[.int .u8 z0, .slice A n c, .int .i64 sz, .int .u64 sn] w fun e w' => e = .returned (.bool true) ∧ Below w.heap.size w w' := by
  obtain ⟨z, hz, rfl⟩ := nat_u8 w0
  obtain ⟨m, hm⟩ : ∃ m : Nat, (z : Int) % 65 = (m : Int) := ⟨z % 65, by omega⟩
  have hm65 : m < 65 := by omega
  have hmk : ∀ w : World, (Instr.makeSlice RS (.int .i64 ((z : Int) % 65)) (.int .i64 ((z : Int) % 65))).run Tryd.prog w = .ok (.slice (some ⟨w.heap.size, 0, none⟩) m m) (w.alloc (.cells (zrow m) RT)) := fun w => by rw [hm]; exact make_row kdR m (by omega) w
  clear hm
  obtain ⟨s, hs, hand⟩ := andN sz 4095 (by omega)
  rw [show ((4095 : Nat) : Int) = 4095 from rfl] at hand
  have HAND := Lib.hid hand
  have HP := Lib.hid h
  have HF := Lib.hid hf
  have HS := Lib.hid hS
  have hcn := h.cap
  have hcm := h.capm
  have H0 : Hid (AtW w w.heap.size (.slice (some ⟨w.heap.size, 0, none⟩) m m) (.bool true) (w.alloc (.cells (zrow m) RT))) := Lib.hid (by
    have h1 := zrow_ps w RT m (by omega)
    have e : m = (List.replicate m pz).length := List.length_replicate.symm
    refine ⟨List.replicate m pz, _, m, by rw [← e], rfl, by rw [← e]; exact h1, may_zeros m (by omega), bel_alloc _ _⟩)
  clear h hf hS w0 hand
  go_enter Tryd.func8, Tryd.ntmps8
  go_wp2
  go_loopw [9, 10, 25] (fun v b i W => AtW w w.heap.size v b W ∧ ∃ k : Nat, i = .int .i64 (k : Int) ∧ k ≤ n) (fun _ _ i _ => n - (intOf i).toNat)
  case atStart => exact ⟨H0.out, 0, rfl, Nat.zero_le _⟩
  case round =>
    obtain ⟨⟨l1, A1, c1, rfl, rfl, hp1, hm1, hb1⟩, k, rfl, hk⟩ := hrel
    have HP1 := Lib.hid hp1
    have HM1 := Lib.hid hm1
    have HB1 := Lib.hid hb1
    clear hp1 hm1 hb1 hmk
    by_cases hlt : k < n
    · obtain ⟨b, o, rfl, hb0, hcell⟩ := HP.out.cells (by omega)
      have hbW := (hcell _ HB1.out).1
      obtain ⟨c0, c1, c2, c3, c4⟩ := (hcell _ HB1.out).2 k hlt
      have hfk := HF.out k hlt
      generalize pg l k = p at *
      have HFK := Lib.hid hfk
      have hltI : (k : Int) < (n : Int) := by omega
      clear hcell hfk
      by_cases h30 : k < 30
      · have h30I : (k : Int) < 30 := by omega
        go_wp2_with fail
        refine (step_at HS.out rfl HP1.out HM1.out HB1.out p HFK.out).mono ?_
        rintro e w2 ⟨A2, c2', l2, rfl, hat⟩
        have HAT := Lib.hid hat
        clear hat
        go_wp2
        go_roundw
        case rel => exact ⟨HAT.out, k + 1, by go_num, by omega⟩
        case measure => simp [intOf]; omega
      · have h30I : ¬ (k : Int) < 30 := by omega
        have HAT : Hid (AtW w w.heap.size (.slice A1 l1.length _) (.bool true) (wr.alloc (.cells #[.int .i64 p.k, .int .i64 p.c, .int .i64 p.r, .int .i64 p.s, .int .u64 p.n] OpT))) := Lib.hid ⟨l1, A1, _, rfl, rfl, HP1.out.below (bel_alloc _ _), HM1.out, HB1.out.trans ((bel_alloc _ _).mono HB1.out.size)⟩
        go_wp2
        go_roundw
        case rel => exact ⟨HAT.out, k + 1, by go_num, by omega⟩
        case measure => simp [intOf]; omega
    · have hltI : ¬ (k : Int) < (n : Int) := by omega
      have h64 := (mayL_iff.1 HM1.out).1
      have hand := HAND.out
      go_wp2_with fail
      refine (ours_any A1 _ c1 l1 wr HP1.out (by omega)).mono ?_
      rintro e w1 ⟨A3, c3, rfl, hp3, hx1, hb⟩
      have HB2 := Lib.hid (HB1.out.trans (hb.mono HB1.out.size))
      have HP2 := Lib.hid (HP1.out.below hb)
      have HP3 := Lib.hid hp3
      clear hp3 hx1 hb
      go_wp2_with fail
      refine (pfirst_any A3 _ c3 l1 (((s : Int) + 255) / 256) w1 HP3.out (HS.out.below HB2.out) (by omega)).mono ?_
      rintro e w2 ⟨rfl, hb⟩
      have HB3 := Lib.hid (HB2.out.trans (hb.mono HB2.out.size))
      have HP4 := Lib.hid (HP2.out.below hb)
      clear hb
      obtain ⟨a, ha⟩ : ∃ a, a = firA l1 (((s : Int) + 255) / 256) := ⟨_, rfl⟩
      obtain ⟨is, his⟩ : ∃ is, is = firB l1 (((s : Int) + 255) / 256) := ⟨_, rfl⟩
      rw [← ha, ← his]
      have HA := Lib.hid ha
      have HI := Lib.hid his
      clear ha his
      go_wp2_with fail
      refine (ours_any A1 _ c1 l1 w2 HP4.out (by omega)).mono ?_
      rintro e w3 ⟨A4, c4, rfl, hp4, hx1, hb⟩
      have HB4 := Lib.hid (HB3.out.trans (hb.mono HB3.out.size))
      have HP5 := Lib.hid (HP4.out.below hb)
      have HP6 := Lib.hid hp4
      clear hp4 hx1 hb
      obtain ⟨R, hR⟩ : ∃ R, R = takeF l1 a (s : Int) sn := ⟨_, rfl⟩
      have HRR := Lib.hid hR
      have HG : Hid (Good R) := Lib.hid (by rw [hR]; exact takeF_good _ _ _ _)
      clear hR
      go_wp2_with fail
      refine (HRR.out ▸ ptake_any A4 _ c4 l1 a (s : Int) sn w3 HP6.out (HS.out.below HB4.out) (by omega) (by rw [HA.out]; exact firA_le _ _ (by omega))).mono ?_
      rintro e w4 ⟨A5, c5, rfl, hp5, hb⟩
      have HB5 := Lib.hid (HB4.out.trans (hb.mono HB4.out.size))
      have HP7 := Lib.hid (HP5.out.below hb)
      have HP8 := Lib.hid hp5
      clear hp5 hb
      obtain ⟨r0, hr0⟩ : ∃ r0 : Nat, r0 = R.1 := ⟨_, rfl⟩
      rw [← hr0]
      have HR0 := Lib.hid hr0
      clear hr0
      by_cases h0 : r0 = 0
      · subst h0
        have HT0 : Hid ((takeF l1 a (s : Int) sn).1 = 0) := Lib.hid (by rw [← HRR.out]; exact HR0.out.symm)
        have HGV : Hid (giveF R.2 a = (0, l1)) := Lib.hid (by rw [HRR.out]; exact (undo HT0.out).2)
        have HIS : Hid (is = true) := Lib.hid (by
          have := (taken_first HT0.out).1
          rw [HI.out]; exact decide_eq_true this)
        rw [HIS.out]
        have HC := Lib.hid (pgive_any A5 _ c5 R.2 a w4 HP8.out (HS.out.below HB5.out) (HG.out.len))
        rw [HGV.out] at HC
        go_wp2_with fail
        refine HC.out.mono ?_
        rintro e w5 ⟨A6, c6, rfl, hp6, hb⟩
        have HB6 := Lib.hid (HB5.out.trans (hb.mono HB5.out.size))
        have HP9 := Lib.hid (HP7.out.below hb)
        have HPA := Lib.hid hp6
        clear hp6 hb
        go_wp2_with fail
        refine (plain_any A6 _ c6 l1 w5 HPA.out (by show l1.length < 1000000; omega)).mono ?_
        rintro e w6 ⟨A7, c7, rfl, hp7, hx1, hb⟩
        have HB7 := Lib.hid (HB6.out.trans (hb.mono HB6.out.size))
        have HPB := Lib.hid (HP9.out.below hb)
        have HPC := Lib.hid hp7
        clear hp7 hx1 hb
        go_wp2_with fail
        refine (same_any A7 A1 _ c7 _ c1 l1 l1 w6 HPC.out HPB.out (by omega)).mono ?_
        rintro e w7 ⟨rfl, hb⟩
        rw [(eqL_iff l1 l1).2 rfl]
        have HB8 := Lib.hid (HB7.out.trans (hb.mono HB7.out.size))
        clear hb
        go_wp2_with fail
        refine (awake19_any _ (HS.out.below HB8.out)).mono ?_
        rintro e w8 ⟨rfl, hb⟩
        have HB9 := Lib.hid (HB8.out.trans (hb.mono HB8.out.size))
        clear hb
        go_wp2
        go_ret
        exact ⟨rfl, HB9.out⟩
      · have h0b : ((r0 : Int) != 0) = true := by simp [h0]
        go_wp2_with fail
        refine (awake19_any _ (HS.out.below HB5.out)).mono ?_
        rintro e w8 ⟨rfl, hb⟩
        have HB9 := Lib.hid (HB5.out.trans (hb.mono HB5.out.size))
        clear hb
        go_wp2
        go_ret
        exact ⟨rfl, HB9.out⟩
end Go.Proofs.YtajgbflmfopfoaaDoor
