/-
  PagesFirst.
-/
import Derived.Test.YtajgbflmfopfoabDoorPgR
namespace Go.Proofs.YtajgbflmfopfoabDoor
open Go.RowKit Go Go.WideShapes Go.ChangeShapes Go.Deep
set_option linter.unusedVariables false
set_option linter.unusedSimpArgs false
set_option maxRecDepth 100000
theorem andN' (c : Int) (m : Nat) (hm : m < 9223372036854775808) : ∃ r : Nat, r ≤ m ∧ bits BinOp.and .i64 c (m : Int) = (r : Int) := by
  have h : (BitVec.ofInt 64 c &&& BitVec.ofInt 64 (m : Int)).toNat ≤ m := by
    rw [BitVec.toNat_and]
    have e : (BitVec.ofInt 64 (m : Int)).toNat = m := by simp; omega
    rw [e]
    exact Nat.and_le_right
  refine ⟨(BitVec.ofInt 64 c &&& BitVec.ofInt 64 (m : Int)).toNat, h, ?_⟩
  show IntKind.i64.wrap (((BitVec.ofInt 64 c &&& BitVec.ofInt 64 (m : Int)).toNat : Nat) : Int) = _
  exact IntWalk.i64_in _ (by omega)
/-- where something was taken there was a place -/
theorem taken_first' {l : List Pg} {a s n : Int} (h : (takeF l a s n).1 = 0) : firstI l ((s + 255) / 256) 0 ≠ -1 ∧ firstI l ((s + 255) / 256) 0 ≤ a := by
  obtain ⟨_, h1, h2, _, _, h5, h6⟩ := takeF_ok h
  have hr := run_pos h1 h2
  obtain ⟨k1, _, _, _⟩ := free_part h6 hr.1
  have := firstI_least l ((s + 255) / 256) _ 0 (Nat.le_refl _) a.toNat (Nat.zero_le _) (by omega) (by omega) h6
  omega
/-- the first place is one -/
theorem first_taken {l : List Pg} {s : Int} (hm : mayL l = true) (h1 : 121 ≤ s) (h2 : s ≤ 4096) (h : firstI l ((s + 255) / 256) 0 ≠ -1) : (takeF l (firstI l ((s + 255) / 256) 0) s 1).1 = 0 ∧ 0 ≤ firstI l ((s + 255) / 256) 0 ∧ firstI l ((s + 255) / 256) 0 < (l.length : Int) := by
  rcases firstI_neg l ((s + 255) / 256) _ 0 (Nat.le_refl _) with hq | ⟨k1, k2, k3, k4⟩
  · exact absurd hq h
  · rw [takeF_yes hm h1 h2 (by decide) (by decide) (by omega) k4]
    exact ⟨rfl, by omega, k2⟩
set_option maxHeartbeats 4000000 in
theorem first19_any (z0 : Int) (w0 : (Lit.int .u8 z0).wf = true) (A : Option Addr) (n c : Nat) (l : List Pg) (sz : Int) (w : World) (h : PS w A n c l) (hf : Fit l n) (hS : SZ w) :
    Calls Tryd.prog 3 #[.int .u8 z0, .slice A n c, .int .i64 sz] w fun e w' => e = .returned (.bool true) ∧ Below w.heap.size w w' := by
  obtain ⟨z, hz, rfl⟩ := nat_u8 w0
  obtain ⟨m, hm⟩ : ∃ m : Nat, (z : Int) % 65 = (m : Int) := ⟨z % 65, by omega⟩
  have hm65 : m < 65 := by omega
  have hmk : ∀ w : World, (Instr.makeSlice RS (.int .i64 ((z : Int) % 65)) (.int .i64 ((z : Int) % 65))).run Tryd.prog w = .ok (.slice (some ⟨w.heap.size, 0, none⟩) m m) (w.alloc (.cells (zrow m) RT)) := fun w => by rw [hm]; exact make_row kdR m (by omega) w
  clear hm
  obtain ⟨r, hr, hand⟩ := andN' sz 2047 (by omega)
  rw [show ((2047 : Nat) : Int) = 2047 from rfl] at hand
  have HAND := Lib.hid hand
  have HP := Lib.hid h
  have HF := Lib.hid hf
  have HS := Lib.hid hS
  have hcn := h.cap
  have hcm := h.capm
  have H0 : Hid (AtW w w.heap.size (.slice (some ⟨w.heap.size, 0, none⟩) m m) (.bool true) (w.alloc (.cells (zrow m) RT))) := Lib.hid (by
    have h1 := zrow_ps w RT m (by omega)
    have e : m = (List.replicate m pz).length := List.length_replicate.symm
    refine ⟨List.replicate m pz, _, m, by rw [← e], rfl, by rw [← e]; exact h1, may_zeros m (by omega), bel_alloc _ _⟩)
  clear h hf hS w0 hand
  go_enter Tryd.func3, Tryd.ntmps3
  go_wp2
  go_loopw [7, 8, 22] (fun v b i W => AtW w w.heap.size v b W ∧ ∃ k : Nat, i = .int .i64 (k : Int) ∧ k ≤ n) (fun _ _ i _ => n - (intOf i).toNat)
  case atStart => exact ⟨H0.out, 0, rfl, Nat.zero_le _⟩
  case round =>
    obtain ⟨⟨l1, A1, c1, rfl, rfl, hp1, hm1, hb1⟩, k, rfl, hk⟩ := hrel
    have HP1 := Lib.hid hp1
    have HM1 := Lib.hid hm1
    have HB1 := Lib.hid hb1
    clear hp1 hm1 hb1 hmk
    by_cases hlt : k < n
    · obtain ⟨b, o, rfl, hb0, hcell⟩ := HP.out.cells (by omega)
      have hbW := (hcell _ HB1.out).1
      obtain ⟨c0, c1, c2, c3, c4⟩ := (hcell _ HB1.out).2 k hlt
      have hfk := HF.out k hlt
      generalize pg l k = p at *
      have HFK := Lib.hid hfk
      have hltI : (k : Int) < (n : Int) := by omega
      clear hcell hfk
      by_cases h30 : k < 30
      · have h30I : (k : Int) < 30 := by omega
        go_wp2_with fail
        refine (step_at HS.out rfl HP1.out HM1.out HB1.out p HFK.out).mono ?_
        rintro e w2 ⟨A2, c2', l2, rfl, hat⟩
        have HAT := Lib.hid hat
        clear hat
        go_wp2
        go_roundw
        case rel => exact ⟨HAT.out, k + 1, by go_num, by omega⟩
        case measure => simp [intOf]; omega
      · have h30I : ¬ (k : Int) < 30 := by omega
        have HAT : Hid (AtW w w.heap.size (.slice A1 l1.length _) (.bool true) (wr.alloc (.cells #[.int .i64 p.k, .int .i64 p.c, .int .i64 p.r, .int .i64 p.s, .int .u64 p.n] OpT))) := Lib.hid ⟨l1, A1, _, rfl, rfl, HP1.out.below (bel_alloc _ _), HM1.out, HB1.out.trans ((bel_alloc _ _).mono HB1.out.size)⟩
        go_wp2
        go_roundw
        case rel => exact ⟨HAT.out, k + 1, by go_num, by omega⟩
        case measure => simp [intOf]; omega
    · have hltI : ¬ (k : Int) < (n : Int) := by omega
      have h64 := (mayL_iff.1 HM1.out).1
      have hand := HAND.out
      go_wp2_with fail
      refine (ours_any A1 _ c1 l1 wr HP1.out (by omega)).mono ?_
      rintro e w1 ⟨A3, c3, rfl, hp3, hx1, hb⟩
      have HB2 := Lib.hid (HB1.out.trans (hb.mono HB1.out.size))
      have HP2 := Lib.hid (HP1.out.below hb)
      have HP3 := Lib.hid hp3
      clear hp3 hx1 hb
      go_wp2_with fail
      have HFI := Lib.hid (pfirst_any A3 _ c3 l1 ((121 + (r : Int) + 255) / 256) w1 HP3.out (HS.out.below HB2.out) (by omega))
      by_cases hf : firstI l1 ((121 + (r : Int) + 255) / 256) 0 = -1
      · have e1 : firA l1 ((121 + (r : Int) + 255) / 256) = 0 := by unfold firA; rw [if_pos hf]
        have e2 : firB l1 ((121 + (r : Int) + 255) / 256) = false := decide_eq_false (fun z => z hf)
        rw [e1, e2] at HFI
        have HF1 := Lib.hid hf
        clear hf e1 e2
        refine HFI.out.mono ?_
        rintro e w2 ⟨rfl, hb⟩
        have HB3 := Lib.hid (HB2.out.trans (hb.mono HB2.out.size))
        have HP4 := Lib.hid (HP2.out.below hb)
        clear hb
        go_wp2
        go_loopw [55] (fun v W => ∃ x : Nat, v = .int .i64 (x : Int) ∧ x ≤ l1.length ∧ True ∧ Below w2.heap.size w2 W) (fun v _ => l1.length - (intOf v).toNat)
        case atStart => exact ⟨0, rfl, Nat.zero_le _, trivial, Below.refl _ _⟩
        case round =>
          obtain ⟨x, rfl, hx, hxf, hb4⟩ := hrel
          have HB4 := Lib.hid hb4
          have HB5 := Lib.hid (HB3.out.trans (hb4.mono HB3.out.size))
          have HP5 := Lib.hid (HP4.out.below hb4)
          clear hb4
          by_cases hxl : x < l1.length
          · have hxI : (x : Int) < (l1.length : Int) := by omega
            obtain ⟨R, hR⟩ : ∃ R, R = takeF l1 (x : Int) (121 + (r : Int)) 1 := ⟨_, rfl⟩
            have HRR := Lib.hid hR
            clear hR
            go_wp2_with fail
            refine (ours_any A1 _ c1 l1 wr HP5.out (by omega)).mono ?_
            rintro e w3 ⟨A4, c4, rfl, hp4, hx1, hb⟩
            have HB6 := Lib.hid (HB5.out.trans (hb.mono HB5.out.size))
            have HB6' := Lib.hid (HB4.out.trans (hb.mono HB4.out.size))
            have HP6 := Lib.hid hp4
            clear hp4 hx1 hb
            go_wp2_with fail
            refine (HRR.out ▸ ptake_any A4 _ c4 l1 (x : Int) (121 + (r : Int)) 1 w3 HP6.out (HS.out.below HB6.out) (by omega) (by omega)).mono ?_
            rintro e w4 ⟨A5, c5, rfl, hp5, hb⟩
            have HB7 := Lib.hid (HB6.out.trans (hb.mono HB6.out.size))
            have HB7' := Lib.hid (HB6'.out.trans (hb.mono HB6'.out.size))
            clear hp5 hb
            obtain ⟨r0, hr0⟩ : ∃ r0 : Nat, r0 = R.1 := ⟨_, rfl⟩
            rw [← hr0]
            have HR0 := Lib.hid hr0
            clear hr0
            have h0 : r0 ≠ 0 := fun q => by
              have := taken_first' (l := l1) (a := (x : Int)) (s := 121 + (r : Int)) (n := 1) (by rw [← HRR.out, ← HR0.out]; exact q)
              rw [HF1.out] at this
              exact this.1 rfl
            have h0b : ((r0 : Int) == 0) = false := by rw [beq_eq_false_iff_ne]; omega
            go_wp2
            go_roundw
            case rel => exact ⟨x + 1, by go_num, by omega, trivial, HB7'.out⟩
            case measure => simp [intOf]; omega
          · obtain rfl : x = l1.length := by omega
            have hxI : ¬ (l1.length : Int) < (l1.length : Int) := by omega
            go_wp2_with fail
            refine (awake19_any _ (HS.out.below HB5.out)).mono ?_
            rintro e w5 ⟨rfl, hb⟩
            have HB8 := Lib.hid (HB5.out.trans (hb.mono HB5.out.size))
            clear hb
            go_wp2
            go_ret
            exact ⟨rfl, HB8.out⟩
      · have e1 : firA l1 ((121 + (r : Int) + 255) / 256) = firstI l1 ((121 + (r : Int) + 255) / 256) 0 := by unfold firA; rw [if_neg hf]
        have e2 : firB l1 ((121 + (r : Int) + 255) / 256) = true := decide_eq_true hf
        obtain ⟨t1, t2, t3⟩ := first_taken (l := l1) (s := 121 + (r : Int)) HM1.out (by omega) (by omega) hf
        obtain ⟨f, hfe⟩ : ∃ f : Nat, firstI l1 ((121 + (r : Int) + 255) / 256) 0 = (f : Int) := ⟨(firstI l1 ((121 + (r : Int) + 255) / 256) 0).toNat, by omega⟩
        rw [e1, e2, hfe] at HFI
        rw [hfe] at t1 t2 t3
        have HFT := Lib.hid t1
        have HF1 := Lib.hid hfe
        clear hf e1 e2 t1 t2 hfe
        refine HFI.out.mono ?_
        rintro e w2 ⟨rfl, hb⟩
        have HB3 := Lib.hid (HB2.out.trans (hb.mono HB2.out.size))
        have HP4 := Lib.hid (HP2.out.below hb)
        clear hb
        go_wp2
        go_loopw [55] (fun v W => ∃ x : Nat, v = .int .i64 (x : Int) ∧ x ≤ l1.length ∧ x ≤ f ∧ Below w2.heap.size w2 W) (fun v _ => l1.length - (intOf v).toNat)
        case atStart => exact ⟨0, rfl, Nat.zero_le _, Nat.zero_le _, Below.refl _ _⟩
        case round =>
          obtain ⟨x, rfl, hx, hxf, hb4⟩ := hrel
          have HB4 := Lib.hid hb4
          have HB5 := Lib.hid (HB3.out.trans (hb4.mono HB3.out.size))
          have HP5 := Lib.hid (HP4.out.below hb4)
          clear hb4
          by_cases hxl : x < l1.length
          · have hxI : (x : Int) < (l1.length : Int) := by omega
            obtain ⟨R, hR⟩ : ∃ R, R = takeF l1 (x : Int) (121 + (r : Int)) 1 := ⟨_, rfl⟩
            have HRR := Lib.hid hR
            clear hR
            go_wp2_with fail
            refine (ours_any A1 _ c1 l1 wr HP5.out (by omega)).mono ?_
            rintro e w3 ⟨A4, c4, rfl, hp4, hx1, hb⟩
            have HB6 := Lib.hid (HB5.out.trans (hb.mono HB5.out.size))
            have HB6' := Lib.hid (HB4.out.trans (hb.mono HB4.out.size))
            have HP6 := Lib.hid hp4
            clear hp4 hx1 hb
            go_wp2_with fail
            refine (HRR.out ▸ ptake_any A4 _ c4 l1 (x : Int) (121 + (r : Int)) 1 w3 HP6.out (HS.out.below HB6.out) (by omega) (by omega)).mono ?_
            rintro e w4 ⟨A5, c5, rfl, hp5, hb⟩
            have HB7 := Lib.hid (HB6.out.trans (hb.mono HB6.out.size))
            have HB7' := Lib.hid (HB6'.out.trans (hb.mono HB6'.out.size))
            clear hp5 hb
            obtain ⟨r0, hr0⟩ : ∃ r0 : Nat, r0 = R.1 := ⟨_, rfl⟩
            rw [← hr0]
            have HR0 := Lib.hid hr0
            clear hr0
            by_cases hxe : x = f
            · subst hxe
              have h0 : r0 = 0 := by
                rw [HR0.out, HRR.out]; exact HFT.out
              subst h0
              have hxb : ((x : Int) == (x : Int)) = true := beq_self_eq_true _
              go_wp2_with fail
              refine (awake19_any _ (HS.out.below HB7.out)).mono ?_
              rintro e w5 ⟨rfl, hb⟩
              have HB8 := Lib.hid (HB7.out.trans (hb.mono HB7.out.size))
              clear hb
              go_wp2
              go_ret
              exact ⟨rfl, HB8.out⟩
            · have hxb : ((x : Int) == (f : Int)) = false := by rw [beq_eq_false_iff_ne]; omega
              have h0 : r0 ≠ 0 := fun q => by
                have := taken_first' (l := l1) (a := (x : Int)) (s := 121 + (r : Int)) (n := 1) (by rw [← HRR.out, ← HR0.out]; exact q)
                rw [HF1.out] at this
                omega
              have h0b : ((r0 : Int) == 0) = false := by rw [beq_eq_false_iff_ne]; omega
              go_wp2
              go_roundw
              case rel => exact ⟨x + 1, by go_num, by omega, by omega, HB7'.out⟩
              case measure => simp [intOf]; omega
          · obtain rfl : x = l1.length := by omega
            exfalso; omega
end Go.Proofs.YtajgbflmfopfoabDoor
