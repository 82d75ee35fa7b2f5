/-
  Joined: NwG.
-/
import Derived.Test.YthigknolpdohoaaZwE
namespace Go.Proofs.Ythigknolpdohoaa
set_option maxRecDepth 100000
section
open Go.RowKit Go
set_option linter.unusedVariables false
set_option linter.unusedSimpArgs false
set_option maxRecDepth 100000
set_option maxHeartbeats 8000000 in
theorem nvmQuiet_any (A1 : Option Addr) (n1 c1 : Nat) (os : List O8) (at_ m : Int) (w : World) (h1 : O8W w A1 n1 os) (hn1 : n1 ≤ c1) (hc1 : c1 ≤ 9223372036854775807) :
    Calls Try.prog 6 #[.slice A1 n1 c1, .int .i64 at_, .int .i64 m] w fun e w' => e = .returned (.bool true) ∧ Below w.heap.size w w' := by
  have H1 := Lib.hid h1
  have HNP : Hid (Calls Try.prog 7 #[.int .i64 3] w (New8M w 3)) := Lib.hid (new_M 3 (by omega) w)
  have HNR : Hid (∀ W, Calls Try.prog 8 #[.int .i64 3] W (RNewL W 3)) := Lib.hid (fun W => rnew_L 3 (by omega) W)
  clear h1
  go_enter Try.func6, Try.ntmps6
  go_wp2_with fail
  refine HNP.out.mono ?_
  rintro e w1 ⟨rfl, hd1⟩
  have HP1 := Lib.hid hd1
  clear hd1
  go_wp2_with fail
  refine (HNR.out w1).mono ?_
  rintro e w2 hr
  obtain ⟨r, rfl, hd⟩ := duo_new 3 (by omega) w w1 w2 ⟨rfl, HP1.out⟩ hr
  have HST0 : Hid (QuR w (w.heap.size + 1) w.heap.size 3 3 r n1 20 (.int .i64 0) w2) := Lib.hid ⟨0, _, rfl, by omega, hd, Nat.zero_le _, Nat.zero_le _, fun x hx => by cases hx⟩
  obtain ⟨g, hg⟩ : ∃ g, g = w.heap.size + 1 := ⟨_, rfl⟩
  obtain ⟨b, hb⟩ : ∃ b, b = w.heap.size := ⟨_, rfl⟩
  rw [← hg, ← hb] at HST0
  rw [← hg]
  clear hr hd HP1 HNP HNR hg hb
  go_wp2_with fail
  go_loopw [16] (fun iv wr => QuR w g b 3 3 r n1 20 iv wr) (fun iv _ => (n1 - (intOf iv).toNat))
  case atStart => exact HST0.out
  case round =>
    clear HST0
    obtain ⟨i, s, rfl, hi, hd, hk1, hk2, hia⟩ := hrel
    have HD := Lib.hid hd
    have HSK := Lib.hid (And.intro hk1 hk2)
    have HIA := Lib.hid hia
    by_cases hlt : i < n1
    · have hlti : (i : Int) < (n1 : Int) := by omega
      have hwi : IntKind.i64.wrap ((i : Int) + 1) = (i : Int) + 1 := IntWalk.i64_in _ ⟨by omega, by omega⟩
      obtain ⟨bo, oo, B1, e1, B2, e2, rfl, hb0, p0, p1, p2, p3, p4, hs1, hs2, hA1, hA2, hfit⟩ := H1.out.2 i hlt
      have HB := Lib.hid hd.under
      have q0 := (HB.out.cell (p := ⟨bo, oo + i * 5, none⟩) hb0).trans p0
      have q1' := (HB.out.cell (p := ⟨bo, oo + i * 5 + 1, none⟩) hb0).trans p1
      have q2' := (HB.out.cell (p := ⟨bo, oo + i * 5 + 2, none⟩) hb0).trans p2
      have q3 := (HB.out.cell (p := ⟨bo, oo + i * 5 + 3, none⟩) hb0).trans p3
      have q4 := (HB.out.cell (p := ⟨bo, oo + i * 5 + 4, none⟩) hb0).trans p4
      have hlt1 : bo < wr.heap.size := Nat.lt_of_lt_of_le hb0 HB.out.size
      have HST := Lib.hid (fun W (hW : Duo w W [] g b 3 3 r s s) => step_any w W [] g b 3 3 r s s hW (by have := HSK.out; omega) (by have := HSK.out; omega) (o8At os i) B1 B2 e1 e2 hs1 hs2 hA1 hA2 hfit)
      have HSB : Hid (stB (o8At os i).cut 3 s s = true) := Lib.hid (stB_same _ _ _)
      rw [HSB.out] at HST
      have HKI : Hid ((stS (o8At os i).cut 3 s).k ≤ s.k + 1 ∧ IntsA (stS (o8At os i).cut 3 s).al) := Lib.hid ⟨stS_k _ _ _, stS_ints _ _ _ HIA.out⟩
      clear p0 p1 p2 p3 p4 hs1 hs2 hA1 hA2 hfit
      generalize stS (o8At os i).cut 3 s = s' at *
      generalize (o8At os i).kind = kd at *
      generalize (o8At os i).at_ = atq at *
      generalize (o8At os i).n = mq at *
      generalize (o8At os i).b.length = nb at *
      generalize (o8At os i).p.length = np at *
      clear hd hk1 hk2 hia
      by_cases h20 : i < 20
      · have h20i : (i : Int) < 20 := by omega
        go_wp2_with fail
        refine (HST.out _ (HD.out.next ((Below.refl _ _).alloc (Nat.le_refl _) _))).mono ?_
        rintro e w3 ⟨rfl, hd3⟩
        have HG : Hid (QuR w g b 3 3 r n1 20 (.int .i64 ((i : Int) + 1)) w3) := Lib.hid ⟨i + 1, s', by simp, by omega, hd3, by have := HKI.out; have := HSK.out; omega, by have := HKI.out; have := HSK.out; omega, HKI.out.2⟩
        clear hd3
        go_wp2_with fail
        go_roundw
        case rel => exact HG.out
        case measure => simp [intOf]; omega
      · have h20i : ¬ (i : Int) < 20 := by omega
        have HG : Hid (QuR w g b 3 3 r n1 20 (.int .i64 ((i : Int) + 1)) (wr.alloc (.cells #[.int .i64 kd, .int .i64 atq, .int .i64 mq, .slice B1 nb e1, .slice B2 np e2] 30))) := Lib.hid ⟨i + 1, s, by simp, by omega, HD.out.next ((Below.refl _ _).alloc (Nat.le_refl _) _), by have := HSK.out; omega, HSK.out.2, HIA.out⟩
        go_wp2_with fail
        go_roundw
        case rel => exact HG.out
        case measure => simp [intOf]; omega
    · have hlti : ¬ (i : Int) < (n1 : Int) := by omega
      have HR0 : Hid (SaR wr 3 (.int .i64 0) wr) := Lib.hid ⟨0, rfl, by omega, Below.refl _ _⟩
      obtain ⟨av, pv, kv, av2, pl, N, M, hp, hr, _⟩ := hd
      have HP := Lib.hid hp
      clear hk1 hk2 hia hp hr
      obtain ⟨wo, hwo⟩ : ∃ wo, wo = wr := ⟨_, rfl⟩
      rw [← hwo] at HR0 HP HD
      rw [← hwo]
      clear hwo
      go_wp2_with fail
      go_loopw [11] (fun iv wr => SaR wo 3 iv wr) (fun iv _ => (3 - (intOf iv).toNat))
      case atStart => exact HR0.out
      case round =>
        clear HR0
        obtain ⟨j, rfl, hj, hbj⟩ := hrel
        have HBJ := Lib.hid hbj
        by_cases hj3 : j < 3
        · have hj3i : (j : Int) < 3 := by omega
          have hwj : IntKind.i64.wrap ((j : Int) + 1) = (j : Int) + 1 := IntWalk.i64_in _ ⟨by omega, by omega⟩
          have HL := Lib.hid (load_P g b 3 3 at_ m av pv s wr (HP.out.next hbj))
          clear hbj
          go_wp2_with fail
          refine HL.out.mono ?_
          rintro e x1 ⟨v1, rfl, _, hb1⟩
          have HB1 : Hid (Below wo.heap.size wo x1) := Lib.hid (HBJ.out.trans (hb1.mono HBJ.out.size))
          have HL2 := Lib.hid (image_L g b 3 3 s.k s.off av pv s.al _ s.ws x1 (HP.out.next HB1.out).m)
          clear hb1
          go_wp2_with fail
          refine HL2.out.mono ?_
          rintro e x2 ⟨v2, rfl, _, hb2⟩
          have HB2 : Hid (Below wo.heap.size wo x2) := Lib.hid (HB1.out.trans (hb2.mono HB1.out.size))
          have HL3 := Lib.hid (pending_L g b 3 3 s.k s.off av pv s.al _ s.ws x2 (HP.out.next HB2.out).m)
          clear hb2
          go_wp2_with fail
          refine HL3.out.mono ?_
          rintro e x3 ⟨rfl, hb3⟩
          have HB3 : Hid (Below wo.heap.size wo x3) := Lib.hid (HB2.out.trans (hb3.mono HB2.out.size))
          have HL4 := Lib.hid (acts_P g b 3 3 av pv s x3 (HP.out.next HB3.out) (by have := HSK.out; omega))
          clear hb3
          go_wp2_with fail
          refine HL4.out.mono ?_
          rintro e x4 ⟨v4, rfl, _, hb4⟩
          have HG : Hid (SaR wo 3 (.int .i64 ((j : Int) + 1)) x4) := Lib.hid ⟨j + 1, by simp, by omega, HB3.out.trans (hb4.mono HB3.out.size)⟩
          clear hb4
          go_wp2_with fail
          go_roundw
          case rel => exact HG.out
          case measure => simp [intOf]; omega
        · have hj3i : ¬ (j : Int) < 3 := by omega
          have hdw := HD.out.next hbj
          have HSM := Lib.hid (duo_same hdw HIA.out (by have := HSK.out; omega))
          have HU := Lib.hid hdw.under
          clear hbj hdw
          go_wp2_with fail
          refine HSM.out.mono ?_
          rintro e x1 ⟨rfl, hb1⟩
          have HB1 : Hid (Below w.heap.size w x1) := Lib.hid (HU.out.trans (hb1.mono HU.out.size))
          have HAW := Lib.hid (awake8_any x1)
          clear hb1
          go_wp2_with fail
          refine HAW.out.mono ?_
          rintro e x2 ⟨rfl, hb2⟩
          have HB2 : Hid (Below w.heap.size w x2) := Lib.hid (HB1.out.trans (hb2.mono HB1.out.size))
          clear hb2
          go_wp2
          go_ret
          exact ⟨rfl, HB2.out⟩
end
end Go.Proofs.Ythigknolpdohoaa
