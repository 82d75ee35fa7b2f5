/-
  Joined: NwH.
-/
import Derived.Test.YthigknolpdohoaaZwE
namespace Go.Proofs.Ythigknolpdohoaa
set_option maxRecDepth 100000
section
open Go.RowKit Go
set_option linter.unusedVariables false
set_option linter.unusedSimpArgs false
set_option maxRecDepth 100000
set_option maxHeartbeats 1000000 in
theorem new_negM (y : Int) (hy : y < 0) (w : World) : Calls Try.prog 7 #[.int .i64 y] w (New8M w 0) := by
  have hmk : ∀ w : World, (Instr.makeSlice 50 (.int .i64 0) (.int .i64 0)).run Try.prog w = .ok (.slice (some ⟨w.heap.size, 0, none⟩) 0 0) (w.alloc (.cells (encM (zws 0)).toArray 81)) := make_linesM 0 (by omega)
  have e1 : ∀ o, (w.alloc o).heap.size = w.heap.size + 1 := fun o => by simp
  have hd := heap_alloc_new (w.alloc (.cells (encM (zws 0)).toArray 81)) (.cells #[.slice (some ⟨w.heap.size, 0, none⟩) 0 0, .bool false, .slice none 0 0, .int .i64 0, .slice none 0 0] 52)
  rw [e1] at hd
  have hm : MemB ((w.alloc (.cells (encM (zws 0)).toArray 81)).alloc (.cells #[.slice (some ⟨w.heap.size, 0, none⟩) 0 0, .bool false, .slice none 0 0, .int .i64 0, .slice none 0 0] 52)) w.heap.size LineT (zws 0) :=
    ⟨zws_ok 0, (Below.heap_alloc _ _ _ (by rw [e1]; omega)).trans (heap_alloc_new w _)⟩
  generalize encM (zws 0) = cs at hmk hd hm
  have H : Hid (New8M w 0 (.returned (.pointer (some ⟨w.heap.size + 1, 0, none⟩))) ((w.alloc (.cells cs.toArray 81)).alloc (.cells #[.slice (some ⟨w.heap.size, 0, none⟩) 0 0, .bool false, .slice none 0 0, .int .i64 0, .slice none 0 0] 52))) :=
    Lib.hid ⟨rfl, ⟨⟨hd, World.ownsRow_nil _ _ _ _⟩, hm, zws_len 0, by omega, by omega⟩, ((Below.refl _ _).alloc (Nat.le_refl _) _).alloc (by rw [e1]; omega) _, by simp⟩
  have hmax : max y 0 = 0 := by omega
  have hmin : min (0 : Int) 1024 = 0 := by decide
  have hle : y ≤ 0 := by omega
  clear e1 hd hm
  go_enter Try.func7, Try.ntmps7
  go_wp2
  go_ret
  exact H.out
/-- behind some calls of both -/
def PlR (w : World) (g b L : Nat) (r : RI) (n : Nat) (iv kv : Value) (W : World) : Prop :=
  ∃ (i : Nat) (s : DSt), iv = .int .i64 (i : Int) ∧ kv = .bool true ∧ i ≤ n ∧ Duo w W [] g b L L r s s ∧ s.k ≤ i ∧ i ≤ 40 ∧ IntsA s.al
set_option maxHeartbeats 8000000 in
theorem nvmPlays_any (z : Int) (A1 : Option Addr) (n1 c1 : Nat) (os : List O8) (w : World) (h1 : O8W w A1 n1 os) (hn1 : n1 ≤ c1) (hc1 : c1 ≤ 9223372036854775807) :
    Calls Try.prog 3 #[.int .i64 z, .slice A1 n1 c1] w fun e w' => e = .returned (.bool true) ∧ Below w.heap.size w w' := by
  have H1 := Lib.hid h1
  obtain ⟨y, hy⟩ : ∃ y, y = z.tmod 6 := ⟨_, rfl⟩
  have hyb : -5 ≤ y ∧ y ≤ 5 := by rw [hy]; have := Int.tmod_lt_of_pos z (show (0 : Int) < 6 by omega); have := Int.lt_tmod_of_pos z (show (0 : Int) < 6 by omega); omega
  have hwy : IntKind.i64.wrap y = y := IntWalk.i64_in _ ⟨by omega, by omega⟩
  have hym : z.tmod 6 = y := hy.symm
  obtain ⟨L, hL, HNP, HNR⟩ : ∃ L, L ≤ 5 ∧ Hid (Calls Try.prog 7 #[.int .i64 y] w (New8M w L)) ∧ Hid (∀ W, Calls Try.prog 8 #[.int .i64 y] W (RNewL W L)) := by
    rcases Int.lt_or_le y 0 with h | h
    · exact ⟨0, by omega, Lib.hid (new_negM y h w), Lib.hid (fun W => rnew_neg y h W)⟩
    · obtain ⟨L, rfl⟩ := Int.eq_ofNat_of_zero_le h
      exact ⟨L, by omega, Lib.hid (new_M L (by omega) w), Lib.hid (fun W => rnew_L L (by omega) W)⟩
  have HLL := Lib.hid hL
  clear h1 hy hyb hL
  go_enter Try.func3, Try.ntmps3
  go_wp2_with fail
  refine HNP.out.mono ?_
  rintro e w1 ⟨rfl, hd1⟩
  have HP1 := Lib.hid hd1
  clear hd1
  go_wp2_with fail
  refine (HNR.out w1).mono ?_
  rintro e w2 hr
  obtain ⟨r, rfl, hd⟩ := duo_new L (by have := HLL.out; omega) w w1 w2 ⟨rfl, HP1.out⟩ hr
  have HD2 := Lib.hid hd
  obtain ⟨g, hg⟩ : ∃ g, g = w.heap.size + 1 := ⟨_, rfl⟩
  obtain ⟨b, hb⟩ : ∃ b, b = w.heap.size := ⟨_, rfl⟩
  rw [← hg, ← hb] at HD2
  rw [← hg]
  clear hr hd HP1 HNP HNR hg hb
  have HSM := Lib.hid (duo_same HD2.out (fun x hx => by cases hx) (by show (0 : Nat) ≤ _; omega))
  go_wp2_with fail
  refine HSM.out.mono ?_
  rintro e w3 ⟨rfl, hb3⟩
  have HST0 : Hid (PlR w g b L r n1 (.int .i64 0) (.bool true) w3) := Lib.hid ⟨0, _, rfl, rfl, by omega, HD2.out.next hb3, Nat.zero_le _, by omega, fun x hx => by cases hx⟩
  clear hb3 HSM HD2
  go_wp2_with fail
  go_loopw [21, 7] (fun iv kv wr => PlR w g b L r n1 iv kv wr) (fun iv _ _ => (n1 - (intOf iv).toNat))
  case atStart => exact HST0.out
  case round =>
    clear HST0
    obtain ⟨i, s, rfl, rfl, hi, hd, hk1, hk2, hia⟩ := hrel
    have HD := Lib.hid hd
    have HSK := Lib.hid (And.intro hk1 hk2)
    have HIA := Lib.hid hia
    by_cases hlt : i < n1
    · have hlti : (i : Int) < (n1 : Int) := by omega
      have hwi : IntKind.i64.wrap ((i : Int) + 1) = (i : Int) + 1 := IntWalk.i64_in _ ⟨by omega, by omega⟩
      obtain ⟨bo, oo, B1, e1, B2, e2, rfl, hb0, p0, p1, p2, p3, p4, hs1, hs2, hA1, hA2, hfit⟩ := H1.out.2 i hlt
      have HB := Lib.hid hd.under
      have q0 := (HB.out.cell (p := ⟨bo, oo + i * 5, none⟩) hb0).trans p0
      have q1' := (HB.out.cell (p := ⟨bo, oo + i * 5 + 1, none⟩) hb0).trans p1
      have q2' := (HB.out.cell (p := ⟨bo, oo + i * 5 + 2, none⟩) hb0).trans p2
      have q3 := (HB.out.cell (p := ⟨bo, oo + i * 5 + 3, none⟩) hb0).trans p3
      have q4 := (HB.out.cell (p := ⟨bo, oo + i * 5 + 4, none⟩) hb0).trans p4
      have hlt1 : bo < wr.heap.size := Nat.lt_of_lt_of_le hb0 HB.out.size
      have HST := Lib.hid (fun W (hW : Duo w W [] g b L L r s s) => step_any w W [] g b L L r s s hW (by have := HSK.out; omega) (by have := HSK.out; omega) (o8At os i) B1 B2 e1 e2 hs1 hs2 hA1 hA2 hfit)
      have HSB : Hid (stB (o8At os i).cut L s s = true) := Lib.hid (stB_same _ _ _)
      rw [HSB.out] at HST
      have HKI : Hid ((stS (o8At os i).cut L s).k ≤ s.k + 1 ∧ IntsA (stS (o8At os i).cut L s).al) := Lib.hid ⟨stS_k _ _ _, stS_ints _ _ _ HIA.out⟩
      clear p0 p1 p2 p3 p4 hs1 hs2 hA1 hA2 hfit
      generalize stS (o8At os i).cut L s = s' at *
      generalize (o8At os i).kind = kd at *
      generalize (o8At os i).at_ = atq at *
      generalize (o8At os i).n = mq at *
      generalize (o8At os i).b.length = nb at *
      generalize (o8At os i).p.length = np at *
      clear hd hk1 hk2 hia
      by_cases h40 : i < 40
      · have h40i : ¬ (40 : Int) ≤ (i : Int) := by omega
        go_wp2_with fail
        refine (HST.out _ (HD.out.next ((Below.refl _ _).alloc (Nat.le_refl _) _))).mono ?_
        rintro e w4 ⟨rfl, hd4⟩
        have HD4 := Lib.hid hd4
        have HSM := Lib.hid (duo_same hd4 HKI.out.2 (by have := HKI.out; have := HSK.out; omega))
        clear hd4
        go_wp2_with fail
        refine HSM.out.mono ?_
        rintro e w5 ⟨rfl, hb5⟩
        have HG : Hid (PlR w g b L r n1 (.int .i64 ((i : Int) + 1)) (.bool true) w5) := Lib.hid ⟨i + 1, s', by simp, rfl, by omega, HD4.out.next hb5, by have := HKI.out; have := HSK.out; omega, by omega, HKI.out.2⟩
        clear hb5
        go_wp2_with fail
        go_roundw
        case rel => exact HG.out
        case measure => simp [intOf]; omega
      · have h40i : (40 : Int) ≤ (i : Int) := by omega
        have HAW := Lib.hid (awake8_any (wr.alloc (.cells #[.int .i64 kd, .int .i64 atq, .int .i64 mq, .slice B1 nb e1, .slice B2 np e2] 30)))
        have HU := Lib.hid (HD.out.next ((Below.refl _ _).alloc (Nat.le_refl _) (.cells #[.int .i64 kd, .int .i64 atq, .int .i64 mq, .slice B1 nb e1, .slice B2 np e2] 30))).under
        go_wp2_with fail
        refine HAW.out.mono ?_
        rintro e x2 ⟨rfl, hb2⟩
        have HB2 : Hid (Below w.heap.size w x2) := Lib.hid (HU.out.trans (hb2.mono HU.out.size))
        clear hb2
        go_wp2
        go_ret
        exact ⟨rfl, HB2.out⟩
    · have hlti : ¬ (i : Int) < (n1 : Int) := by omega
      have HAW := Lib.hid (awake8_any wr)
      have HU := Lib.hid hd.under
      clear hd hk1 hk2 hia
      go_wp2_with fail
      refine HAW.out.mono ?_
      rintro e x2 ⟨rfl, hb2⟩
      have HB2 : Hid (Below w.heap.size w x2) := Lib.hid (HU.out.trans (hb2.mono HU.out.size))
      clear hb2
      go_wp2
      go_ret
      exact ⟨rfl, HB2.out⟩
end
end Go.Proofs.Ythigknolpdohoaa
