/-
  Handles: HandleMakes, HandlePlace, HandleApart.
-/
import Derived.Test.YtfnppoagmambgaaHnB
namespace Go.Proofs.Ytfnppoagmambgaa
open Go.RowKit Go
set_option linter.unusedVariables false
set_option linter.unusedSimpArgs false
theorem key_place {p s r : Int} (hm : HMay p s r) (h : Nat) (e : (h : Int) = (p * 256 + s) * 281474976710656 + r) : h < 2 ^ 64 ∧ hP h = p ∧ hS h = s ∧ hR h = r := by
  obtain ⟨h1, h2, h3, h4, h5, h6⟩ := hm
  refine ⟨by omega, ?_, ?_, ?_⟩
  · unfold hP; omega
  · unfold hS; omega
  · unfold hR; omega
/-- behind a call that came behind an alloc -/
theorem two_after {B g : Nat} {w w3 w4 : World} {o x : Obj} (hb : Below (w3.alloc o).heap.size (w3.alloc o) w4) (h3 : w3.heap[g]? = some x) (hg : g < w3.heap.size) (hB : Below B w w3) (hBs : B ≤ w3.heap.size) :
    w4.heap[g]? = some x ∧ w4.heap[w3.heap.size]? = some o ∧ Below B w w4 ∧ w3.heap.size < w4.heap.size := by
  have e1 : (w3.alloc o).heap.size = w3.heap.size + 1 := by simp
  have h1 := hb.size
  refine ⟨?_, ?_, (hB.alloc hBs o).trans (hb.mono (by omega)), by omega⟩
  · rw [hb.block g (by omega), Below.heap_alloc _ _ _ hg]; exact h3
  · rw [hb.block w3.heap.size (by omega)]; exact heap_alloc_new w3 o
set_option maxRecDepth 100000 in
set_option maxHeartbeats 1000000 in
theorem handleMakes_any (p s : Int) (r : Nat) (hr : r < 2 ^ 64) (w : World) :
    Calls Try.prog 3 #[.agg (plA p s (r : Int))] w fun e w' => e = .returned (.bool true) ∧ Below w.heap.size w w' := by
  have ob := Lib.hid (one_blk w)
  have HM := Lib.hid (fun W => hmake_any p s r hr W)
  have HR := Lib.hid (fun W => rmay_any p s r W)
  by_cases hm : HMay p s (r : Int)
  · rw [MkV_yes hm] at HM
    rw [decide_eq_true hm] at HR
    have HK := Lib.hid (fun W => rmake_any p s r hm W)
    obtain ⟨h, hh, e0⟩ : ∃ h : Nat, h < 2 ^ 64 ∧ (h : Int) = (p * 256 + s) * 281474976710656 + r := by
      obtain ⟨h1, h2, h3, h4, h5, h6⟩ := hm
      exact ⟨((p * 256 + s) * 281474976710656 + r).toNat, by omega, by omega⟩
    obtain ⟨_, q1, q2, q3⟩ := key_place hm h e0
    have HP := Lib.hid (fun W => place_any h hh W)
    rw [PlV_yes (by rw [q1, q2, q3]; exact hm), q1, q2, q3] at HP
    rw [← e0] at HM HK
    clear hm e0 q1 q2 q3
    go_enter Try.func3, Try.ntmps3
    go_wp2_with fail
    refine (HM.out _).mono ?_
    rintro e w1 ⟨rfl, hb⟩
    obtain ⟨b1, hb1, hl1⟩ := ob.out _ _ hb
    obtain ⟨c0, c1, c2, f0, f1, f2⟩ := cell3 b1
    have B1 := Lib.hid b1
    have HB1 := Lib.hid hb1
    have HL1 := Lib.hid hl1
    clear b1 hb1 hb hl1
    go_wp2_with fail
    refine (HR.out _).mono ?_
    rintro e w2 ⟨rfl, hb⟩
    have B2 := Lib.hid ((hb.block w.heap.size HL1.out).trans B1.out)
    have HB2 := Lib.hid (HB1.out.trans (hb.mono (Nat.le_of_lt HL1.out)))
    have HL2 := Lib.hid (Nat.lt_of_lt_of_le HL1.out hb.size)
    clear hb c0 c1 c2 f0 f1 f2
    go_wp2_with fail
    refine (HP.out _).mono ?_
    rintro e w3 ⟨rfl, hb⟩
    have B3 := Lib.hid ((hb.block w.heap.size HL2.out).trans B2.out)
    have HB3 := Lib.hid (HB2.out.trans (hb.mono (Nat.le_of_lt HL2.out)))
    have HL3 := Lib.hid (Nat.lt_of_lt_of_le HL2.out hb.size)
    clear hb
    obtain ⟨c0, c1, c2, f0, f1, f2⟩ := cell3 B3.out
    have hlt : w.heap.size < w3.heap.size := HL3.out
    have hne : ¬ w.heap.size = w3.heap.size := by omega
    go_wp2_with fail
    refine (HK.out _).mono ?_
    rintro e w4 ⟨rfl, hb⟩
    obtain ⟨b1, b2, hb4, hl4⟩ := two_after hb B3.out HL3.out HB3.out (Nat.le_of_lt HL3.out)
    clear hb c0 c1 c2 f0 f1 f2 hlt hne
    obtain ⟨c0, c1, c2, f0, f1, f2⟩ := cell3 b1
    obtain ⟨d0, d1, d2, g0, g1, g2⟩ := cell3 b2
    have HB4 := Lib.hid hb4
    clear b1 b2 hb4 hl4
    go_wp2_with fail
    refine (awakeH_any _).mono ?_
    rintro e w5 ⟨rfl, hb⟩
    have HB5 := Lib.hid (HB4.out.trans (hb.mono HB4.out.size))
    clear hb c0 c1 c2 f0 f1 f2 d0 d1 d2 g0 g1 g2
    go_wp2
    go_ret
    exact ⟨rfl, HB5.out⟩
  · rw [MkV_no hm] at HM
    rw [decide_eq_false hm] at HR
    go_enter Try.func3, Try.ntmps3
    go_wp2_with fail
    refine (HM.out _).mono ?_
    rintro e w1 ⟨rfl, hb⟩
    obtain ⟨b1, hb1, hl1⟩ := ob.out _ _ hb
    obtain ⟨c0, c1, c2, f0, f1, f2⟩ := cell3 b1
    have HB1 := Lib.hid hb1
    clear b1 hb1 hb hl1
    go_wp2_with fail
    refine (HR.out _).mono ?_
    rintro e w2 ⟨rfl, hb⟩
    have HB2 := Lib.hid (HB1.out.trans (hb.mono HB1.out.size))
    clear hb c0 c1 c2 f0 f1 f2
    go_wp2_with fail
    refine (awakeH_any _).mono ?_
    rintro e w5 ⟨rfl, hb⟩
    have HB5 := Lib.hid (HB2.out.trans (hb.mono HB2.out.size))
    clear hb
    go_wp2
    go_ret
    exact ⟨rfl, HB5.out⟩
set_option maxRecDepth 100000 in
set_option maxHeartbeats 1000000 in
theorem handlePlace_any (h : Nat) (hh : h < 2 ^ 64) (w : World) :
    Calls Try.prog 4 #[.int .u64 (h : Int)] w fun e w' => e = .returned (.bool true) ∧ Below w.heap.size w w' := by
  have HP := Lib.hid (fun W => place_any h hh W)
  have HO := Lib.hid (fun W => rof_any h hh W)
  by_cases hm : HMay (hP h) (hS h) (hR h)
  · rw [PlV_yes hm] at HP HO
    have HM := Lib.hid (fun W => hmake_any (hP h) (hS h) (h % 281474976710656) (by omega) W)
    rw [show ((h % 281474976710656 : Nat) : Int) = hR h by unfold hR; omega, MkV_yes hm, show (hP h * 256 + hS h) * 281474976710656 + hR h = (h : Int) by unfold hP hS hR; omega] at HM
    generalize hP h = p at *
    generalize hS h = s at *
    generalize hR h = r at *
    clear hm
    go_enter Try.func4, Try.ntmps4
    go_wp2_with fail
    refine (HP.out _).mono ?_
    rintro e w1 ⟨rfl, hb⟩
    have HB1 := Lib.hid hb
    clear hb
    go_wp2_with fail
    refine (HO.out _).mono ?_
    rintro e w2 ⟨rfl, hb⟩
    obtain ⟨b1, hb1, hl1⟩ := one_blk w1 _ _ hb
    have B2 := Lib.hid b1
    have HB2 := Lib.hid (HB1.out.trans (hb1.mono HB1.out.size))
    have hlt := hl1
    have HL2 := Lib.hid hl1
    have hne : ¬ w1.heap.size = w2.heap.size := by omega
    have HS : Hid (w.heap.size ≤ w1.heap.size) := Lib.hid HB1.out.size
    obtain ⟨c0, c1, c2, f0, f1, f2⟩ := cell3 b1
    clear b1 hb1 hb hl1
    go_wp2_with fail
    refine (HM.out _).mono ?_
    rintro e w3 ⟨rfl, hb⟩
    obtain ⟨b1, b2, hb4, hl4⟩ := two_after hb B2.out HL2.out HB2.out HB2.out.size
    have HB3 := Lib.hid hb4
    clear hb c0 c1 c2 f0 f1 f2 hlt hne b1 b2 hb4 hl4
    go_wp2_with fail
    refine (awakeH_any _).mono ?_
    rintro e w5 ⟨rfl, hb⟩
    have HB5 := Lib.hid (HB3.out.trans (hb.mono HB3.out.size))
    clear hb
    go_wp2
    go_ret
    exact ⟨rfl, HB5.out⟩
  · rw [PlV_no hm] at HP HO
    have HM := Lib.hid (fun W => hmake_any 0 0 0 (by omega) W)
    rw [MkV_no (by decide)] at HM
    clear hm
    go_enter Try.func4, Try.ntmps4
    go_wp2_with fail
    refine (HP.out _).mono ?_
    rintro e w1 ⟨rfl, hb⟩
    have HB1 := Lib.hid hb
    clear hb
    go_wp2_with fail
    refine (HO.out _).mono ?_
    rintro e w2 ⟨rfl, hb⟩
    obtain ⟨b1, hb1, hl1⟩ := one_blk w1 _ _ hb
    have B2 := Lib.hid b1
    have HB2 := Lib.hid (HB1.out.trans (hb1.mono HB1.out.size))
    have hlt := hl1
    have HL2 := Lib.hid hl1
    have hne : ¬ w1.heap.size = w2.heap.size := by omega
    have HS : Hid (w.heap.size ≤ w1.heap.size) := Lib.hid HB1.out.size
    obtain ⟨c0, c1, c2, f0, f1, f2⟩ := cell3 b1
    clear b1 hb1 hb hl1
    go_wp2_with fail
    refine (HM.out _).mono ?_
    rintro e w3 ⟨rfl, hb⟩
    obtain ⟨b1, b2, hb4, hl4⟩ := two_after hb B2.out HL2.out HB2.out HB2.out.size
    have HB3 := Lib.hid hb4
    clear hb c0 c1 c2 f0 f1 f2 hlt hne b1 b2 hb4 hl4
    go_wp2_with fail
    refine (awakeH_any _).mono ?_
    rintro e w5 ⟨rfl, hb⟩
    have HB5 := Lib.hid (HB3.out.trans (hb.mono HB3.out.size))
    clear hb
    go_wp2
    go_ret
    exact ⟨rfl, HB5.out⟩
theorem make_inj {p s r x y z : Int} (hp : HMay p s r) (hq : HMay x y z) (e : (p * 256 + s) * 281474976710656 + r = (x * 256 + y) * 281474976710656 + z) : p = x ∧ s = y ∧ r = z := by
  obtain ⟨h1, h2, h3, h4, h5, h6⟩ := hp
  obtain ⟨k1, k2, k3, k4, k5, k6⟩ := hq
  omega
theorem make_pos {p s r : Int} (hp : HMay p s r) : ((p * 256 + s) * 281474976710656 + r == 0) = false := by
  obtain ⟨h1, h2, h3, h4, h5, h6⟩ := hp
  rw [beq_eq_false_iff_ne]; omega
set_option maxRecDepth 100000 in
set_option maxHeartbeats 1000000 in
theorem handleApart_any (p s : Int) (r : Nat) (hr : r < 2 ^ 64) (x y : Int) (z : Nat) (hz : z < 2 ^ 64) (w : World) :
    Calls Try.prog 7 #[.agg (plA p s (r : Int)), .agg (plA x y (z : Int))] w fun e w' => e = .returned (.bool true) ∧ Below w.heap.size w w' := by
  have tb := Lib.hid (two_blk w)
  have HM := Lib.hid (fun W => hmake_any p s r hr W)
  have HN := Lib.hid (fun W => hmake_any x y z hz W)
  have HR := Lib.hid (fun W => rmay_any p s r W)
  have HS := Lib.hid (fun W => rmay_any x y z W)
  generalize (r : Int) = r' at *
  generalize (z : Int) = z' at *
  go_enter Try.func7, Try.ntmps7
  go_wp2_with fail
  refine (HM.out _).mono ?_
  rintro e w1 ⟨rfl, hb⟩
  obtain ⟨b1, b2, hb1⟩ := tb.out _ _ _ hb
  have hl1 : w.heap.size + 2 ≤ w1.heap.size := by have := hb.size; simpa using this
  obtain ⟨c0, c1, c2, f0, f1, f2⟩ := cell3 b1
  obtain ⟨d0, d1, d2, g0, g1, g2⟩ := cell3 b2
  have HB1 := Lib.hid hb1
  clear hb hb1
  by_cases hp : HMay p s r'
  · rw [MkV_yes hp]
    rw [decide_eq_true hp] at HR
    have hpos := make_pos hp
    go_wp2_with fail
    refine (HN.out _).mono ?_
    rintro e w2 ⟨rfl, hb⟩
    have hb2 := HB1.out.trans (hb.mono HB1.out.size)
    have k1 := (hb.block _ (by omega)).trans b1
    have k2 := (hb.block _ (by omega)).trans b2
    have hl2 : w.heap.size + 2 ≤ w2.heap.size := Nat.le_trans hl1 hb.size
    have HB2 := Lib.hid hb2
    clear hb hb2 c0 c1 c2 f0 f1 f2 d0 d1 d2 g0 g1 g2
    obtain ⟨c0, c1, c2, f0, f1, f2⟩ := cell3 k1
    obtain ⟨d0, d1, d2, g0, g1, g2⟩ := cell3 k2
    by_cases hq : HMay x y z'
    · rw [MkV_yes hq]
      have hi := make_inj hp hq
      obtain ⟨N, hN⟩ : ∃ N, N = (p * 256 + s) * 281474976710656 + r' := ⟨_, rfl⟩
      obtain ⟨M, hM⟩ : ∃ M, M = (x * 256 + y) * 281474976710656 + z' := ⟨_, rfl⟩
      rw [← hN] at hpos
      have hpos2 : (N != 0) = true := by simp [bne, hpos]
      have hpos' : ¬ N = 0 := by rw [beq_eq_false_iff_ne] at hpos; exact hpos
      rw [← hN, ← hM] at hi ⊢
      by_cases he : p = x ∧ s = y ∧ r' = z'
      · obtain ⟨rfl, rfl, rfl⟩ := he
        obtain rfl : N = M := by rw [hN, hM]
        clear hi hN hM
        go_wp2_with fail
        refine (awakeH_any _).mono ?_
        rintro e w5 ⟨rfl, hb⟩
        have HB5 := Lib.hid (HB2.out.trans (hb.mono HB2.out.size))
        clear hb
        go_wp2
        go_ret
        exact ⟨rfl, HB5.out⟩
      · have hne : (N == M) = false := by rw [beq_eq_false_iff_ne]; exact fun c => he (hi c)
        have hne' : ¬ N = M := fun c => he (hi c)
        clear hi hN hM
        rcases (by omega : ¬ p = x ∨ (p = x ∧ ¬ s = y) ∨ (p = x ∧ s = y ∧ ¬ r' = z')) with hx | ⟨hx, hy⟩ | ⟨hx, hy, hzz⟩
        all_goals clear he
        all_goals go_wp2_with (go_at_call 10; refine (awakeH_any _).mono ?_; rintro e w5 ⟨rfl, hb⟩; have HB5 := Lib.hid (HB2.out.trans (hb.mono HB2.out.size)); clear hb)
        all_goals (go_ret; exact ⟨rfl, HB5.out⟩)
    · rw [MkV_no hq]
      rw [decide_eq_false hq] at HS
      clear hpos
      go_wp2_with fail
      refine (HR.out _).mono ?_
      rintro e w3 ⟨rfl, hb⟩
      have HB3 := Lib.hid (HB2.out.trans (hb.mono HB2.out.size))
      have k3 := (hb.block _ (by omega)).trans k2
      clear hb c0 c1 c2 f0 f1 f2 d0 d1 d2 g0 g1 g2
      obtain ⟨d0, d1, d2, g0, g1, g2⟩ := cell3 k3
      go_wp2_with fail
      refine (HS.out _).mono ?_
      rintro e w4 ⟨rfl, hb⟩
      have HB4 := Lib.hid (HB3.out.trans (hb.mono HB3.out.size))
      clear hb
      go_wp2_with fail
      refine (awakeH_any _).mono ?_
      rintro e w5 ⟨rfl, hb⟩
      have HB5 := Lib.hid (HB4.out.trans (hb.mono HB4.out.size))
      clear hb
      go_wp2
      go_ret
      exact ⟨rfl, HB5.out⟩
  · rw [MkV_no hp]
    rw [decide_eq_false hp] at HR
    go_wp2_with fail
    refine (HN.out _).mono ?_
    rintro e w2 ⟨rfl, hb⟩
    have hb2 := HB1.out.trans (hb.mono HB1.out.size)
    have k1 := (hb.block _ (by omega)).trans b1
    have k2 := (hb.block _ (by omega)).trans b2
    have hl2 : w.heap.size + 2 ≤ w2.heap.size := Nat.le_trans hl1 hb.size
    have HB2 := Lib.hid hb2
    clear hb hb2 c0 c1 c2 f0 f1 f2 d0 d1 d2 g0 g1 g2
    obtain ⟨c0, c1, c2, f0, f1, f2⟩ := cell3 k1
    obtain ⟨d0, d1, d2, g0, g1, g2⟩ := cell3 k2
    obtain ⟨N, E, hE⟩ : ∃ N E : Int, MkV x y z' = .tuple #[.int .u64 N, .int .i64 E] := by
      by_cases hq : HMay x y z'
      · exact ⟨_, _, MkV_yes hq⟩
      · exact ⟨_, _, MkV_no hq⟩
    rw [hE]
    clear hE
    go_wp2_with fail
    refine (HR.out _).mono ?_
    rintro e w3 ⟨rfl, hb⟩
    have HB3 := Lib.hid (HB2.out.trans (hb.mono HB2.out.size))
    clear hb
    go_wp2_with fail
    refine (awakeH_any _).mono ?_
    rintro e w5 ⟨rfl, hb⟩
    have HB5 := Lib.hid (HB3.out.trans (hb.mono HB3.out.size))
    clear hb
    go_wp2
    go_ret
    exact ⟨rfl, HB5.out⟩
end Go.Proofs.Ytfnppoagmambgaa
