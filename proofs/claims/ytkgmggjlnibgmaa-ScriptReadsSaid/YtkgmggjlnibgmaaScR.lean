/-
  ScriptSame's walk.
-/
import Derived.Test.YtkgmggjlnibgmaaScK
import Derived.Test.YtkgmggjlnibgmaaScP
import Derived.Test.YtkgmggjlnibgmaaScQ
namespace Go.Proofs.Ytkgmggjlnibgmaa
open Go.RowKit Go
set_option linter.unusedVariables false
set_option linter.unusedSimpArgs false
set_option maxRecDepth 100000
/-- acts that were cut: few, none too long -/
def Few (k : Nat) (l : List Ac) : Prop := l.length ≤ k ∧ ∀ i, (aAt l i).b.length < 1000000
theorem cut_few (k : Nat) (l : List Ac) : Few k (cutL k l) := ⟨cutL_len k l, fun i => by
  by_cases hi : i < (cutL k l).length
  · have := cutL_b k l i hi; omega
  · have e : aAt (cutL k l) i = acZ := by simp [aAt, List.getD, List.getElem?_eq_none (Nat.le_of_not_lt hi)]
    rw [e]; simp⟩
set_option maxHeartbeats 8000000 in
theorem scriptSame_any (A A' : Option Addr) (n c n' c' : Nat) (l m : List Ac) (w : World) (hv : AcV w A n l) (hn : n ≤ c) (hc : c ≤ 9223372036854775807) (hv' : AcV w A' n' m) (hn' : n' ≤ c') (hc' : c' ≤ 9223372036854775807) :
    Calls Try.prog 5 #[.slice A n c, .slice A' n' c'] w (SameTo w true) := by
  have HVx : Hid (AcV w A n l) := Lib.hid hv
  have HVy : Hid (AcV w A' n' m) := Lib.hid hv'
  have HC1 : Hid (∀ W, AcV W A n l → Calls Try.prog 7 #[.slice A n c, .int .i64 8] W (GivesA 26 W (cutL 8 l))) := Lib.hid (fun W h => cut27_any A n c 8 l W h (by omega) (by omega))
  have HC2 : Hid (∀ W, AcV W A' n' m → Calls Try.prog 7 #[.slice A' n' c', .int .i64 8] W (GivesA 26 W (cutL 8 m))) := Lib.hid (fun W h => cut27_any A' n' c' 8 m W h (by omega) (by omega))
  have HF1 := Lib.hid (cut_few 8 l)
  have HF2 := Lib.hid (cut_few 8 m)
  generalize cutL 8 l = la at *
  generalize cutL 8 m = lb at *
  have HALL := Lib.hid (allF_iff la lb)
  have HLK := Lib.hid (fun h : allF false la lb = true => allF_like h)
  have HSF := Lib.hid (allF_self la)
  clear hv hv'
  go_enter Try.func5, Try.ntmps5
  go_wp2_with fail
  refine (HC1.out _ HVx.out).mono ?_
  rintro e w1 ⟨v1, rfl, ho1, hb1⟩
  have HB1 : Hid (Below w.heap.size w w1) := Lib.hid (hb1)
  have HVx_1 : Hid (AcV w1 A n l) := Lib.hid (HVx.out.below hb1)
  have HVy_1 : Hid (AcV w1 A' n' m) := Lib.hid (HVy.out.below hb1)
  obtain ⟨A1, c1, rfl, hv1, _, _, hz1⟩ := ho1.acV (Nat.le_refl _) hb1.size
  have HVa_1 : Hid (AcV w1 A1 (la).length (la)) := Lib.hid hv1
  clear ho1 hb1 hv1 hz1
  clear HVx HVy
  clear HVx_1
  go_wp2_with fail
  refine (HC2.out _ HVy_1.out).mono ?_
  rintro e w2 ⟨v2, rfl, ho2, hb2⟩
  have HB2 : Hid (Below w.heap.size w w2) := Lib.hid (HB1.out.trans (Below.mono hb2 HB1.out.size))
  have HVy_2 : Hid (AcV w2 A' n' m) := Lib.hid (HVy_1.out.below hb2)
  have HVa_2 : Hid (AcV w2 A1 (la).length la) := Lib.hid (HVa_1.out.below hb2)
  obtain ⟨A2, c2, rfl, hv2, _, _, hz2⟩ := ho2.acV (Nat.le_refl _) hb2.size
  have HVb_2 : Hid (AcV w2 A2 (lb).length (lb)) := Lib.hid hv2
  clear ho2 hb2 hv2 hz2
  clear HVy_1 HVa_1
  clear HVy_2
  obtain ⟨na, hna⟩ : ∃ na, la.length = na := ⟨_, rfl⟩
  obtain ⟨nb, hnb⟩ : ∃ nb, lb.length = nb := ⟨_, rfl⟩
  have HNA : Hid (na < 100000) := Lib.hid (by have := HF1.out.1; omega)
  have HNB : Hid (nb < 100000) := Lib.hid (by have := HF2.out.1; omega)
  rw [hna] at HVa_2 ⊢
  rw [hnb] at HVb_2 ⊢
  clear hna hnb
  go_wp2_with fail
  refine (ours27_any A1 na c1 la _ HVa_2.out HNA.out HF1.out.2).mono ?_
  rintro e w3 ⟨v3, rfl, ho3, hb3⟩
  have HB3 : Hid (Below w.heap.size w w3) := Lib.hid (HB2.out.trans (Below.mono hb3 HB2.out.size))
  have HVa_3 : Hid (AcV w3 A1 na la) := Lib.hid (HVa_2.out.below hb3)
  have HVb_3 : Hid (AcV w3 A2 nb lb) := Lib.hid (HVb_2.out.below hb3)
  obtain ⟨A3, c3, rfl, hv3, _, _, hz3⟩ := ho3.acV (Nat.le_refl _) hb3.size
  have HVp_3 : Hid (AcV w3 A3 (la).length (la)) := Lib.hid hv3
  clear ho3 hb3 hv3 hz3
  clear HVa_2 HVb_2
  have hl3 : la.length = na := HVp_3.out.1 ▸ HVa_3.out.1
  rw [hl3] at HVp_3 ⊢
  clear hl3
  go_wp2_with fail
  refine (ours27_any A2 nb c2 lb _ HVb_3.out HNB.out HF2.out.2).mono ?_
  rintro e w4 ⟨v4, rfl, ho4, hb4⟩
  have HB4 : Hid (Below w.heap.size w w4) := Lib.hid (HB3.out.trans (Below.mono hb4 HB3.out.size))
  have HVa_4 : Hid (AcV w4 A1 na la) := Lib.hid (HVa_3.out.below hb4)
  have HVb_4 : Hid (AcV w4 A2 nb lb) := Lib.hid (HVb_3.out.below hb4)
  have HVp_4 : Hid (AcV w4 A3 na la) := Lib.hid (HVp_3.out.below hb4)
  obtain ⟨A4, c4, rfl, hv4, _, _, hz4⟩ := ho4.acV (Nat.le_refl _) hb4.size
  have HVq_4 : Hid (AcV w4 A4 (lb).length (lb)) := Lib.hid hv4
  clear ho4 hb4 hv4 hz4
  clear HVa_3 HVb_3 HVp_3
  have hl4 : lb.length = nb := HVq_4.out.1 ▸ HVb_4.out.1
  rw [hl4] at HVq_4 ⊢
  clear hl4
  go_wp2_with fail
  refine (psameL_any A3 A4 na c3 nb c4 la lb _ HVp_4.out HVq_4.out HNA.out HNB.out).mono ?_
  rintro e w5 ⟨rfl, hb5⟩
  have HB5 : Hid (Below w.heap.size w w5) := Lib.hid (HB4.out.trans (Below.mono hb5 HB4.out.size))
  have HVa_5 : Hid (AcV w5 A1 na la) := Lib.hid (HVa_4.out.below hb5)
  have HVb_5 : Hid (AcV w5 A2 nb lb) := Lib.hid (HVb_4.out.below hb5)
  have HVp_5 : Hid (AcV w5 A3 na la) := Lib.hid (HVp_4.out.below hb5)
  have HVq_5 : Hid (AcV w5 A4 nb lb) := Lib.hid (HVq_4.out.below hb5)
  clear hb5
  clear HVa_4 HVb_4 HVp_4 HVq_4
  clear HVp_5
  clear HVq_5
  go_wp2_with fail
  refine (ours27_any A1 na c1 la _ HVa_5.out HNA.out HF1.out.2).mono ?_
  rintro e w6 ⟨v6, rfl, ho6, hb6⟩
  have HB6 : Hid (Below w.heap.size w w6) := Lib.hid (HB5.out.trans (Below.mono hb6 HB5.out.size))
  have HVa_6 : Hid (AcV w6 A1 na la) := Lib.hid (HVa_5.out.below hb6)
  have HVb_6 : Hid (AcV w6 A2 nb lb) := Lib.hid (HVb_5.out.below hb6)
  obtain ⟨A6, c6, rfl, hv6, _, _, hz6⟩ := ho6.acV (Nat.le_refl _) hb6.size
  have HVp_6 : Hid (AcV w6 A6 (la).length (la)) := Lib.hid hv6
  clear ho6 hb6 hv6 hz6
  clear HVa_5 HVb_5
  have hl6 : la.length = na := HVp_6.out.1 ▸ HVa_6.out.1
  rw [hl6] at HVp_6 ⊢
  clear hl6
  go_wp2_with fail
  refine (ours27_any A2 nb c2 lb _ HVb_6.out HNB.out HF2.out.2).mono ?_
  rintro e w7 ⟨v7, rfl, ho7, hb7⟩
  have HB7 : Hid (Below w.heap.size w w7) := Lib.hid (HB6.out.trans (Below.mono hb7 HB6.out.size))
  have HVa_7 : Hid (AcV w7 A1 na la) := Lib.hid (HVa_6.out.below hb7)
  have HVb_7 : Hid (AcV w7 A2 nb lb) := Lib.hid (HVb_6.out.below hb7)
  have HVp_7 : Hid (AcV w7 A6 na la) := Lib.hid (HVp_6.out.below hb7)
  obtain ⟨A7, c7, rfl, hv7, _, _, hz7⟩ := ho7.acV (Nat.le_refl _) hb7.size
  have HVq_7 : Hid (AcV w7 A7 (lb).length (lb)) := Lib.hid hv7
  clear ho7 hb7 hv7 hz7
  clear HVa_6 HVb_6 HVp_6
  have hl7 : lb.length = nb := HVq_7.out.1 ▸ HVb_7.out.1
  rw [hl7] at HVq_7 ⊢
  clear hl7
  go_wp2_with fail
  refine (plikeL_any A6 A7 na c6 nb c7 la lb _ HVp_7.out HVq_7.out HNA.out HNB.out).mono ?_
  rintro e w8 ⟨rfl, hb8⟩
  have HB8 : Hid (Below w.heap.size w w8) := Lib.hid (HB7.out.trans (Below.mono hb8 HB7.out.size))
  have HVa_8 : Hid (AcV w8 A1 na la) := Lib.hid (HVa_7.out.below hb8)
  have HVb_8 : Hid (AcV w8 A2 nb lb) := Lib.hid (HVb_7.out.below hb8)
  have HVp_8 : Hid (AcV w8 A6 na la) := Lib.hid (HVp_7.out.below hb8)
  have HVq_8 : Hid (AcV w8 A7 nb lb) := Lib.hid (HVq_7.out.below hb8)
  clear hb8
  clear HVa_7 HVb_7 HVp_7 HVq_7
  clear HVp_8
  clear HVq_8
  generalize hs1 : allF false la lb = s1 at *
  generalize hs2 : allF true la lb = s2 at *
  have HS1 := Lib.hid hs1
  have HS2 := Lib.hid hs2
  clear hs1 hs2
  go_wp2_with fail
  refine (rall27_any A1 A2 na c1 nb c2 la lb false _ HVa_8.out HVb_8.out HNA.out HNB.out).mono ?_
  rintro e w9 ⟨rfl, hb9⟩
  have HB9 : Hid (Below w.heap.size w w9) := Lib.hid (HB8.out.trans (Below.mono hb9 HB8.out.size))
  have HVa_9 : Hid (AcV w9 A1 na la) := Lib.hid (HVa_8.out.below hb9)
  have HVb_9 : Hid (AcV w9 A2 nb lb) := Lib.hid (HVb_8.out.below hb9)
  clear hb9
  rw [HS1.out]
  clear HVa_8 HVb_8
  have hqq : (s1 == s1) = true := by simp
  have hqq2 : (s2 == s2) = true := by simp
  go_wp2_with fail
  refine (rall27_any A1 A2 na c1 nb c2 la lb true _ HVa_9.out HVb_9.out HNA.out HNB.out).mono ?_
  rintro e w10 ⟨rfl, hb10⟩
  have HB10 : Hid (Below w.heap.size w w10) := Lib.hid (HB9.out.trans (Below.mono hb10 HB9.out.size))
  have HVa_10 : Hid (AcV w10 A1 na la) := Lib.hid (HVa_9.out.below hb10)
  have HVb_10 : Hid (AcV w10 A2 nb lb) := Lib.hid (HVb_9.out.below hb10)
  clear hb10
  rw [HS2.out]
  clear HVa_9 HVb_9
  cases s1
  · go_wp2_with fail
    refine (ours27_any A1 na c1 la _ HVa_10.out HNA.out HF1.out.2).mono ?_
    rintro e w11 ⟨v11, rfl, ho11, hb11⟩
    have HB11 : Hid (Below w.heap.size w w11) := Lib.hid (HB10.out.trans (Below.mono hb11 HB10.out.size))
    have HVa_11 : Hid (AcV w11 A1 na la) := Lib.hid (HVa_10.out.below hb11)
    have HVb_11 : Hid (AcV w11 A2 nb lb) := Lib.hid (HVb_10.out.below hb11)
    obtain ⟨A11, c11, rfl, hv11, _, _, hz11⟩ := ho11.acV (Nat.le_refl _) hb11.size
    have HVp_11 : Hid (AcV w11 A11 (la).length (la)) := Lib.hid hv11
    clear ho11 hb11 hv11 hz11
    clear HVa_10 HVb_10
    have hl11 : la.length = na := HVp_11.out.1 ▸ HVa_11.out.1
    rw [hl11] at HVp_11 ⊢
    clear hl11
    go_wp2_with fail
    refine (ours27_any A1 na c1 la _ HVa_11.out HNA.out HF1.out.2).mono ?_
    rintro e w12 ⟨v12, rfl, ho12, hb12⟩
    have HB12 : Hid (Below w.heap.size w w12) := Lib.hid (HB11.out.trans (Below.mono hb12 HB11.out.size))
    have HVa_12 : Hid (AcV w12 A1 na la) := Lib.hid (HVa_11.out.below hb12)
    have HVb_12 : Hid (AcV w12 A2 nb lb) := Lib.hid (HVb_11.out.below hb12)
    have HVp_12 : Hid (AcV w12 A11 na la) := Lib.hid (HVp_11.out.below hb12)
    obtain ⟨A12, c12, rfl, hv12, _, _, hz12⟩ := ho12.acV (Nat.le_refl _) hb12.size
    have HVq_12 : Hid (AcV w12 A12 (la).length (la)) := Lib.hid hv12
    clear ho12 hb12 hv12 hz12
    clear HVa_11 HVb_11 HVp_11
    have hl12 : la.length = na := HVq_12.out.1 ▸ HVa_12.out.1
    rw [hl12] at HVq_12 ⊢
    clear hl12
    go_wp2_with fail
    refine (psameL_any A11 A12 na c11 na c12 la la _ HVp_12.out HVq_12.out HNA.out HNA.out).mono ?_
    rintro e w13 ⟨rfl, hb13⟩
    have HB13 : Hid (Below w.heap.size w w13) := Lib.hid (HB12.out.trans (Below.mono hb13 HB12.out.size))
    have HVa_13 : Hid (AcV w13 A1 na la) := Lib.hid (HVa_12.out.below hb13)
    have HVb_13 : Hid (AcV w13 A2 nb lb) := Lib.hid (HVb_12.out.below hb13)
    have HVp_13 : Hid (AcV w13 A11 na la) := Lib.hid (HVp_12.out.below hb13)
    have HVq_13 : Hid (AcV w13 A12 na la) := Lib.hid (HVq_12.out.below hb13)
    clear hb13
    rw [HSF.out]
    clear HVa_12 HVb_12 HVp_12 HVq_12
    clear HVp_13
    clear HVq_13
    go_wp2_with fail
    refine (awake27_any _).mono ?_
    rintro e w14 ⟨rfl, hb14⟩
    have HB14 : Hid (Below w.heap.size w w14) := Lib.hid (HB13.out.trans (Below.mono hb14 HB13.out.size))
    have HVa_14 : Hid (AcV w14 A1 na la) := Lib.hid (HVa_13.out.below hb14)
    have HVb_14 : Hid (AcV w14 A2 nb lb) := Lib.hid (HVb_13.out.below hb14)
    clear hb14
    clear HVa_13 HVb_13
    go_wp2
    go_ret
    exact ⟨rfl, HB14.out⟩
  · obtain rfl : s2 = true := HLK.out rfl
    go_wp2_with fail
    refine (ours27_any A1 na c1 la _ HVa_10.out HNA.out HF1.out.2).mono ?_
    rintro e w11 ⟨v11, rfl, ho11, hb11⟩
    have HB11 : Hid (Below w.heap.size w w11) := Lib.hid (HB10.out.trans (Below.mono hb11 HB10.out.size))
    have HVa_11 : Hid (AcV w11 A1 na la) := Lib.hid (HVa_10.out.below hb11)
    have HVb_11 : Hid (AcV w11 A2 nb lb) := Lib.hid (HVb_10.out.below hb11)
    obtain ⟨A11, c11, rfl, hv11, _, _, hz11⟩ := ho11.acV (Nat.le_refl _) hb11.size
    have HVp_11 : Hid (AcV w11 A11 (la).length (la)) := Lib.hid hv11
    clear ho11 hb11 hv11 hz11
    clear HVa_10 HVb_10
    have hl11 : la.length = na := HVp_11.out.1 ▸ HVa_11.out.1
    rw [hl11] at HVp_11 ⊢
    clear hl11
    go_wp2_with fail
    refine (ours27_any A1 na c1 la _ HVa_11.out HNA.out HF1.out.2).mono ?_
    rintro e w12 ⟨v12, rfl, ho12, hb12⟩
    have HB12 : Hid (Below w.heap.size w w12) := Lib.hid (HB11.out.trans (Below.mono hb12 HB11.out.size))
    have HVa_12 : Hid (AcV w12 A1 na la) := Lib.hid (HVa_11.out.below hb12)
    have HVb_12 : Hid (AcV w12 A2 nb lb) := Lib.hid (HVb_11.out.below hb12)
    have HVp_12 : Hid (AcV w12 A11 na la) := Lib.hid (HVp_11.out.below hb12)
    obtain ⟨A12, c12, rfl, hv12, _, _, hz12⟩ := ho12.acV (Nat.le_refl _) hb12.size
    have HVq_12 : Hid (AcV w12 A12 (la).length (la)) := Lib.hid hv12
    clear ho12 hb12 hv12 hz12
    clear HVa_11 HVb_11 HVp_11
    have hl12 : la.length = na := HVq_12.out.1 ▸ HVa_12.out.1
    rw [hl12] at HVq_12 ⊢
    clear hl12
    go_wp2_with fail
    refine (psameL_any A11 A12 na c11 na c12 la la _ HVp_12.out HVq_12.out HNA.out HNA.out).mono ?_
    rintro e w13 ⟨rfl, hb13⟩
    have HB13 : Hid (Below w.heap.size w w13) := Lib.hid (HB12.out.trans (Below.mono hb13 HB12.out.size))
    have HVa_13 : Hid (AcV w13 A1 na la) := Lib.hid (HVa_12.out.below hb13)
    have HVb_13 : Hid (AcV w13 A2 nb lb) := Lib.hid (HVb_12.out.below hb13)
    have HVp_13 : Hid (AcV w13 A11 na la) := Lib.hid (HVp_12.out.below hb13)
    have HVq_13 : Hid (AcV w13 A12 na la) := Lib.hid (HVq_12.out.below hb13)
    clear hb13
    rw [HSF.out]
    clear HVa_12 HVb_12 HVp_12 HVq_12
    clear HVp_13
    clear HVq_13
    go_wp2_with fail
    refine (awake27_any _).mono ?_
    rintro e w14 ⟨rfl, hb14⟩
    have HB14 : Hid (Below w.heap.size w w14) := Lib.hid (HB13.out.trans (Below.mono hb14 HB13.out.size))
    have HVa_14 : Hid (AcV w14 A1 na la) := Lib.hid (HVa_13.out.below hb14)
    have HVb_14 : Hid (AcV w14 A2 nb lb) := Lib.hid (HVb_13.out.below hb14)
    clear hb14
    clear HVa_13 HVb_13
    go_wp2
    go_ret
    exact ⟨rfl, HB14.out⟩
end Go.Proofs.Ytkgmggjlnibgmaa
