/-
  ScriptJoined's walk.
-/
import Derived.Test.YtkgmggjlnibgmaaScY0
import Derived.Test.YtkgmggjlnibgmaaScW
import Derived.Test.YtkgmggjlnibgmaaScD
namespace Go.Proofs.Ytkgmggjlnibgmaa
open Go.RowKit Go
set_option linter.unusedVariables false
set_option linter.unusedSimpArgs false
set_option maxRecDepth 100000
def mayF (ab : List Ac) (k : Nat) : List Ac := (ab.take k).filter mayA
theorem mayF_succ {ab : List Ac} {k : Nat} (h : k < ab.length) : mayF ab (k + 1) = mayF ab k ++ (if mayA (aAt ab k) = true then [aAt ab k] else []) := by
  unfold mayF
  rw [take_succ_aAt h, List.filter_append]
  cases hm : mayA (aAt ab k) <;> simp [hm]
theorem mayF_len (ab : List Ac) (k : Nat) : (mayF ab k).length ≤ k := by
  unfold mayF
  exact Nat.le_trans (List.length_filter_le _ _) (by rw [List.length_take]; omega)
theorem mayF_may (ab : List Ac) (k : Nat) : allMay (mayF ab k) := fun i hi => by
  have h := List.getElem_mem hi
  rw [aAt_lt hi]
  exact (List.mem_filter.mp h).2
theorem filt_may (l : List Ac) : allMay (l.filter mayA) := fun i hi => by
  have h := List.getElem_mem hi
  rw [aAt_lt hi]
  exact (List.mem_filter.mp h).2
theorem may_b {l : List Ac} (h : allMay l) : ∀ i, (aAt l i).b.length < 1000000 := fun i => by
  by_cases hi : i < l.length
  · obtain ⟨_, _, _, _, _, _, _, _, _, _, h5, _⟩ := mayA_nat (h i hi)
    omega
  · have e : aAt l i = acZ := by simp [aAt, List.getD, List.getElem?_eq_none (Nat.le_of_not_lt hi)]
    rw [e]; simp
theorem flat_le {l : List Ac} (h : allMay l) (h5 : l.length ≤ 5) : (flatA l).length ≤ 5210 := by
  have h1 := flatA_len (l := l) (fun i hi => by
    obtain ⟨_, _, _, _, _, _, _, _, _, _, h5, _⟩ := mayA_nat (h i hi)
    omega)
  omega
def JnR (w3 : World) (ab : List Ac) (na : Nat) (iv v nv : Value) (wr : World) : Prop :=
  ∃ (k : Nat) (x : Value) (nn : Nat), iv = .int .i64 (k : Int) ∧ x = v ∧ nv = .int .i64 (nn : Int) ∧ k ≤ ab.length ∧ nn = (mayF ab (min k na)).length ∧ AcO 26 wr w3.heap.size w3.heap.size x (mayF ab k) ∧ After w3 wr
set_option maxHeartbeats 8000000 in
theorem scriptJoined_any (A A' : Option Addr) (n c n' c' : Nat) (l m : List Ac) (w : World) (hv : AcV w A n l) (hn : n ≤ c) (hc : c ≤ 9223372036854775807) (hv' : AcV w A' n' m) (hn' : n' ≤ c') (hc' : c' ≤ 9223372036854775807) :
    Calls Try.prog 6 #[.slice A n c, .slice A' n' c'] w (SameTo w true) := by
  have HC1 : Hid (∀ W, Below w.heap.size w W → Calls Try.prog 7 #[.slice A n c, .int .i64 5] W (GivesB 26 w W (cutL 5 l))) := Lib.hid (fun W h => cut27_base w A n c 5 l W hv h (by omega) (by omega))
  have HC2 : Hid (∀ W, Below w.heap.size w W → Calls Try.prog 7 #[.slice A' n' c', .int .i64 5] W (GivesB 26 w W (cutL 5 m))) := Lib.hid (fun W h => cut27_base w A' n' c' 5 m W hv' h (by omega) (by omega))
  have HF1 := Lib.hid (cut_few 5 l)
  have HF2 := Lib.hid (cut_few 5 m)
  have HB31 : Hid (∀ i, i < (cutL 5 l ++ cutL 5 m).length → (aAt (cutL 5 l ++ cutL 5 m) i).b.length ≤ 1030) := Lib.hid (fun i hi => by
    by_cases h : i < (cutL 5 l).length
    · rw [aAt_app_lt h]; exact cutL_b 5 l i h
    · rw [aAt_app_ge (by omega)]; exact cutL_b 5 m _ (by rw [List.length_append] at hi; omega))
  generalize cutL 5 l = la at *
  generalize cutL 5 m = lb at *
  clear hv hv'
  go_enter Try.func6, Try.ntmps6
  go_wp2_with fail
  refine (HC1.out _ (Below.refl _ _)).mono ?_
  rintro e w1 ⟨v1, rfl, ho1, hb1⟩
  go_wp2_with fail
  refine (HC2.out _ hb1).mono ?_
  rintro e w2 ⟨v2, rfl, ho2, hb2⟩
  have HO1 : Hid (AcO 26 w2 w.heap.size w.heap.size v1 la) := Lib.hid (ho1.below (Nat.le_refl _) hb1.size hb2)
  have HO2 : Hid (AcO 26 w2 w.heap.size w.heap.size v2 lb) := Lib.hid (ho2.base hb1.size)
  have HB2 : Hid (Below w.heap.size w w2) := Lib.hid (hb1.trans (hb2.mono hb1.size))
  have HLT : Hid (la.length + lb.length < 100000) := Lib.hid (by have := HF1.out.1; have := HF2.out.1; omega)
  clear ho1 hb1 ho2 hb2 HC2
  go_wp2_with (at_builtin; refine wp_appAs 26 22 Try.underlying22 (by kernel_rfl) (by decide) _ rfl (.tmp 16) (.tmp 18) rfl w.heap.size w.heap.size (Nat.le_refl _) v1 v2 la lb rfl HO1.out rfl HO2.out HLT.out HB2.out.size ?_; intro v3 w3 ho3 hd3; have HB3 : Hid (Below w.heap.size w w3) := Lib.hid (HB2.out.trans hd3); obtain ⟨Aa, ca, rfl, hv3, hn3, hc3, hzz⟩ := ho3.acV (Nat.le_refl _) HB3.out.size; obtain ⟨n3, hn3'⟩ : ∃ n3, (la ++ lb).length = n3 := ⟨_, rfl⟩; rw [hn3'] at hv3 hn3 ⊢; have HN3 := Lib.hid hn3'; clear ho3 hd3 hn3' hzz)
  have HBY : Hid (∀ i, byteL (aAt (la ++ lb) i).b) := Lib.hid (fun i => hv3.byte i)
  have hf0 : (la ++ lb).filter mayA = la.filter mayA ++ lb.filter mayA := List.filter_append ..
  have HFA : Hid (∀ k, la.length + lb.length ≤ k → mayF (la ++ lb) k = la.filter mayA ++ lb.filter mayA) := Lib.hid (fun k hk => by unfold mayF; rw [List.take_of_length_le (by rw [List.length_append]; exact hk), hf0])
  have HFB : Hid (mayF (la ++ lb) la.length = la.filter mayA) := Lib.hid (by unfold mayF; rw [List.take_left'] ; rfl)
  have HLB : Hid ((la ++ lb).length = la.length + lb.length) := Lib.hid (List.length_append ..)
  have HF5 : Hid (la.length ≤ 5 ∧ lb.length ≤ 5) := Lib.hid ⟨HF1.out.1, HF2.out.1⟩
  have HC3 : Hid (∀ W, Below w.heap.size w W → Calls Try.prog 7 #[.slice A n c, .int .i64 5] W (fun e w' => ∃ A9 c9, e = .returned (.slice A9 la.length c9) ∧ Below W.heap.size W w')) := Lib.hid (fun W h => (HC1.out W h).mono (by
    rintro e w' ⟨v, rfl, ho, hb⟩
    obtain ⟨A9, c9, rfl, _⟩ := ho.acV h.size hb.size
    exact ⟨A9, c9, rfl, hb⟩))
  clear hf0 HC1 HO1 HO2 HB2 HLT HF1 HF2
  generalize hab : la ++ lb = ab at *
  have HAB := Lib.hid hab
  obtain ⟨na, hna⟩ : ∃ na, la.length = na := ⟨_, rfl⟩
  have HNA := Lib.hid hna
  rw [hna] at HC3 HFB
  have HV := Lib.hid hv3
  have h35 : n3 ≤ 10 := by have := HLB.out; have := HF5.out; have := HN3.out; omega
  clear hab hna hv3 hn3
  have HR : Hid (JnR w3 ab na (.int .i64 0) (.slice none 0 0) (.int .i64 0) w3) := Lib.hid ⟨0, _, 0, rfl, rfl, rfl, by omega, by simp [mayF], AcO.nil _ _ _ _, After.refl _⟩
  go_wp2_with fail
  go_loopw [21, 5, 6] (fun iv v nv wr => JnR w3 ab na iv v nv wr) (fun iv _ _ _ => (n3 - intOf iv).toNat)
  case atStart => exact HR.out
  case round =>
    clear HR
    obtain ⟨k, v, nn, rfl, rfl, rfl, hk, hnn, hO, hA⟩ := hrel
    have HO := Lib.hid hO
    have HNN := Lib.hid hnn
    have HA := Lib.hid hA
    clear hO hnn hA
    rw [HN3.out] at hk
    have HBW : Hid (Below w.heap.size w wr) := Lib.hid (HB3.out.trans (Below.mono HA.out HB3.out.size))
    by_cases hlt : k < n3
    · have HSUC := Lib.hid (mayF_succ (ab := ab) (k := k) (by rw [HN3.out]; exact hlt))
      have hnn5 : nn ≤ 10 := by rw [HNN.out]; have := mayF_len ab (min k na); omega
      obtain ⟨b, o, A1, c1, rfl, hb0, q0, q1, q2, q3, q4, q5, q6, hs1, hz1⟩ := HV.out.at_ (show k < n3 by omega)
      have p0 : wr.cell? ⟨b, o + k * 7, none⟩ = some (.int .i64 (aAt ab k).kind) := (HA.out.cell (p := ⟨b, o + k * 7, none⟩) hb0).trans q0
      have p1 : wr.cell? ⟨b, o + k * 7 + 1, none⟩ = some (.bool (aAt ab k).yes) := (HA.out.cell (p := ⟨b, o + k * 7 + 1, none⟩) hb0).trans q1
      have p2 : wr.cell? ⟨b, o + k * 7 + 2, none⟩ = some (.int .i64 (aAt ab k).which) := (HA.out.cell (p := ⟨b, o + k * 7 + 2, none⟩) hb0).trans q2
      have p3 : wr.cell? ⟨b, o + k * 7 + 3, none⟩ = some (.int .i64 (aAt ab k).k) := (HA.out.cell (p := ⟨b, o + k * 7 + 3, none⟩) hb0).trans q3
      have p4 : wr.cell? ⟨b, o + k * 7 + 4, none⟩ = some (.int .i64 (aAt ab k).n) := (HA.out.cell (p := ⟨b, o + k * 7 + 4, none⟩) hb0).trans q4
      have p5 : wr.cell? ⟨b, o + k * 7 + 5, none⟩ = some (.int .i64 (aAt ab k).pos) := (HA.out.cell (p := ⟨b, o + k * 7 + 5, none⟩) hb0).trans q5
      have p6 : wr.cell? ⟨b, o + k * 7 + 6, none⟩ = some (.slice A1 (aAt ab k).b.length c1) := (HA.out.cell (p := ⟨b, o + k * 7 + 6, none⟩) hb0).trans q6
      have HZ := Lib.hid hz1
      have HBB : Hid (byteL (aAt ab k).b) := Lib.hid (HBY.out k)
      have h31 := HB31.out k (by rw [HN3.out]; exact hlt)
      have hlt1 : b < wr.heap.size := Nat.lt_of_lt_of_le hb0 HA.out.size
      have HEQ : Hid (aAt ab k = ⟨(aAt ab k).kind, (aAt ab k).yes, (aAt ab k).which, (aAt ab k).k, (aAt ab k).n, (aAt ab k).pos, (aAt ab k).b⟩) := Lib.hid rfl
      rw [HEQ.out] at HSUC
      obtain ⟨bb, hbb⟩ : ∃ bb, (aAt ab k).b = bb := ⟨_, rfl⟩
      rw [hbb] at p6 hs1 HBB HSUC h31
      obtain ⟨n1, hn1⟩ : ∃ n1, bb.length = n1 := ⟨_, rfl⟩
      have HN1 := Lib.hid hn1
      rw [hn1] at p6 hs1 h31
      have HS1 : Hid (BS w3 w3.heap.size A1 n1 c1 bb) := Lib.hid hs1
      clear q0 q1 q2 q3 q4 q5 q6 hs1 hz1 hb0 hbb hn1 HEQ
      generalize (aAt ab k).kind = kd at *
      generalize (aAt ab k).yes = y at *
      generalize (aAt ab k).which = z1 at *
      generalize (aAt ab k).k = z2 at *
      generalize (aAt ab k).n = z3 at *
      generalize (aAt ab k).pos = z4 at *
      have HA5 : Hid (After wr (wr.alloc (.cells #[.int .i64 kd, .bool y, .int .i64 z1, .int .i64 z2, .int .i64 z3, .int .i64 z4, .slice A1 n1 c1] 26))) := Lib.hid (al1 _ _)
      have HX5 := Lib.hid (heap_alloc_new wr (.cells #[.int .i64 kd, .bool y, .int .i64 z1, .int .i64 z2, .int .i64 z3, .int .i64 z4, .slice A1 n1 c1] 26))
      have HW5 : Hid (After w3 (wr.alloc (.cells #[.int .i64 kd, .bool y, .int .i64 z1, .int .i64 z2, .int .i64 z3, .int .i64 z4, .slice A1 n1 c1] 26))) := Lib.hid (After.next HA.out HA5.out)
      have HRM := Lib.hid (rmay_any kd y z1 z2 z3 z4 A1 n1 c1 bb HN1.out (by omega) (wr.alloc (.cells #[.int .i64 kd, .bool y, .int .i64 z1, .int .i64 z2, .int .i64 z3, .int .i64 z4, .slice A1 n1 c1] 26)))
      go_upto_region 6 with (fail)
      generalize wr.alloc (.cells #[.int .i64 kd, .bool y, .int .i64 z1, .int .i64 z2, .int .i64 z3, .int .i64 z4, .slice A1 n1 c1] 26) = W5 at *
      have g0 : W5.cell? ⟨wr.heap.size, 0, none⟩ = some (.int .i64 kd) := blk_cell HX5.out 0
      have g1 : W5.cell? ⟨wr.heap.size, 1, none⟩ = some (.bool y) := blk_cell HX5.out 1
      have g2 : W5.cell? ⟨wr.heap.size, 2, none⟩ = some (.int .i64 z1) := blk_cell HX5.out 2
      have g3 : W5.cell? ⟨wr.heap.size, 3, none⟩ = some (.int .i64 z2) := blk_cell HX5.out 3
      have g4 : W5.cell? ⟨wr.heap.size, 4, none⟩ = some (.int .i64 z3) := blk_cell HX5.out 4
      have g5 : W5.cell? ⟨wr.heap.size, 5, none⟩ = some (.int .i64 z4) := blk_cell HX5.out 5
      have g6 : W5.cell? ⟨wr.heap.size, 6, none⟩ = some (.slice A1 n1 c1) := blk_cell HX5.out 6
      go_wp2_with fail
      refine HRM.out.mono ?_
      rintro e w6 ⟨rfl, hb6⟩
      have HA6 : Hid (After W5 w6) := Lib.hid hb6
      have HX6 : Hid (w6.heap[wr.heap.size]? = some (.cells #[.int .i64 kd, .bool y, .int .i64 z1, .int .i64 z2, .int .i64 z3, .int .i64 z4, .slice A1 n1 c1] 26 (0, 0))) := Lib.hid ((hb6.block _ (blk_lt HX5.out)).trans HX5.out)
      have HW6 : Hid (After w3 w6) := Lib.hid (After.next HW5.out hb6)
      have HO6 : Hid (AcO 26 w6 w3.heap.size w3.heap.size v (mayF ab k)) := Lib.hid (HO.out.below (Nat.le_refl _) (Below.size HA.out) (After.next HA5.out hb6))
      clear hb6 HRM g0 g1 g2 g3 g4 g5 g6
      cases hR : mayA (⟨kd, y, z1, z2, z3, z4, bb⟩ : Ac)
      · have HG : Hid (JnR w3 ab na (.int .i64 ((k : Int) + 1)) v (.int .i64 (nn : Int)) w6) := Lib.hid ⟨k + 1, v, nn, rfl, rfl, rfl, by rw [HN3.out]; omega, by
          have h := HSUC.out
          rw [hR] at h
          simp at h
          by_cases hkn : k < na
          · rw [HNN.out, Nat.min_eq_left (by omega), Nat.min_eq_left (by omega), h]
          · rw [HNN.out, Nat.min_eq_right (by omega), Nat.min_eq_right (by omega)], by
          have h := HSUC.out
          rw [hR] at h
          simp at h
          rw [h]; exact HO6.out, HW6.out⟩
        clear HSUC hR
        go_wp2
        go_roundw
        case rel => exact HG.out
        case measure => simp [intOf]; omega
      · have HS : Hid (mayF ab (k + 1) = mayF ab k ++ [(⟨kd, y, z1, z2, z3, z4, bb⟩ : Ac)]) := Lib.hid (by have h := HSUC.out; rw [hR, if_pos rfl] at h; exact h)
        have HTL : Hid ((mayF ab k).length < 100000) := Lib.hid (by have := mayF_len ab k; omega)
        have HI6 : Hid (EnI w6 w3.heap.size w3.heap.size A1 c1 bb) := Lib.hid ⟨.inl (by rw [HN1.out]; exact HS1.out.below HW6.out), HZ.out⟩
        clear HSUC hR
        have g0 : w6.cell? ⟨wr.heap.size, 0, none⟩ = some (.int .i64 kd) := blk_cell HX6.out 0
        have g1 : w6.cell? ⟨wr.heap.size, 1, none⟩ = some (.bool y) := blk_cell HX6.out 1
        have g2 : w6.cell? ⟨wr.heap.size, 2, none⟩ = some (.int .i64 z1) := blk_cell HX6.out 2
        have g3 : w6.cell? ⟨wr.heap.size, 3, none⟩ = some (.int .i64 z2) := blk_cell HX6.out 3
        have g4 : w6.cell? ⟨wr.heap.size, 4, none⟩ = some (.int .i64 z3) := blk_cell HX6.out 4
        have g5 : w6.cell? ⟨wr.heap.size, 5, none⟩ = some (.int .i64 z4) := blk_cell HX6.out 5
        have g6 : w6.cell? ⟨wr.heap.size, 6, none⟩ = some (.slice A1 n1 c1) := blk_cell HX6.out 6
        go_upto_region 8 with (at_builtin; refine wp_appA 26 22 Try.underlying22 (by kernel_rfl) (by decide) _ rfl (.tmp 28) (.tmp 30) rfl w3.heap.size w3.heap.size (Nat.le_refl _) v (mayF ab k) kd z1 z2 z3 z4 y bb A1 c1 n1 HN1.out rfl HO6.out HTL.out rfl HI6.out (Below.size HW6.out) ?_; intro v9 w9 ho9 hd9 hf9; have HO9 : Hid (AcO 26 w9 w3.heap.size w3.heap.size v9 (mayF ab (k + 1))) := Lib.hid (by rw [HS.out]; exact ho9); have HW9 : Hid (After w3 w9) := Lib.hid (Below.trans HW6.out hd9); clear ho9 hd9 hf9)
        clear g0 g1 g2 g3 g4 g5 g6
        have HC9 := Lib.hid (HC3.out w9 (HB3.out.trans (Below.mono HW9.out HB3.out.size)))
        go_wp2_with fail
        refine HC9.out.mono ?_
        rintro e w10 ⟨A9, c9, rfl, hb10⟩
        have HO10 : Hid (AcO 26 w10 w3.heap.size w3.heap.size v9 (mayF ab (k + 1))) := Lib.hid (HO9.out.below (Nat.le_refl _) (Below.size HW9.out) hb10)
        have HW10 : Hid (After w3 w10) := Lib.hid (After.next HW9.out hb10)
        clear hb10
        by_cases hkn : k < na
        · have HG : Hid (JnR w3 ab na (.int .i64 ((k : Int) + 1)) v9 (.int .i64 ((nn : Int) + 1)) w10) := Lib.hid ⟨k + 1, v9, nn + 1, rfl, rfl, by simp, by rw [HN3.out]; omega, by
            rw [Nat.min_eq_left (by omega), HS.out, List.length_append, HNN.out, Nat.min_eq_left (by omega)]; rfl, HO10.out, HW10.out⟩
          have hkI : (k : Int) < (na : Int) := by omega
          clear HO10
          go_wp2
          go_roundw
          case rel => exact HG.out
          case measure => simp [intOf]; omega
        · have HG : Hid (JnR w3 ab na (.int .i64 ((k : Int) + 1)) v9 (.int .i64 (nn : Int)) w10) := Lib.hid ⟨k + 1, v9, nn, rfl, rfl, rfl, by rw [HN3.out]; omega, by
            rw [HNN.out, Nat.min_eq_right (by omega), Nat.min_eq_right (by omega)], HO10.out, HW10.out⟩
          have hkI : ¬ (k : Int) < (na : Int) := by omega
          clear HO10
          go_wp2
          go_roundw
          case rel => exact HG.out
          case measure => simp [intOf]; omega
    · have hkk : k = n3 := by omega
      clear hk hlt
      subst hkk
      have HF0 : Hid (mayF ab k = la.filter mayA ++ lb.filter mayA) := Lib.hid (HFA.out k (by have := HLB.out; have := HN3.out; omega))
      have HNF : Hid (nn = (la.filter mayA).length) := Lib.hid (by rw [HNN.out, Nat.min_eq_right (by have := HLB.out; have := HN3.out; have := HNA.out; omega), HFB.out])
      have HMF : Hid (allMay (la.filter mayA) ∧ allMay (lb.filter mayA) ∧ allMay (la.filter mayA ++ lb.filter mayA)) := Lib.hid ⟨filt_may la, filt_may lb, by rw [← HF0.out]; exact mayF_may ab k⟩
      have HO2 := HO.out
      rw [HF0.out] at HO2
      obtain ⟨Ax, cx, rfl, hvx, hnx, hcx, hzz⟩ := HO2.acV (Nat.le_refl _) (Below.size HA.out)
      clear hzz
      have HLN : Hid ((la.filter mayA).length ≤ 5 ∧ (lb.filter mayA).length ≤ 5) := Lib.hid ⟨Nat.le_trans (List.length_filter_le _ _) HF5.out.1, Nat.le_trans (List.length_filter_le _ _) HF5.out.2⟩
      clear HO2 HO HNN HFA HFB HF0 HF5 HLB
      generalize la.filter mayA = fa at *
      generalize lb.filter mayA = fb at *
      have HVx : Hid (AcV wr Ax (fa ++ fb).length (fa ++ fb)) := Lib.hid hvx
      have hlx : (fa ++ fb).length = fa.length + fb.length := List.length_append ..
      rw [hlx] at hnx HVx ⊢
      have HNX : Hid (fa.length + fb.length ≤ cx) := Lib.hid hnx
      have HVA : Hid (AcV wr Ax fa.length fa) := Lib.hid (by have h := HVx.out.take (k := fa.length) (by omega); rw [List.take_left'] at h; exact h; rfl)
      have HVB : Hid (AcV wr (cut7 Ax cx fa.length) fb.length fb) := Lib.hid (by
        have h := HVx.out.drop7 (c := cx) hnx (k := fa.length) (by omega)
        rw [List.drop_left', show fa.length + fb.length - fa.length = fb.length by omega] at h; exact h; rfl)
      obtain ⟨xb, hxb⟩ : ∃ xb, xb = cut7 Ax cx fa.length := ⟨_, rfl⟩
      obtain ⟨cb, hcb⟩ : ∃ cb, cb = cx - fa.length := ⟨_, rfl⟩
      obtain ⟨na2, hna2⟩ : ∃ x, fa.length = x := ⟨_, rfl⟩
      obtain ⟨nb2, hnb2⟩ : ∃ x, fb.length = x := ⟨_, rfl⟩
      have HN2A := Lib.hid hna2
      have HN2B := Lib.hid hnb2
      have hnn2 : nn = na2 := by rw [HNF.out]; exact hna2
      subst hnn2
      obtain ⟨nx, hnx2⟩ : ∃ nx, nx = nn + nb2 := ⟨_, rfl⟩
      have HCUT : Hid (∀ W, (Instr.slice 22 (.slice Ax nx cx) (some (.int .i64 (nn : Int))) none none).run Try.prog W = .ok (.slice xb nb2 cb) W) := Lib.hid (fun W => by
        have h := run_cut7 (P := Try.prog) 22 26 Try.underlying22 (by kernel_rfl) Ax nx cx nn (by omega) (by omega) W
        rw [show nx - nn = nb2 by omega, ← hna2, ← hxb, ← hcb, hna2] at h
        exact h)
      rw [← hxb] at HVB
      rw [hna2] at HVA
      rw [hnb2] at HVB
      rw [hna2, hnb2] at hlx hnx HVx HNX HLN ⊢
      rw [← hnx2] at hnx HVx HNX ⊢
      have hnnI : (nn : Int) ≤ (cx : Int) := by omega
      have hnn0 : (nn : Int) ≤ (nx : Int) := by omega
      have HX9 : Hid (nn ≤ 5 ∧ nb2 ≤ 5 ∧ nx = nn + nb2) := Lib.hid ⟨HLN.out.1, HLN.out.2, hnx2⟩
      have HBFA : Hid ((∀ i, (aAt fa i).b.length < 1000000) ∧ (∀ i, (aAt fb i).b.length < 1000000)) := Lib.hid ⟨may_b HMF.out.1, may_b HMF.out.2.1⟩
      have HFLA : Hid (byteL (flatA fa) ∧ (flatA fa).length ≤ 5210) := Lib.hid ⟨flatA_byte (fun i _ => HVA.out.byte i), flat_le HMF.out.1 (by rw [HN2A.out]; exact HX9.out.1)⟩
      have HFLB : Hid (byteL (flatA fb) ∧ (flatA fb).length ≤ 5210) := Lib.hid ⟨flatA_byte (fun i _ => HVB.out.byte i), flat_le HMF.out.2.1 (by rw [HN2B.out]; exact HX9.out.2.1)⟩
      have HPF : Hid (parseL (flatA fa ++ flatA fb) = some (fa ++ fb)) := Lib.hid (by rw [← flatA_app]; exact parse_flat HMF.out.2.2)
      have HSF := Lib.hid (allF_self (fa ++ fb))
      have HLX := Lib.hid hlx
      have HB20 := HBW
      clear hna2 hnb2 hxb hcb hnx2 hlx hvx hnx hcx HNF h35
      have hx91 := HX9.out.1
      have hx92 := HX9.out.2.1
      have hx93 : nx ≤ 10 := by have := HX9.out; omega
      go_wp2_with fail
      refine (ours27_any Ax nn cx fa _ HVA.out (by omega) HBFA.out.1).mono ?_
      rintro e w21 ⟨v21, rfl, ho21, hb21⟩
      have HB21 : Hid (Below w.heap.size w w21) := Lib.hid (HB20.out.trans (Below.mono hb21 HB20.out.size))
      have HVx_21 : Hid (AcV w21 Ax nx (fa ++ fb)) := Lib.hid (HVx.out.below hb21)
      have HVa_21 : Hid (AcV w21 Ax nn fa) := Lib.hid (HVA.out.below hb21)
      have HVb_21 : Hid (AcV w21 xb nb2 fb) := Lib.hid (HVB.out.below hb21)
      obtain ⟨A21, c21, rfl, hv21, _, _, hz21⟩ := ho21.acV (Nat.le_refl _) hb21.size
      have HVp_21 : Hid (AcV w21 A21 (fa).length (fa)) := Lib.hid hv21
      clear ho21 hb21 hv21 hz21
      clear HVx HVA HVB
      rw [HN2A.out] at HVp_21 ⊢
      go_wp2_with fail
      refine (encode_any A21 nn c21 fa _ HVp_21.out (by omega)).mono ?_
      rintro e w22 ⟨hb22, hE22⟩
      have HB22 : Hid (Below w.heap.size w w22) := Lib.hid (HB21.out.trans (Below.mono hb22 HB21.out.size))
      have HVx_22 : Hid (AcV w22 Ax nx (fa ++ fb)) := Lib.hid (HVx_21.out.below hb22)
      have HVa_22 : Hid (AcV w22 Ax nn fa) := Lib.hid (HVa_21.out.below hb22)
      have HVb_22 : Hid (AcV w22 xb nb2 fb) := Lib.hid (HVb_21.out.below hb22)
      have HVp_22 : Hid (AcV w22 A21 nn fa) := Lib.hid (HVp_21.out.below hb22)
      clear HVx_21 HVa_21 HVb_21 HVp_21
      clear HVp_22
      rcases hE22 with ⟨hall9, ve, rfl, ho22⟩ | ⟨hno, _⟩
      rotate_left 1
      · exact absurd HMF.out.1 hno
      clear hall9
      obtain ⟨Ae, ce, rfl, hse⟩ := ho22.bs HFLA.out.1
      have HZE := Lib.hid (own_zero ho22)
      obtain ⟨ne, hne⟩ : ∃ x, (flatA fa).length = x := ⟨_, rfl⟩
      have HNE := Lib.hid hne
      rw [hne] at hse HFLA ⊢
      have HSE_22 : Hid (BS w22 w22.heap.size Ae ne ce (flatA fa)) := Lib.hid hse
      clear hse ho22 hb22 hne
      clear HVa_22
      go_upto_region 12 with (fail)
      have hcut := HCUT.out
      go_wp2_with fail
      clear hcut
      refine (ours27_any xb nb2 cb fb _ HVb_22.out (by omega) HBFA.out.2).mono ?_
      rintro e w23 ⟨v23, rfl, ho23, hb23⟩
      have HB23 : Hid (Below w.heap.size w w23) := Lib.hid (HB22.out.trans (Below.mono hb23 HB22.out.size))
      have HVx_23 : Hid (AcV w23 Ax nx (fa ++ fb)) := Lib.hid (HVx_22.out.below hb23)
      have HVb_23 : Hid (AcV w23 xb nb2 fb) := Lib.hid (HVb_22.out.below hb23)
      have HSE_23 : Hid (BS w23 w23.heap.size Ae ne ce (flatA fa)) := Lib.hid ((HSE_22.out.below hb23).more hb23.size)
      clear HSE_22
      clear HVx_22 HVb_22
      obtain ⟨A23, c23, rfl, hv23, _, _, hz23⟩ := ho23.acV (Nat.le_refl _) hb23.size
      rw [HN2B.out] at hv23 ⊢
      have HVp_23 : Hid (AcV w23 A23 nb2 fb) := Lib.hid hv23
      clear ho23 hb23 hv23 hz23
      go_wp2_with fail
      refine (encode_any A23 nb2 c23 fb _ HVp_23.out (by omega)).mono ?_
      rintro e w24 ⟨hb24, hE24⟩
      have HB24 : Hid (Below w.heap.size w w24) := Lib.hid (HB23.out.trans (Below.mono hb24 HB23.out.size))
      have HVx_24 : Hid (AcV w24 Ax nx (fa ++ fb)) := Lib.hid (HVx_23.out.below hb24)
      have HVb_24 : Hid (AcV w24 xb nb2 fb) := Lib.hid (HVb_23.out.below hb24)
      have HVp_24 : Hid (AcV w24 A23 nb2 fb) := Lib.hid (HVp_23.out.below hb24)
      have HSE_24 : Hid (BS w24 w24.heap.size Ae ne ce (flatA fa)) := Lib.hid ((HSE_23.out.below hb24).more hb24.size)
      clear HSE_23
      clear HVx_23 HVb_23 HVp_23
      clear HVp_24
      clear HVb_24
      rcases hE24 with ⟨hall9, ve, rfl, ho24⟩ | ⟨hno, _⟩
      rotate_left 1
      · exact absurd HMF.out.2.1 hno
      clear hall9
      obtain ⟨Af, cf, rfl, hsf⟩ := ho24.bs HFLB.out.1
      have HZF := Lib.hid (own_zero ho24)
      have HSG : Hid (BS w24 w24.heap.size Af (flatA fb).length cf (flatA fb)) := Lib.hid hsf
      clear hsf ho24 hb24
      obtain ⟨nf, hnf⟩ : ∃ x, (flatA fb).length = x := ⟨_, rfl⟩
      have HNF := Lib.hid hnf
      rw [hnf] at HSG HFLB ⊢
      clear hnf
      -- the two are put together
      have HO0 : Hid (Own (w24.alloc (.cells #[] 5)) w24.heap.size (.slice (some ⟨w24.heap.size, 0, none⟩) 0 0) []) := Lib.hid (Own.blk (Nat.le_refl _) (heap_alloc_new _ _) rfl (by omega) (by unfold maxLen; omega) rfl rfl)
      have HAL : Hid (Below w24.heap.size w24 (w24.alloc (.cells #[] 5))) := Lib.hid (al1 _ _)
      have HS0 : Hid (BS (w24.alloc (.cells #[] 5)) w24.heap.size Ae ne ce (flatA fa)) := Lib.hid (HSE_24.out.below HAL.out)
      have HL0 : Hid (([] : List Nat).length + ne < 1000000000) := Lib.hid (by simp; have := HFLA.out.2; omega)
      have HL1 : Hid ((flatA fa).length + nf < 1000000000) := Lib.hid (by rw [HNE.out]; have := HFLA.out.2; have := HFLB.out.2; omega)
      go_wp2_with (at_builtin; refine wp_apps _ rfl (.tmp 57) (.tmp 58) rfl w24.heap.size (.slice (some ⟨w24.heap.size, 0, none⟩) 0 0) [] rfl HO0.out w24.heap.size Ae ne ce (flatA fa) rfl HS0.out HZE.out HL0.out HAL.out.size ?_; intro v30 w30 ho30 hd30; rw [List.nil_append] at ho30; have HO30 := Lib.hid ho30; have HD30 : Hid (Below w24.heap.size w24 w30) := Lib.hid (HAL.out.trans hd30); have HS30 : Hid (BS w30 w24.heap.size Af nf cf (flatA fb)) := Lib.hid (HSG.out.below (HAL.out.trans hd30)); clear ho30 hd30; go_wp2_with (at_builtin; refine wp_apps _ rfl (.tmp 59) (.tmp 60) rfl w24.heap.size v30 (flatA fa) rfl HO30.out w24.heap.size Af nf cf (flatA fb) rfl HS30.out HZF.out HL1.out HD30.out.size ?_; intro v31 w31 ho31 hd31; have HD31 : Hid (Below w24.heap.size w24 w31) := Lib.hid (HD30.out.trans hd31); obtain ⟨Ag, cg, rfl, hsg⟩ := ho31.bs (byteL_app HFLA.out.1 HFLB.out.1); obtain ⟨ng, hng⟩ : ∃ x, (flatA fa ++ flatA fb).length = x := ⟨_, rfl⟩; rw [hng] at hsg ⊢; have HNG := Lib.hid hng; clear hng; have HSG31 := Lib.hid hsg; clear ho31 hd31 hsg))
      have HVx31 : Hid (AcV w31 Ax nx (fa ++ fb)) := Lib.hid (HVx_24.out.below HD31.out)
      have HB31b : Hid (Below w.heap.size w w31) := Lib.hid (HB24.out.trans (Below.mono HD31.out HB24.out.size))
      clear HVx_24 HB31
      have HB31 := HB31b
      have HP31 := Lib.hid (pparse_any Ag ng cg (flatA fa ++ flatA fb) w31 HSG31.out (by rw [← HNG.out, List.length_append, HNE.out, HNF.out]; have := HFLA.out.2; have := HFLB.out.2; omega))
      go_wp2_with fail
      refine (HP31.out).mono ?_
      rintro e w32 ⟨hb32, hP32⟩
      have HB32 : Hid (Below w.heap.size w w32) := Lib.hid (HB31.out.trans (Below.mono hb32 HB31.out.size))
      have HVx_32 : Hid (AcV w32 Ax nx (fa ++ fb)) := Lib.hid (HVx31.out.below hb32)
      clear HVx31
      rcases hP32 with ⟨h0, _⟩ | ⟨l2, A2, c2, h0, rfl, hv2, h12⟩
      · rw [HPF.out] at h0; cases h0
      clear h12
      rw [HPF.out] at h0
      have hl2 := Option.some.inj h0
      subst hl2
      have HVz_32 := Lib.hid hv2
      have hlen2 : (fa ++ fb).length = nx := HVz_32.out.1 ▸ HVx_32.out.1
      rw [hlen2] at HVz_32 ⊢
      have HL2 := Lib.hid hlen2
      clear h0 hv2 HPF hb32 hlen2
      go_wp2_with fail
      refine (plain27_any A2 nx c2 (fa ++ fb) _ HVz_32.out (by omega) (may_b HMF.out.2.2)).mono ?_
      rintro e w33 ⟨v33, rfl, ho33, hb33⟩
      have HB33 : Hid (Below w.heap.size w w33) := Lib.hid (HB32.out.trans (Below.mono hb33 HB32.out.size))
      have HVx_33 : Hid (AcV w33 Ax nx (fa ++ fb)) := Lib.hid (HVx_32.out.below hb33)
      have HVz_33 : Hid (AcV w33 A2 nx (fa ++ fb)) := Lib.hid (HVz_32.out.below hb33)
      obtain ⟨A33, c33, rfl, hv33, _, _, hz33⟩ := ho33.acV (Nat.le_refl _) hb33.size
      have HVq_33 : Hid (AcV w33 A33 (fa ++ fb).length (fa ++ fb)) := Lib.hid hv33
      clear ho33 hb33 hv33 hz33
      clear HVx_32 HVz_32
      rw [HL2.out] at HVq_33 ⊢
      clear HVz_33
      go_wp2_with fail
      refine (rall27_any A33 Ax nx c33 nx cx (fa ++ fb) (fa ++ fb) false _ HVq_33.out HVx_33.out (by omega) (by omega)).mono ?_
      rintro e w34 ⟨rfl, hb34⟩
      have HB34 : Hid (Below w.heap.size w w34) := Lib.hid (HB33.out.trans (Below.mono hb34 HB33.out.size))
      have HVx_34 : Hid (AcV w34 Ax nx (fa ++ fb)) := Lib.hid (HVx_33.out.below hb34)
      have HVq_34 : Hid (AcV w34 A33 nx (fa ++ fb)) := Lib.hid (HVq_33.out.below hb34)
      clear hb34
      rw [HSF.out]
      clear HVx_33 HVq_33
      go_wp2_with fail
      refine (awake27_any _).mono ?_
      rintro e w35 ⟨rfl, hb35⟩
      have HB35 : Hid (Below w.heap.size w w35) := Lib.hid (HB34.out.trans (Below.mono hb35 HB34.out.size))
      have HVx_35 : Hid (AcV w35 Ax nx (fa ++ fb)) := Lib.hid (HVx_34.out.below hb35)
      have HVq_35 : Hid (AcV w35 A33 nx (fa ++ fb)) := Lib.hid (HVq_34.out.below hb35)
      clear hb35
      clear HVx_34 HVq_34
      go_wp2
      go_ret
      exact ⟨rfl, HB35.out⟩
end Go.Proofs.Ytkgmggjlnibgmaa
