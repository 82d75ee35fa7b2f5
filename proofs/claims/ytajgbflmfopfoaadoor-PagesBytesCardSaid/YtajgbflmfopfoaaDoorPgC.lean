/-
  What the document says of one page, and of a row.
-/
import Derived.Test.YtajgbflmfopfoaaDoorPgB
namespace Go.Proofs.YtajgbflmfopfoaaDoor
open Go.RowKit Go
set_option linter.unusedVariables false
set_option linter.unusedSimpArgs false
set_option maxRecDepth 100000
theorem oneP_0 (c r s n : Int) : oneP ⟨0, c, r, s, n⟩ = (c == 0 && (r == 0 && (s == 0 && n == 0))) := by
  simp [oneP, isZ, isT, isS, isH, eqP, pz, ptl]
theorem oneP_3 (c r s n : Int) : oneP ⟨3, c, r, s, n⟩ = (c == 0 && (r == 0 && (s == 0 && n == 0))) := by
  simp [oneP, isZ, isT, isS, isH, eqP, pz, ptl]
theorem oneP_no (k c r s n : Int) (h0 : k ≠ 0) (h1 : k ≠ 1) (h2 : k ≠ 2) (h3 : k ≠ 3) : oneP ⟨k, c, r, s, n⟩ = false := by
  simp [oneP, isZ, isT, isS, isH, eqP, pz, ptl, h0, h1, h2, h3]
set_option maxHeartbeats 4000000 in
theorem rone_any (p : Pg) (w : World) (hS : SZ w) : Calls Tryd.prog 16 #[p.val] w fun e w' => e = .returned (.bool (oneP p)) ∧ Below w.heap.size w w' := by
  obtain ⟨k, c, r, s, n⟩ := p
  have HW := Lib.hid (sz_alloc hS (.cells #[.int .i64 k, .int .i64 c, .int .i64 r, .int .i64 s, .int .u64 n] RT))
  clear hS
  have HBE := Lib.hid (bel_alloc w (.cells #[.int .i64 k, .int .i64 c, .int .i64 r, .int .i64 s, .int .u64 n] RT))
  by_cases k0 : k = 0
  · subst k0
    go_enter Tryd.func16, Tryd.ntmps16
    go_wp2
    all_goals go_ret
    all_goals refine ⟨retb ?_, (Below.refl _ _).alloc (Nat.le_refl _) _⟩
    all_goals rw [oneP_0]
    all_goals simp [*]
  · by_cases k3 : k = 3
    · subst k3
      go_enter Tryd.func16, Tryd.ntmps16
      go_wp2
      all_goals go_ret
      all_goals refine ⟨retb ?_, (Below.refl _ _).alloc (Nat.le_refl _) _⟩
      all_goals rw [oneP_3]
      all_goals simp [*]
    · by_cases k1 : k = 1
      · subst k1
        obtain ⟨z, hz, hc, hz0⟩ := rsize_any c
        have HZ := Lib.hid hz
        have HC := Lib.hid hc
        clear hz hc
        by_cases hr : r = 0 ∧ s = 0 ∧ n = 0
        · obtain ⟨rfl, rfl, rfl⟩ := hr
          go_enter Tryd.func16, Tryd.ntmps16
          go_wp2_with fail
          refine (HZ.out _ HW.out).mono ?_
          rintro e w' ⟨rfl, rfl⟩
          go_wp2
          all_goals go_ret
          all_goals refine ⟨retb ?_, (Below.refl _ _).alloc (Nat.le_refl _) _⟩
          all_goals rw [oneP_1, Bool.eq_iff_iff]
          all_goals simp [HC.out]
        · have HR := Lib.hid hr
          clear hr
          go_enter Tryd.func16, Tryd.ntmps16
          go_wp2
          all_goals first
            | (exfalso; have := HR.out; omega)
            | (go_ret; refine ⟨retb ?_, (Below.refl _ _).alloc (Nat.le_refl _) _⟩; rw [oneP_1]; exact (decide_eq_false (fun q => HR.out q.2.2)).symm)
      · by_cases k2 : k = 2
        · subst k2
          have HP := Lib.hid (rpages_any s)
          by_cases hb : 121 ≤ s ∧ s ≤ 4096
          · have e1 : szB s = true := decide_eq_true hb
            have e2 : szR s = (s + 255) / 256 := szR_in hb.1 hb.2
            rw [e1] at HP
            obtain ⟨z, hz⟩ : ∃ z, z = szR s := ⟨_, rfl⟩
            rw [← hz] at HP e2
            have HE := Lib.hid e2
            have HB := Lib.hid hb
            clear hz e1 e2 hb
            go_enter Tryd.func16, Tryd.ntmps16
            go_wp2_with fail
            refine (HP.out _ HW.out).mono ?_
            rintro e w' ⟨rfl, rfl⟩
            go_wp2
            all_goals go_ret
            all_goals refine ⟨retb ?_, (Below.refl _ _).alloc (Nat.le_refl _) _⟩
            all_goals rw [oneP_2, ← HE.out, Bool.eq_iff_iff, decide_eq_true_iff]
            all_goals have hb := HB.out
            all_goals simp
            all_goals omega
          · have e1 : szB s = false := decide_eq_false hb
            rw [e1] at HP
            have HB := Lib.hid hb
            clear hb
            obtain ⟨z, hz⟩ : ∃ z, z = szR s := ⟨_, rfl⟩
            rw [← hz] at HP
            clear hz
            go_enter Tryd.func16, Tryd.ntmps16
            go_wp2_with fail
            refine (HP.out _ HW.out).mono ?_
            rintro e w' ⟨rfl, rfl⟩
            go_wp2
            all_goals go_ret
            all_goals refine ⟨retb ?_, (Below.refl _ _).alloc (Nat.le_refl _) _⟩
            all_goals rw [oneP_2]
            all_goals exact (decide_eq_false (fun q => HB.out ⟨q.2.1, q.2.2.1⟩)).symm
        · have HN := Lib.hid (oneP_no k c r s n k0 k1 k2 k3)
          go_enter Tryd.func16, Tryd.ntmps16
          go_wp2
          go_ret
          refine ⟨retb ?_, (Below.refl _ _).alloc (Nat.le_refl _) _⟩
          rw [HN.out]
/-! the document's May -/
theorem isT_one {p : Pg} (h : isT p = true) : oneP p = true := by rw [oneP_iff, isT_iff.1 h]; exact .inr (.inl rfl)
theorem ok_not {l : List Pg} {k : Nat} (hk : k < l.length) (h : oneP (pg l k) = false ∨ (pg l k).k = 3) : okL (l.drop k) = false := by
  cases hq : okL (l.drop k)
  · rfl
  · rw [drop_at hk, okL_cons] at hq
    rcases h with h | h
    · rw [h] at hq; cases hq.1
    · exact absurd h hq.2.1
theorem ok_go {l : List Pg} {k m : Nat} (hk : k < l.length) (h1 : oneP (pg l k) = true) (h3 : (pg l k).k ≠ 3) (hm : max (pg l k).r 1 = (m : Int)) :
    okL (l.drop k) = (decide (k + m ≤ l.length) && (((l.drop (k + 1)).take (m - 1)).all isT && okL (l.drop (k + m)))) := by
  have e : (max (pg l k).r 1 - 1).toNat = m - 1 := by omega
  have m1 : 1 ≤ m := by omega
  rw [Bool.eq_iff_iff, drop_at hk, okL_cons, e, Bool.and_eq_true, Bool.and_eq_true, decide_eq_true_iff, List.drop_drop, List.length_drop]
  have e2 : k + 1 + (m - 1) = k + m := by omega
  rw [e2]
  constructor
  · rintro ⟨_, _, q3, q4, q5⟩; exact ⟨by omega, q4, q5⟩
  · rintro ⟨q3, q4, q5⟩; exact ⟨h1, h3, by omega, q4, q5⟩
theorem pg_some {l : List Pg} {i : Nat} (h : i < l.length) : l[i]? = some (pg l i) := by
  show l[i]? = some (l.getD i pz)
  rw [List.getD_eq_getElem?_getD, List.getElem?_eq_getElem h]; rfl
theorem all_no {l : List Pg} {f : Pg → Bool} {a j m : Nat} (hj : j < m) (hl : a + j < l.length) (h : f (pg l (a + j)) = false) : ((l.drop a).take m).all f = false := by
  cases hq : ((l.drop a).take m).all f
  · rfl
  · rw [List.all_eq_true] at hq
    have e : ((l.drop a).take m)[j]? = some (pg l (a + j)) := by
      rw [List.getElem?_take_of_lt hj, List.getElem?_drop]; exact pg_some hl
    rw [hq _ (List.mem_of_getElem? e)] at h
    cases h
theorem all_more {l : List Pg} {f : Pg → Bool} {a j : Nat} (hl : a + j < l.length) (h : ((l.drop a).take j).all f = true) (h1 : f (pg l (a + j)) = true) : ((l.drop a).take (j + 1)).all f = true := by
  have e : (l.drop a)[j]? = some (pg l (a + j)) := by
    rw [List.getElem?_drop]; exact pg_some hl
  rw [List.take_add_one, e, List.all_append, h]
  simp only [Option.toList_some, List.all_cons, h1, List.all_nil]; rfl
theorem PS.cells {w : World} {A : Option Addr} {n c : Nat} {l : List Pg} (h : PS w A n c l) (hn : 0 < n) : ∃ b o, A = some ⟨b, o, none⟩ ∧ b < w.heap.size ∧ ∀ W, Below w.heap.size w W → b < W.heap.size ∧ ∀ i, i < n → PAt W b (o + i * 5) (pg l i) := by
  obtain ⟨b, o, h1, h2, h3⟩ := h.at_ hn
  exact ⟨b, o, h1, h2, fun W hb => ⟨Nat.lt_of_lt_of_le h2 hb.size, fun i hi => (h3 i hi).keep (hb.block b h2)⟩⟩
set_option maxHeartbeats 4000000 in
theorem rmay_any (A : Option Addr) (n c : Nat) (l : List Pg) (w : World) (h : PS w A n c l) (hS : SZ w) :
    Calls Tryd.prog 14 #[.slice A n c] w fun e w' => e = .returned (.bool (mayL l)) ∧ Below w.heap.size w w' := by
  have HP := Lib.hid h
  have HSZ := Lib.hid hS
  have hln := h.len
  have HLN := Lib.hid hln
  have hcn := h.cap
  have hcm := h.capm
  have HONE : Hid (∀ (p : Pg) W, Below w.heap.size w W → Calls Tryd.prog 16 #[p.val] W fun e w' => e = .returned (.bool (oneP p)) ∧ Below W.heap.size W w') := Lib.hid (fun p W q => rone_any p W (hS.below q))
  clear h hS hln
  by_cases h64 : 64 < n
  · have HM : Hid (mayL l = false) := Lib.hid (by unfold mayL; rw [HLN.out, decide_eq_false (by omega)]; rfl)
    rw [HM.out]
    go_enter Tryd.func14, Tryd.ntmps14
    go_wp2
    go_ret
    exact ⟨rfl, Below.refl _ _⟩
  have HM : Hid (mayL l = okL l) := Lib.hid (by unfold mayL; rw [HLN.out, decide_eq_true (by omega)]; rfl)
  rw [HM.out]
  clear HM
  go_enter Tryd.func14, Tryd.ntmps14
  go_wp2
  go_loopw [3] (fun i W => ∃ k : Nat, i = .int .i64 (k : Int) ∧ k ≤ n ∧ okL (l.drop k) = okL l ∧ Below w.heap.size w W) (fun i _ => n - (intOf i).toNat)
  case atStart => exact ⟨0, rfl, Nat.zero_le _, rfl, Below.refl _ _⟩
  case round =>
    obtain ⟨k, rfl, hk, hl, hb⟩ := hrel
    have HL := Lib.hid hl
    have HB := Lib.hid hb
    clear hl hb
    by_cases hlt : k < n
    · obtain ⟨b, o, rfl, hb0, hcell⟩ := HP.out.cells (by omega)
      have HCE := Lib.hid hcell
      have hbW := (hcell _ HB.out).1
      have hp := (hcell _ HB.out).2 k hlt
      obtain ⟨p, hpe⟩ : ∃ p, p = pg l k := ⟨_, rfl⟩
      rw [← hpe] at hp
      have HPE := Lib.hid hpe
      have HPA := Lib.hid hp
      obtain ⟨c0, c1, c2, c3, c4⟩ := hp
      clear hpe hcell
      have hltI : (k : Int) < (n : Int) := by omega
      obtain ⟨x, hx⟩ : ∃ x, x = oneP p := ⟨_, rfl⟩
      have HX := Lib.hid hx
      clear hx
      go_wp2_with fail
      refine (HONE.out p _ HB.out).mono ?_
      rintro e w' ⟨rfl, hb2⟩
      rw [← HX.out]
      have HB2 := Lib.hid (HB.out.trans (hb2.mono HB.out.size))
      have hbW2 := (HCE.out _ HB2.out).1
      clear c0 c1 c2 c3 c4
      obtain ⟨c0, c1, c2, c3, c4⟩ := HPA.out.keep (hb2.block b hbW)
      clear hb2 HPA hbW
      cases x
      · go_wp2
        go_ret
        refine ⟨retb ?_, HB2.out⟩
        rw [← HL.out, ok_not (by rw [HLN.out]; exact hlt) (.inl (by rw [← HPE.out]; exact HX.out.symm))]
      · by_cases hk3 : p.k = 3
        · go_wp2
          go_ret
          refine ⟨retb ?_, HB2.out⟩
          rw [← HL.out, ok_not (by rw [HLN.out]; exact hlt) (.inr (by rw [← HPE.out]; exact hk3))]
        · have ho := one_run HX.out.symm
          by_cases hk2 : p.k = 2
          · obtain ⟨m, hm⟩ : ∃ m : Nat, p.r = (m : Int) := ⟨p.r.toNat, by omega⟩
            have hm1 : 1 ≤ m ∧ m ≤ 16 := by omega
            have hgo := ok_go (m := m) (show k < l.length by rw [HLN.out]; exact hlt) (by rw [← HPE.out]; exact HX.out.symm) (by rw [← HPE.out]; exact hk3) (by rw [← HPE.out]; omega)
            rw [HL.out, HLN.out] at hgo
            have HGO := Lib.hid hgo
            rw [hm] at c2
            obtain ⟨hm1, hm2⟩ := hm1
            clear hgo ho hm
            by_cases hle : k + m ≤ n
            · obtain ⟨e, he⟩ : ∃ e : Nat, e = k + m := ⟨_, rfl⟩
              have he2 : (k : Int) + (m : Int) = (e : Int) := by omega
              have HE := Lib.hid he
              have hen : e ≤ n := by omega
              have hke : k + 1 ≤ e := by omega
              have hle2 : ¬ (n : Int) - (k : Int) < (m : Int) := by omega
              clear he
              go_wp2
              clear c0 c1 c2 c3 c4
              go_loopw [5] (fun v W => ∃ a : Nat, v = .int .i64 (a : Int) ∧ k + 1 ≤ a ∧ a ≤ e ∧ ((l.drop (k + 1)).take (a - (k + 1))).all isT = true ∧ Below w.heap.size w W) (fun v _ => e - (intOf v).toNat)
              case atStart => exact ⟨k + 1, by go_num, Nat.le_refl _, hke, by simp, HB2.out⟩
              case round =>
                obtain ⟨a, rfl, ha1, ha2, hal, hb3⟩ := hrel
                have HB3 := Lib.hid hb3
                have HAL := Lib.hid hal
                clear hb3 hal
                by_cases hae : a < e
                · have haeI : (a : Int) < (e : Int) := by omega
                  have han : a < n := by omega
                  have hbW3 := (HCE.out _ HB3.out).1
                  have hpa := (HCE.out _ HB3.out).2 a han
                  obtain ⟨q, hq⟩ : ∃ q, q = pg l a := ⟨_, rfl⟩
                  rw [← hq] at hpa
                  have HQ := Lib.hid hq
                  have HPA := Lib.hid hpa
                  obtain ⟨c0, c1, c2, c3, c4⟩ := hpa
                  obtain ⟨y, hy⟩ : ∃ y, y = oneP q := ⟨_, rfl⟩
                  have HY := Lib.hid hy
                  clear hq hy
                  have HBAD : Hid (isT q = false → okL l = false) := Lib.hid (fun hz => by
                    rw [HGO.out, all_no (j := a - (k + 1)) (by have := HE.out; omega) (by rw [HLN.out]; omega) (by rw [show k + 1 + (a - (k + 1)) = a by omega, ← HQ.out]; exact hz), Bool.false_and, Bool.and_false])
                  go_wp2_with fail
                  refine (HONE.out q _ HB3.out).mono ?_
                  rintro en w4 ⟨rfl, hb4⟩
                  rw [← HY.out]
                  have HB4 := Lib.hid (HB3.out.trans (hb4.mono HB3.out.size))
                  have hbW4 := (HCE.out _ HB4.out).1
                  clear c0 c1 c2 c3 c4
                  obtain ⟨c0, c1, c2, c3, c4⟩ := HPA.out.keep (hb4.block b hbW3)
                  clear hb4 HPA hbW3
                  cases y
                  · go_wp2
                    go_ret
                    refine ⟨retb ?_, HB4.out⟩
                    exact (HBAD.out (by cases hz : isT q; rfl; rw [isT_one hz] at HY; cases HY.out)).symm
                  · by_cases hq3 : q.k = 3
                    · have hst := (one_run HY.out.symm).2.2.2.2.1 hq3
                      have HST := Lib.hid hst
                      clear hst
                      go_wp2
                      go_roundw
                      case rel =>
                        refine ⟨a + 1, by go_num, by omega, by omega, ?_, HB4.out⟩
                        have := all_more (l := l) (f := isT) (a := k + 1) (j := a - (k + 1)) (by rw [HLN.out]; omega) HAL.out (by rw [show k + 1 + (a - (k + 1)) = a by omega, ← HQ.out]; exact HST.out)
                        rw [show a + 1 - (k + 1) = a - (k + 1) + 1 by omega]
                        exact this
                      case measure => simp [intOf]; omega
                    · go_wp2
                      go_ret
                      refine ⟨retb ?_, HB4.out⟩
                      exact (HBAD.out (by cases hz : isT q; rfl; exact absurd ((one_run HY.out.symm).2.2.2.2.2 hz) hq3)).symm
                · obtain rfl : a = e := by omega
                  have HNX : Hid (okL (l.drop a) = okL l) := Lib.hid (by
                    rw [HGO.out]
                    have h1 := HE.out
                    have h2 := HAL.out
                    rw [show a - (k + 1) = m - 1 by omega] at h2
                    rw [h2, decide_eq_true (show k + m ≤ n by omega), ← h1]
                    rfl)
                  go_wp2
                  go_roundw
                  case rel => exact ⟨a, by go_num, hen, HNX.out, HB3.out⟩
                  case measure => simp [intOf]; omega
            · have hle2 : (n : Int) - (k : Int) < (m : Int) := by omega
              go_wp2
              go_ret
              refine ⟨retb ?_, HB2.out⟩
              rw [HGO.out, decide_eq_false hle]; rfl
          · obtain ⟨m, hm⟩ : ∃ m : Nat, m = 1 := ⟨1, rfl⟩
            have hgo := ok_go (m := 1) (show k < l.length by rw [HLN.out]; exact hlt) (by rw [← HPE.out]; exact HX.out.symm) (by rw [← HPE.out]; exact hk3) (by rw [← HPE.out]; have := ho.2.2.1 hk2; omega)
            rw [HL.out, HLN.out] at hgo
            have HGO := Lib.hid hgo
            clear hgo ho hm
            have hle : k + 1 ≤ n := hlt
            obtain ⟨e, he⟩ : ∃ e : Nat, e = k + 1 := ⟨_, rfl⟩
            have he2 : (k : Int) + 1 = (e : Int) := by omega
            have HE := Lib.hid he
            have hen : e ≤ n := by omega
            have hke : k + 1 ≤ e := by omega
            have hle2 : ¬ (n : Int) - (k : Int) < 1 := by omega
            clear he
            go_wp2
            clear c0 c1 c2 c3 c4
            go_loopw [5] (fun v W => ∃ a : Nat, v = .int .i64 (a : Int) ∧ k + 1 ≤ a ∧ a ≤ e ∧ ((l.drop (k + 1)).take (a - (k + 1))).all isT = true ∧ Below w.heap.size w W) (fun v _ => e - (intOf v).toNat)
            case atStart => exact ⟨k + 1, by go_num, Nat.le_refl _, hke, by simp, HB2.out⟩
            case round =>
              obtain ⟨a, rfl, ha1, ha2, hal, hb3⟩ := hrel
              have HB3 := Lib.hid hb3
              have HAL := Lib.hid hal
              clear hb3 hal
              by_cases hae : a < e
              · exfalso; have := HE.out; omega
              · obtain rfl : a = e := by omega
                have HNX : Hid (okL (l.drop a) = okL l) := Lib.hid (by
                  rw [HGO.out]
                  have h1 := HE.out
                  have h2 := HAL.out
                  rw [show a - (k + 1) = 1 - 1 by omega] at h2
                  rw [h2, decide_eq_true (show k + 1 ≤ n by omega), ← h1]
                  rfl)
                go_wp2
                go_roundw
                case rel => exact ⟨a, by go_num, hen, HNX.out, HB3.out⟩
                case measure => simp [intOf]; omega
    · obtain rfl : k = n := by omega
      have hz : okL l = true := by
        rw [← HL.out, List.drop_of_length_le (by rw [HLN.out]; exact Nat.le_refl _)]; rfl
      have HZ := Lib.hid hz
      clear hz
      go_wp2
      go_ret
      refine ⟨retb ?_, HB.out⟩
      rw [HZ.out]
end Go.Proofs.YtajgbflmfopfoaaDoor
