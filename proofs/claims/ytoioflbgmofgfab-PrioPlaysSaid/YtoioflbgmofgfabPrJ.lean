/-
  The document's list: Least, Cut.
-/
import Derived.Test.YtoioflbgmofgfabPrI
import Derived.Deep.QuietTactic
import Derived.BigQuiet
namespace Go.Proofs.Ytoioflbgmofgfab
open Go.RowKit Go
set_option linter.unusedVariables false
set_option linter.unusedSimpArgs false
def LsR (w0 : World) (A : Option Addr) (n c : Nat) (l : List (Int × Int)) (a i : Value) (W : World) : Prop := ∃ k : Nat, i = .int .i64 (k : Int) ∧ k ≤ n ∧ a = .int .i64 (leastF l k) ∧ Below w0.heap.size w0 W ∧ TS W A n c l
theorem below_drewN {w W : World} {B : Nat} (h : Below B w W) (q : Nat) : Below B w (W.drewN q) := ⟨h.os, h.tape, h.output, h.size, h.block⟩
theorem TS.drewN {W : World} {A : Option Addr} {n c : Nat} {l : List (Int × Int)} (h : TS W A n c l) (q : Nat) : TS (W.drewN q) A n c l := h.below (below_drewN (Below.refl _ _) q)
set_option maxHeartbeats 1000000 in
theorem least_any (A : Option Addr) (n c : Nat) (l : List (Int × Int)) (w : World) (h : TS w A n c l) (hn : n ≤ 1000000000) :
    Calls Try.prog 18 #[.slice A n c] w fun e w' => e = .returned (.int .i64 (leastF l n)) ∧ Below w.heap.size w w' := by
  have hcap := h.cap
  have hcm := h.capm
  have HST : Hid (LsR w A n c l (.int .i64 (-1)) (.int .i64 0) w) := Lib.hid ⟨0, rfl, Nat.zero_le _, rfl, Below.refl _ _, h⟩
  clear h
  go_enter Try.func18, Try.ntmps18
  go_wp2_with fail
  go_loopw [3, 8] (fun a i W => LsR w A n c l a i W) (fun a i _ => n - (intOf i).toNat)
  case atStart => exact HST.out
  case round =>
    obtain ⟨k, rfl, hk, rfl, hb, ht⟩ := hrel
    have HB := Lib.hid hb
    have HT := Lib.hid ht
    clear hb ht HST
    by_cases hlt : k < n
    · obtain ⟨b, o, rfl, hbw, hcell⟩ := HT.out.at_ (by omega)
      obtain ⟨x, hx⟩ : ∃ x, x = l.getD k (0, 0) := ⟨_, rfl⟩
      have a := (hcell k hlt).1
      have a2 := (hcell k hlt).2
      rw [← hx] at a a2
      have HX := Lib.hid hx
      have HBA : Hid (∀ q, Below w.heap.size w ((wr.alloc (.cells #[.int .i64 x.1, .int .i64 x.2] ThT)).drewN q)) := Lib.hid (fun q => below_drewN (HB.out.alloc HB.out.size _) q)
      have HTA : Hid (∀ q, TS ((wr.alloc (.cells #[.int .i64 x.1, .int .i64 x.2] ThT)).drewN q) (some ⟨b, o, none⟩) n c l) := Lib.hid (fun q => (HT.out.below ((Below.refl _ _).alloc (Nat.le_refl _) _)).drewN q)
      clear hx
      rcases Nat.eq_zero_or_pos k with h0 | h0
      · subst h0
        have hl0 : leastF l 0 = -1 := rfl
        have HL1 : Hid (leastF l (0 + 1) = 0) := Lib.hid (by rw [leastF, hl0, if_pos (.inl (by omega))]; rfl)
        rw [hl0]
        rw [Nat.zero_mul, Nat.add_zero] at a a2
        clear hcell hl0
        go_wp2_with fail
        go_quiet (fail)
        go_wp2
        go_roundw
        case rel => exact ⟨1, by go_num, by omega, by rw [HL1.out]; rfl, HBA.out _, HTA.out _⟩
        case measure => simp [intOf]; omega
      · obtain ⟨p, hp, hpk, _, _⟩ := leastF_spec l k h0
        have d := (hcell p (by omega)).1
        rw [hp]
        by_cases hc : x.1 < (l.getD p (0, 0)).1
        · have HL1 : Hid (leastF l (k + 1) = (k : Int)) := Lib.hid (by rw [leastF, hp, if_pos (.inr (by rw [Int.toNat_natCast, ← HX.out]; exact hc))])
          have hp1 : 0 ≤ (p : Int) := by omega
          have hp2 : decide ((p : Int) < 0) = false := by rw [decide_eq_false_iff_not]; omega
          have d2 := decide_eq_true hc
          clear hcell hp
          generalize (l.getD p (0, 0)).1 = y at *
          go_wp2_with fail
          go_quiet (fail)
          go_wp2
          go_roundw
          case rel => exact ⟨k + 1, by go_num, by omega, by rw [HL1.out], HBA.out _, HTA.out _⟩
          case measure => simp [intOf]; omega
        · have HL1 : Hid (leastF l (k + 1) = (p : Int)) := Lib.hid (by rw [leastF, hp, if_neg (by rw [Int.toNat_natCast, ← HX.out]; omega)])
          have hp1 : 0 ≤ (p : Int) := by omega
          have hp2 : decide ((p : Int) < 0) = false := by rw [decide_eq_false_iff_not]; omega
          have d2 := decide_eq_false hc
          clear hcell hp
          generalize (l.getD p (0, 0)).1 = y at *
          go_wp2_with fail
          go_quiet (fail)
          go_wp2
          go_roundw
          case rel => exact ⟨k + 1, by go_num, by omega, by rw [HL1.out], HBA.out _, HTA.out _⟩
          case measure => simp [intOf]; omega
    · obtain rfl : k = n := by omega
      go_wp2
      go_ret
      exact ⟨rfl, HB.out⟩
def CutE (w : World) (l : List (Int × Int)) (p : Nat) (e : Ending) (w' : World) : Prop := ∃ v, e = .returned v ∧ OwnT w' w.heap.size v (l.eraseIdx p) ∧ Below w.heap.size w w'
theorem flatT_app (x y : List (Int × Int)) : flatT (x ++ y) = flatT x ++ flatT y := by simp [flatT]
theorem TS.cells {W : World} {b o n c : Nat} {l : List (Int × Int)} (h : TS W (some ⟨b, o, none⟩) n c l) {j : Nat} (hj : j < n * 2) : W.cell? ⟨b, o + j, none⟩ = (flatT l)[j]? := by
  obtain ⟨b', o', e, _, hc⟩ := h.at_ (by omega)
  injection e with e
  injection e with e1 e2
  subst e1 e2
  have h1 := hc (j / 2) (by omega)
  have h2 := flatT_get l (j / 2) (by rw [h.len]; omega)
  rcases (by omega : j = j / 2 * 2 ∨ j = j / 2 * 2 + 1) with q | q
  · rw [q, h2.1, h1.1]
  · rw [q, h2.2, ← Nat.add_assoc, h1.2]
theorem TS.news_take {W : World} {b o n c p : Nat} {l : List (Int × Int)} (h : TS W (some ⟨b, o, none⟩) n c l) (hp : p ≤ n) : ∀ j u, (flatT (l.take p))[j]? = some u → W.cell? ((⟨b, o, none⟩ : Addr).add j) = some u := fun j u hj => by
  have hl : (flatT (l.take p)).length = p * 2 := by rw [flatT_len, List.length_take, h.len]; omega
  have hjl : j < p * 2 := by rw [← hl]; exact (List.getElem?_eq_some_iff.1 hj).1
  rw [Addr.add_mid, h.cells (by omega), ← hj]
  conv => lhs; rw [← List.take_append_drop p l, flatT_app, List.getElem?_append_left (by omega)]
theorem TS.news_drop {W : World} {b o n c q : Nat} {l : List (Int × Int)} (h : TS W (some ⟨b, o, none⟩) n c l) (hq : q ≤ n) : ∀ j u, (flatT (l.drop q))[j]? = some u → W.cell? ((⟨b, o + q * 2, none⟩ : Addr).add j) = some u := fun j u hj => by
  have hl : (flatT (l.drop q)).length = (n - q) * 2 := by rw [flatT_len, List.length_drop, h.len]
  have hjl : j < (n - q) * 2 := by rw [← hl]; exact (List.getElem?_eq_some_iff.1 hj).1
  have hl2 : (flatT (l.take q)).length = q * 2 := by rw [flatT_len, List.length_take, h.len]; omega
  rw [Addr.add_mid, Nat.add_assoc, h.cells (by omega), ← hj]
  conv => lhs; rw [← List.take_append_drop q l, flatT_app, List.getElem?_append_right (by omega), hl2, Nat.add_sub_cancel_left]
set_option maxHeartbeats 1000000 in
theorem cut_1 (b o n c p q : Nat) (l : List (Int × Int)) (w : World) (h : TS w (some ⟨b, o, none⟩) n c l) (hn : n ≤ 1000000000) (hp : p < n) (hc : n ≤ c) (hcm : c ≤ 9223372036854775807) (hq : q = p + 1) (hne : c ≠ q) :
    Calls Try.prog 21 #[.slice (some ⟨b, o, none⟩) n c, .int .i64 (p : Int)] w (CutE w l p) := by
  have hw1 : IntKind.i64.wrap ((p : Int) + 1) = (q : Int) := by rw [hq]; exact IntWalk.i64_in _ (by omega)
  have hqn : q ≤ n := by omega
  have hqc : q ≤ c := by omega
  have hpc : p ≤ c := by omega
  have hpn : p ≤ n := by omega
  have HQ := Lib.hid hq
  have HT := Lib.hid h
  have HT1 : Hid (TS (w.alloc (.cells #[] ThT)).drew (some ⟨b, o, none⟩) n c l) := Lib.hid (h.below (((Below.refl _ _).alloc (Nat.le_refl _) _).drew))
  have HN1 := Lib.hid (HT1.out.news_take hpn)
  have HBW : Hid (b < w.heap.size) := Lib.hid (by
    obtain ⟨b', o', e, hb, _⟩ := h.at_ (by omega)
    injection e with e; injection e with e; omega)
  have HO0 : Hid ((w.alloc (.cells #[] ThT)).drew.ownsRow w.heap.size ThT 2 (.slice (some ⟨w.heap.size, 0, none⟩) 0 0) 0 (flatT [])) := Lib.hid ⟨rfl, .inr ⟨w.heap.size, 0, #[], rfl, Nat.le_refl _, heap_alloc_new w _, Nat.le_refl _, by unfold maxLen; omega, rfl, rfl⟩⟩
  have HSZ : Hid (w.heap.size ≤ (w.alloc (.cells #[] ThT)).drew.heap.size) := Lib.hid (by show _ ≤ (w.alloc (.cells #[] ThT)).heap.size; simp)
  have HBL : Hid (Below w.heap.size w (w.alloc (.cells #[] ThT)).drew) := Lib.hid (((Below.refl _ _).alloc (Nat.le_refl _) _).drew)
  have hlp : (l.take p).length = p := by rw [List.length_take, h.len]; omega
  have hld : (l.drop q).length = n - q := by rw [List.length_drop, h.len]
  have HLP := Lib.hid hlp
  have HLD := Lib.hid hld
  obtain ⟨i0, hi0, hz0, hz1, hz2⟩ := info_parts zero_th
  clear hq h hlp hld
  go_enter Try.func21, Try.ntmps21
  go_wp2_with fail
  refine wp_region_F (S := fun _ => True) [] (by kernel_rfl) trivial (fun hHeld => ?_)
  refine wpAnyG_take (i := 1) (oi := _) (v := ?_) rfl (by kernel_rfl) (by kernel_rfl) (by kernel_rfl) (by kernel_rfl) (by kernel_rfl) (fun _ _ _ h => h) (Or.inl ⟨by rfl, ?_⟩) (by assumption) ?_
  rotate_left 1
  · intro w hSw
    (try dsimp only at hSw)
    (first | (go_simp; done) | (go_simp; with_reducible rfl))
  (try simp only [Act.put, List.getElem_toArray, List.getElem_cons_succ, List.getElem_cons_zero, List.setIfInBounds_toArray, List.set_cons_zero, List.set_cons_succ])
  refine wpAnyG_take (i := 2) (oi := _) (v := ?_) rfl (by kernel_rfl) (by kernel_rfl) (by kernel_rfl) (by kernel_rfl) (by kernel_rfl) (fun _ _ _ h => h) (Or.inl ⟨by rfl, ?_⟩) (by assumption) ?_
  rotate_left 1
  · intro w hSw
    (try dsimp only at hSw)
    (first | (go_simp; done) | (go_simp; with_reducible rfl))
  (try simp only [Act.put, List.getElem_toArray, List.getElem_cons_succ, List.getElem_cons_zero, List.setIfInBounds_toArray, List.set_cons_zero, List.set_cons_succ])
  refine wpAnyG_take (i := 3) (oi := _) (v := ?_) rfl (by kernel_rfl) (by kernel_rfl) (by kernel_rfl) (by kernel_rfl) (by kernel_rfl) (fun _ _ _ h => h) (Or.inl ⟨by rfl, ?_⟩) (by assumption) ?_
  rotate_left 1
  · intro w hSw
    (try dsimp only at hSw)
    (first | (go_simp; done) | (go_simp; with_reducible rfl))
  (try simp only [Act.put, List.getElem_toArray, List.getElem_cons_succ, List.getElem_cons_zero, List.setIfInBounds_toArray, List.set_cons_zero, List.set_cons_succ])
  refine wpAnyG_take (i := 5) (oi := _) (v := ?_) rfl (by kernel_rfl) (by kernel_rfl) (by kernel_rfl) (by kernel_rfl) (by kernel_rfl) (fun _ _ _ h => h) (Or.inl ⟨by rfl, ?_⟩) (by assumption) ?_
  rotate_left 1
  · intro w hSw
    (try dsimp only at hSw)
    (first | (go_simp; done) | (go_simp; with_reducible rfl))
  (try simp only [Act.put, List.getElem_toArray, List.getElem_cons_succ, List.getElem_cons_zero, List.setIfInBounds_toArray, List.set_cons_zero, List.set_cons_succ])
  refine wpAnyG_take (i := 6) (oi := _) (v := ?_) rfl (by kernel_rfl) (by kernel_rfl) (by kernel_rfl) (by kernel_rfl) (by kernel_rfl) (fun _ _ _ h => h) (Or.inl ⟨by rfl, ?_⟩) (by assumption) ?_
  rotate_left 1
  · intro w hSw
    (try dsimp only at hSw)
    (first | (go_simp; done) | (go_simp; with_reducible rfl))
  (try simp only [Act.put, List.getElem_toArray, List.getElem_cons_succ, List.getElem_cons_zero, List.setIfInBounds_toArray, List.set_cons_zero, List.set_cons_succ])
  refine wpAnyG_take (i := 7) (oi := _) (v := ?_) rfl (by kernel_rfl) (by kernel_rfl) (by kernel_rfl) (by kernel_rfl) (by kernel_rfl) (fun _ _ _ h => h) (Or.inl ⟨by rfl, ?_⟩) (by assumption) ?_
  rotate_left 1
  · intro w hSw
    (try dsimp only at hSw)
    (first | (go_simp; done) | (go_simp; with_reducible rfl))
  (try simp only [Act.put, List.getElem_toArray, List.getElem_cons_succ, List.getElem_cons_zero, List.setIfInBounds_toArray, List.set_cons_zero, List.set_cons_succ])
  refine wpAnyG_take (i := 8) (oi := _) (v := ?_) rfl (by kernel_rfl) (by kernel_rfl) (by kernel_rfl) (by kernel_rfl) (by kernel_rfl) (fun _ _ _ h => h) (Or.inl ⟨by rfl, ?_⟩) (by assumption) ?_
  rotate_left 1
  · intro w hSw
    (try dsimp only at hSw)
    (first | (go_simp; done) | (go_simp; with_reducible rfl))
  (try simp only [Act.put, List.getElem_toArray, List.getElem_cons_succ, List.getElem_cons_zero, List.setIfInBounds_toArray, List.set_cons_zero, List.set_cons_succ])
  refine wpAnyF_ready (rs := [0]) (by kernel_rfl) (by simp) ?_
  refine AllReadyF.cons (o := _) rfl (fun K hK => ?_) AllReadyF.nil
  go_simp
  refine hK.out _ _ trivial (fun hHeld0 => ?_)
  clear hK K
  (try simp only [Act.put, List.getElem_toArray, List.getElem_cons_succ, List.getElem_cons_zero, List.setIfInBounds_toArray, List.set_cons_zero, List.set_cons_succ])
  refine wpAnyF_ready (rs := [4]) (by kernel_rfl) (by simp) ?_
  refine AllReadyF.cons (o := _) rfl (fun K hK => ?_) AllReadyF.nil
  rw [if_pos (by rfl)]
  refine wp_append_own _ (.tmp 5) (.tmp 8) 47 rfl w.heap.size ThT i0 _ 2 16 Try.underlying47 hi0 hz0 hz1 hz2 rfl (by omega) (.slice (some ⟨w.heap.size, 0, none⟩) 0 0) 0 (flatT []) rfl HO0.out ⟨b, o, none⟩ p c (flatT (l.take p)) rfl (by rw [flatT_len, HLP.out] ) (HN1.out) (flatT_one _) (by unfold maxLen; omega) (by omega) (by exact HSZ.out) ?_
  intro va vaw hva1 hva2 hva3
  have HA1 := Lib.hid hva1
  have HA2 := Lib.hid hva2
  clear hva1 hva2 hva3
  refine hK.out _ _ trivial (fun hHeld4 => ?_)
  clear hK K
  (try simp only [Act.put, List.getElem_toArray, List.getElem_cons_succ, List.getElem_cons_zero, List.setIfInBounds_toArray, List.set_cons_zero, List.set_cons_succ])
  have HT2 := Lib.hid (HT1.out.turns (S := fun j => (Value.slice (some ⟨w.heap.size, 0, none⟩) 0 0).ownBlock = some j) (Turns.of_grown HA2.out (fun j e => e)) (fun ad had q => by
    have hbw := HBW.out
    injection had with had
    subst had
    injection q with q
    have q2 : w.heap.size = b := q
    omega))
  have HS2 : Hid (w.heap.size ≤ vaw.heap.size) := Lib.hid (Nat.le_trans HSZ.out HA2.out.size)
  have HLT := Lib.hid (World.ownsRow.lt HA1.out)
  refine wpAnyF_ready (rs := [9]) (by kernel_rfl) (by simp) ?_
  refine AllReadyF.cons (o := _) rfl (fun K hK => ?_) AllReadyF.nil
  rw [if_pos (by rfl)]
  refine wp_append_own _ (.tmp 9) (.tmp 13) 47 rfl w.heap.size ThT i0 _ 2 16 Try.underlying47 hi0 hz0 hz1 hz2 rfl (by omega) va (0 + p) (flatT [] ++ flatT (l.take p)) rfl HA1.out ⟨b, o + q * 2, none⟩ (n - q) (c - q) (flatT (l.drop q)) rfl (by rw [flatT_len, HLD.out] ) (by first | exact HT2.out.news_drop (by omega)) (flatT_one _) (by unfold maxLen; omega) (by omega) HS2.out ?_
  intro vb vbw hvb1 hvb2 hvb3
  have HB1 := Lib.hid hvb1
  have HB2 := Lib.hid hvb2
  clear hvb1 hvb2 hvb3
  refine hK.out _ _ trivial (fun hHeld9 => ?_)
  clear hK K
  (try simp only [Act.put, List.getElem_toArray, List.getElem_cons_succ, List.getElem_cons_zero, List.setIfInBounds_toArray, List.set_cons_zero, List.set_cons_succ])
  refine wpAnyF_ready (rs := [10]) (by kernel_rfl) (by simp) ?_
  refine AllReadyF.cons (o := _) rfl (fun K hK => ?_) AllReadyF.nil
  go_simp
  refine hK.out _ _ trivial (fun hHeld10 => ?_)
  clear hK K
  (try simp only [Act.put, List.getElem_toArray, List.getElem_cons_succ, List.getElem_cons_zero, List.setIfInBounds_toArray, List.set_cons_zero, List.set_cons_succ])
  refine wpAnyF_done (by kernel_rfl) ?_ _
  have HE : Hid (CutE w l p (.returned vb) vbw) := Lib.hid (by
    have e1 : flatT [] ++ flatT (l.take p) ++ flatT (l.drop q) = flatT (l.eraseIdx p) := by
      rw [List.eraseIdx_eq_take_drop_succ, HQ.out]
      simp [flatT]
    have e2 : 0 + p + (n - q) = (l.eraseIdx p).length := by
      have h1 := HT.out.len
      rw [List.length_eraseIdx_of_lt (by omega), h1]
      have := HQ.out; omega
    have h1 := HB1.out
    rw [e1, e2] at h1
    refine ⟨vb, rfl, h1, (HBL.out.grown HA2.out HSZ.out (fun j q => by injection q with q; exact Nat.le_of_eq q)).grown HB2.out HS2.out (fun j q => (HLT.out j q).1)⟩)
  go_wp2
  go_ret
  exact HE.out
set_option maxHeartbeats 1000000 in
theorem cut_2 (b o p q : Nat) (l : List (Int × Int)) (w : World) (h : TS w (some ⟨b, o, none⟩) q q l) (hn : q ≤ 1000000000) (hp : p < q) (hc : q ≤ q) (hcm : q ≤ 9223372036854775807) (hq : q = p + 1)  :
    Calls Try.prog 21 #[.slice (some ⟨b, o, none⟩) q q, .int .i64 (p : Int)] w (CutE w l p) := by
  have hw1 : IntKind.i64.wrap ((p : Int) + 1) = (q : Int) := by rw [hq]; exact IntWalk.i64_in _ (by omega)
  have hqn : q ≤ q := by omega
  have hqc : q ≤ q := by omega
  have hpc : p ≤ q := by omega
  have hpn : p ≤ q := by omega
  have HQ := Lib.hid hq
  have HT := Lib.hid h
  have HT1 : Hid (TS (w.alloc (.cells #[] ThT)).drew (some ⟨b, o, none⟩) q q l) := Lib.hid (h.below (((Below.refl _ _).alloc (Nat.le_refl _) _).drew))
  have HN1 := Lib.hid (HT1.out.news_take hpn)
  have HBW : Hid (b < w.heap.size) := Lib.hid (by
    obtain ⟨b', o', e, hb, _⟩ := h.at_ (by omega)
    injection e with e; injection e with e; omega)
  have HO0 : Hid ((w.alloc (.cells #[] ThT)).drew.ownsRow w.heap.size ThT 2 (.slice (some ⟨w.heap.size, 0, none⟩) 0 0) 0 (flatT [])) := Lib.hid ⟨rfl, .inr ⟨w.heap.size, 0, #[], rfl, Nat.le_refl _, heap_alloc_new w _, Nat.le_refl _, by unfold maxLen; omega, rfl, rfl⟩⟩
  have HSZ : Hid (w.heap.size ≤ (w.alloc (.cells #[] ThT)).drew.heap.size) := Lib.hid (by show _ ≤ (w.alloc (.cells #[] ThT)).heap.size; simp)
  have HBL : Hid (Below w.heap.size w (w.alloc (.cells #[] ThT)).drew) := Lib.hid (((Below.refl _ _).alloc (Nat.le_refl _) _).drew)
  have hlp : (l.take p).length = p := by rw [List.length_take, h.len]; omega
  have hld : (l.drop q).length = q - q := by rw [List.length_drop, h.len]
  have HLP := Lib.hid hlp
  have HLD := Lib.hid hld
  obtain ⟨i0, hi0, hz0, hz1, hz2⟩ := info_parts zero_th
  clear hq h hlp hld
  go_enter Try.func21, Try.ntmps21
  go_wp2_with fail
  refine wp_region_F (S := fun _ => True) [] (by kernel_rfl) trivial (fun hHeld => ?_)
  refine wpAnyG_take (i := 1) (oi := _) (v := ?_) rfl (by kernel_rfl) (by kernel_rfl) (by kernel_rfl) (by kernel_rfl) (by kernel_rfl) (fun _ _ _ h => h) (Or.inl ⟨by rfl, ?_⟩) (by assumption) ?_
  rotate_left 1
  · intro w hSw
    (try dsimp only at hSw)
    (first | (go_simp; done) | (go_simp; with_reducible rfl))
  (try simp only [Act.put, List.getElem_toArray, List.getElem_cons_succ, List.getElem_cons_zero, List.setIfInBounds_toArray, List.set_cons_zero, List.set_cons_succ])
  refine wpAnyG_take (i := 2) (oi := _) (v := ?_) rfl (by kernel_rfl) (by kernel_rfl) (by kernel_rfl) (by kernel_rfl) (by kernel_rfl) (fun _ _ _ h => h) (Or.inl ⟨by rfl, ?_⟩) (by assumption) ?_
  rotate_left 1
  · intro w hSw
    (try dsimp only at hSw)
    (first | (go_simp; done) | (go_simp; with_reducible rfl))
  (try simp only [Act.put, List.getElem_toArray, List.getElem_cons_succ, List.getElem_cons_zero, List.setIfInBounds_toArray, List.set_cons_zero, List.set_cons_succ])
  refine wpAnyG_take (i := 3) (oi := _) (v := ?_) rfl (by kernel_rfl) (by kernel_rfl) (by kernel_rfl) (by kernel_rfl) (by kernel_rfl) (fun _ _ _ h => h) (Or.inl ⟨by rfl, ?_⟩) (by assumption) ?_
  rotate_left 1
  · intro w hSw
    (try dsimp only at hSw)
    (first | (go_simp; done) | (go_simp; with_reducible rfl))
  (try simp only [Act.put, List.getElem_toArray, List.getElem_cons_succ, List.getElem_cons_zero, List.setIfInBounds_toArray, List.set_cons_zero, List.set_cons_succ])
  refine wpAnyG_take (i := 5) (oi := _) (v := ?_) rfl (by kernel_rfl) (by kernel_rfl) (by kernel_rfl) (by kernel_rfl) (by kernel_rfl) (fun _ _ _ h => h) (Or.inl ⟨by rfl, ?_⟩) (by assumption) ?_
  rotate_left 1
  · intro w hSw
    (try dsimp only at hSw)
    (first | (go_simp; done) | (go_simp; with_reducible rfl))
  (try simp only [Act.put, List.getElem_toArray, List.getElem_cons_succ, List.getElem_cons_zero, List.setIfInBounds_toArray, List.set_cons_zero, List.set_cons_succ])
  refine wpAnyG_take (i := 6) (oi := _) (v := ?_) rfl (by kernel_rfl) (by kernel_rfl) (by kernel_rfl) (by kernel_rfl) (by kernel_rfl) (fun _ _ _ h => h) (Or.inl ⟨by rfl, ?_⟩) (by assumption) ?_
  rotate_left 1
  · intro w hSw
    (try dsimp only at hSw)
    (first | (go_simp; done) | (go_simp; with_reducible rfl))
  (try simp only [Act.put, List.getElem_toArray, List.getElem_cons_succ, List.getElem_cons_zero, List.setIfInBounds_toArray, List.set_cons_zero, List.set_cons_succ])
  refine wpAnyG_take (i := 7) (oi := _) (v := ?_) rfl (by kernel_rfl) (by kernel_rfl) (by kernel_rfl) (by kernel_rfl) (by kernel_rfl) (fun _ _ _ h => h) (Or.inl ⟨by rfl, ?_⟩) (by assumption) ?_
  rotate_left 1
  · intro w hSw
    (try dsimp only at hSw)
    (first | (go_simp; done) | (go_simp; with_reducible rfl))
  (try simp only [Act.put, List.getElem_toArray, List.getElem_cons_succ, List.getElem_cons_zero, List.setIfInBounds_toArray, List.set_cons_zero, List.set_cons_succ])
  refine wpAnyG_take (i := 8) (oi := _) (v := ?_) rfl (by kernel_rfl) (by kernel_rfl) (by kernel_rfl) (by kernel_rfl) (by kernel_rfl) (fun _ _ _ h => h) (Or.inl ⟨by rfl, ?_⟩) (by assumption) ?_
  rotate_left 1
  · intro w hSw
    (try dsimp only at hSw)
    (first | (go_simp; done) | (go_simp; with_reducible rfl))
  (try simp only [Act.put, List.getElem_toArray, List.getElem_cons_succ, List.getElem_cons_zero, List.setIfInBounds_toArray, List.set_cons_zero, List.set_cons_succ])
  refine wpAnyF_ready (rs := [0]) (by kernel_rfl) (by simp) ?_
  refine AllReadyF.cons (o := _) rfl (fun K hK => ?_) AllReadyF.nil
  go_simp
  refine hK.out _ _ trivial (fun hHeld0 => ?_)
  clear hK K
  (try simp only [Act.put, List.getElem_toArray, List.getElem_cons_succ, List.getElem_cons_zero, List.setIfInBounds_toArray, List.set_cons_zero, List.set_cons_succ])
  refine wpAnyF_ready (rs := [4]) (by kernel_rfl) (by simp) ?_
  refine AllReadyF.cons (o := _) rfl (fun K hK => ?_) AllReadyF.nil
  rw [if_pos (by rfl)]
  refine wp_append_own _ (.tmp 5) (.tmp 8) 47 rfl w.heap.size ThT i0 _ 2 16 Try.underlying47 hi0 hz0 hz1 hz2 rfl (by omega) (.slice (some ⟨w.heap.size, 0, none⟩) 0 0) 0 (flatT []) rfl HO0.out ⟨b, o, none⟩ p q (flatT (l.take p)) rfl (by rw [flatT_len, HLP.out] ) (HN1.out) (flatT_one _) (by unfold maxLen; omega) (by omega) (by exact HSZ.out) ?_
  intro va vaw hva1 hva2 hva3
  have HA1 := Lib.hid hva1
  have HA2 := Lib.hid hva2
  clear hva1 hva2 hva3
  refine hK.out _ _ trivial (fun hHeld4 => ?_)
  clear hK K
  (try simp only [Act.put, List.getElem_toArray, List.getElem_cons_succ, List.getElem_cons_zero, List.setIfInBounds_toArray, List.set_cons_zero, List.set_cons_succ])
  have HT2 := Lib.hid (HT1.out.turns (S := fun j => (Value.slice (some ⟨w.heap.size, 0, none⟩) 0 0).ownBlock = some j) (Turns.of_grown HA2.out (fun j e => e)) (fun ad had q => by
    have hbw := HBW.out
    injection had with had
    subst had
    injection q with q
    have q2 : w.heap.size = b := q
    omega))
  have HS2 : Hid (w.heap.size ≤ vaw.heap.size) := Lib.hid (Nat.le_trans HSZ.out HA2.out.size)
  have HLT := Lib.hid (World.ownsRow.lt HA1.out)
  refine wpAnyF_ready (rs := [9]) (by kernel_rfl) (by simp) ?_
  refine AllReadyF.cons (o := _) rfl (fun K hK => ?_) AllReadyF.nil
  rw [if_pos (by rfl)]
  refine wp_append_own _ (.tmp 9) (.tmp 13) 47 rfl w.heap.size ThT i0 _ 2 16 Try.underlying47 hi0 hz0 hz1 hz2 rfl (by omega) va (0 + p) (flatT [] ++ flatT (l.take p)) rfl HA1.out ⟨b, o, none⟩ 0 0 (flatT (l.drop q)) rfl (by rw [flatT_len, HLD.out]; omega) (by first | exact fun j u hj => by rw [List.drop_of_length_le (by have := HT.out.len; omega)] at hj; simp [flatT] at hj) (flatT_one _) (by unfold maxLen; omega) (by omega) HS2.out ?_
  intro vb vbw hvb1 hvb2 hvb3
  have HB1 := Lib.hid hvb1
  have HB2 := Lib.hid hvb2
  clear hvb1 hvb2 hvb3
  refine hK.out _ _ trivial (fun hHeld9 => ?_)
  clear hK K
  (try simp only [Act.put, List.getElem_toArray, List.getElem_cons_succ, List.getElem_cons_zero, List.setIfInBounds_toArray, List.set_cons_zero, List.set_cons_succ])
  refine wpAnyF_ready (rs := [10]) (by kernel_rfl) (by simp) ?_
  refine AllReadyF.cons (o := _) rfl (fun K hK => ?_) AllReadyF.nil
  go_simp
  refine hK.out _ _ trivial (fun hHeld10 => ?_)
  clear hK K
  (try simp only [Act.put, List.getElem_toArray, List.getElem_cons_succ, List.getElem_cons_zero, List.setIfInBounds_toArray, List.set_cons_zero, List.set_cons_succ])
  refine wpAnyF_done (by kernel_rfl) ?_ _
  have HE : Hid (CutE w l p (.returned vb) vbw) := Lib.hid (by
    have e1 : flatT [] ++ flatT (l.take p) ++ flatT (l.drop q) = flatT (l.eraseIdx p) := by
      rw [List.eraseIdx_eq_take_drop_succ, HQ.out]
      simp [flatT]
    have e2 : 0 + p + 0 = (l.eraseIdx p).length := by
      have h1 := HT.out.len
      rw [List.length_eraseIdx_of_lt (by omega), h1]
      have := HQ.out; omega
    have h1 := HB1.out
    rw [e1, e2] at h1
    refine ⟨vb, rfl, h1, (HBL.out.grown HA2.out HSZ.out (fun j q => by injection q with q; exact Nat.le_of_eq q)).grown HB2.out HS2.out (fun j q => (HLT.out j q).1)⟩)
  go_wp2
  go_ret
  exact HE.out
theorem cut_any (A : Option Addr) (n c p : Nat) (l : List (Int × Int)) (w : World) (h : TS w A n c l) (hn : n ≤ 1000000000) (hp : p < n) :
    Calls Try.prog 21 #[.slice A n c, .int .i64 (p : Int)] w (CutE w l p) := by
  have hc := h.cap
  have hcm := h.capm
  obtain ⟨b, o, rfl, _⟩ := h.at_ (by omega)
  by_cases e : c = p + 1
  · obtain rfl : n = p + 1 := by omega
    subst e
    exact cut_2 b o p (p + 1) l w h hn hp hc hcm rfl
  · exact cut_1 b o n c p (p + 1) l w h hn hp hc hcm rfl e
end Go.Proofs.Ytoioflbgmofgfab
