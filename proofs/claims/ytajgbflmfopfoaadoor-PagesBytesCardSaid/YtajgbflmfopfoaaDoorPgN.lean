/-
  The document's Give and Turn; the statements' same and few.
-/
import Derived.Test.YtajgbflmfopfoaaDoorPgL
import Derived.BigQuiet
import Derived.Deep.QuietTactic
namespace Go.Proofs.YtajgbflmfopfoaaDoor
open Go.RowKit Go
set_option linter.unusedVariables false
set_option linter.unusedSimpArgs false
set_option maxRecDepth 100000
set_option maxHeartbeats 4000000 in
theorem rgive_any (A : Option Addr) (n c : Nat) (l : List Pg) (a : Int) (w : World) (h : PS w A n c l) (hS : SZ w) (hn : n < 1000) :
    Calls Tryd.prog 28 #[.slice A n c, .int .i64 a] w (AnsTo w (giveF l a)) := by
  have HMAY := Lib.hid (rmay_any A n c l w h hS)
  have hln := h.len
  obtain ⟨x, hx⟩ : ∃ x, x = mayL l := ⟨_, rfl⟩
  rw [← hx] at HMAY
  cases x
  · have HE : Hid (∀ w', Below w.heap.size w w' → AnsTo w (giveF l a) (.returned (.tuple #[.slice none 0 0, .int .i64 4])) w') := Lib.hid (fun w' hb => by
      unfold giveF; rw [if_pos hx.symm]; exact nil_code 4 hb)
    clear h hS hx hln
    generalize giveF l a = R at *
    go_enter Tryd.func28, Tryd.ntmps28
    go_wp2_with fail
    refine HMAY.out.mono ?_
    rintro e w' ⟨rfl, hb⟩
    have HB := Lib.hid hb
    clear hb
    go_wp2
    go_ret2
    exact HE.out _ HB.out
  · have hm := hx.symm
    by_cases ha : 0 ≤ a ∧ a < (l.length : Int)
    · obtain ⟨k, rfl⟩ : ∃ k : Nat, a = (k : Int) := ⟨a.toNat, by omega⟩
      have hk : k < l.length := by omega
      have hkn : k < n := by omega
      obtain ⟨b, o, rfl, hb0, hcell⟩ := h.cells (by omega)
      have HCE := Lib.hid hcell
      obtain ⟨p, hpe⟩ : ∃ p, p = pg l k := ⟨_, rfl⟩
      have HPE := Lib.hid hpe
      have HG : Hid (giveF l (k : Int) = if (pg l k).k ≠ 2 then (6, []) else (0, layF l k (pg l k).r.toNat pz pz)) := Lib.hid (by
        unfold giveF
        rw [if_neg (by rw [hm]; decide), Int.toNat_natCast]
        by_cases h2 : (pg l k).k = 2
        · rw [if_neg (fun q => q ⟨ha.1, ha.2, h2⟩), if_neg (fun q => q h2)]
        · rw [if_pos (fun q => h2 q.2.2), if_pos h2])
      rw [← hpe] at HG
      have h1 : ¬ (k : Int) < 0 := by omega
      have h2 : ¬ (n : Int) ≤ (k : Int) := by omega
      by_cases hk2 : p.k = 2
      · have HHD : (pg l k).k = 2 → 1 ≤ (pg l k).r.toNat ∧ (((pg l k).r.toNat : Nat) : Int) = (pg l k).r ∧ k + (pg l k).r.toNat ≤ l.length := fun q => ⟨(head_part hm hk q).1, (head_part hm hk q).2.2.1, (head_part hm hk q).2.2.2.1⟩
        rw [← hpe] at HHD
        obtain ⟨r1, r2, r3⟩ := HHD hk2
        clear HHD
        obtain ⟨r, hr⟩ : ∃ r, r = p.r.toNat := ⟨_, rfl⟩
        rw [← hr] at r1 r2 r3 HG
        have HR2 := Lib.hid r2
        have HLY : Hid (∀ W, Below w.heap.size w W → Calls Tryd.prog 52 #[.slice (some ⟨b, o, none⟩) n c, .int .i64 (k : Int), .int .i64 (r : Int), pz.val, pz.val] W (CopyTo W (layF l k r pz pz))) := Lib.hid (fun W hb => rlay_any _ n c k r _ _ l W (h.below hb) (by omega) r1 (by omega))
        obtain ⟨L, hL⟩ : ∃ L, L = layF l k r pz pz := ⟨_, rfl⟩
        rw [← hL] at HG HLY
        clear h hS hx hm hln ha hcell hpe hL r2 r3 r1 hr hk
        generalize giveF l (k : Int) = R at *
        go_enter Tryd.func28, Tryd.ntmps28
        go_wp2_with fail
        refine HMAY.out.mono ?_
        rintro e w' ⟨rfl, hb⟩
        have HB := Lib.hid hb
        have hbW := (HCE.out _ hb).1
        obtain ⟨c0, c1, c2, c3, c4⟩ := (HCE.out _ hb).2 k hkn
        rw [← HPE.out] at c0 c1 c2 c3 c4
        rw [← HR2.out] at c2
        clear hb
        go_wp2_with fail
        refine (HLY.out _ HB.out).mono ?_
        rintro e w3 hcp
        obtain ⟨A', c', rfl, han⟩ := CopyTo.ans HB.out hcp
        have HE : Hid (AnsTo w R (.returned (.tuple #[.slice A' L.length c', .int .i64 0])) w3) := Lib.hid (by
          rw [HG.out, if_neg (fun q => q hk2)]; exact han)
        clear hcp han
        go_wp2
        go_ret2
        exact HE.out
      · have HE : Hid (∀ w', Below w.heap.size w w' → AnsTo w (giveF l (k : Int)) (.returned (.tuple #[.slice none 0 0, .int .i64 6])) w') := Lib.hid (fun w' hb => by
          rw [HG.out, if_pos hk2]; exact nil_code 6 hb)
        have hkb : (p.k != 2) = true := by simp [hk2]
        clear h hS hx hm hln ha hcell hpe hk HG
        generalize giveF l (k : Int) = R at *
        go_enter Tryd.func28, Tryd.ntmps28
        go_wp2_with fail
        refine HMAY.out.mono ?_
        rintro e w' ⟨rfl, hb⟩
        have HB := Lib.hid hb
        have hbW := (HCE.out _ hb).1
        obtain ⟨c0, c1, c2, c3, c4⟩ := (HCE.out _ hb).2 k hkn
        rw [← HPE.out] at c0 c1 c2 c3 c4
        clear hb
        go_wp2
        go_ret2
        exact HE.out _ HB.out
    · have HE : Hid (∀ w', Below w.heap.size w w' → AnsTo w (giveF l a) (.returned (.tuple #[.slice none 0 0, .int .i64 6])) w') := Lib.hid (fun w' hb => by
        unfold giveF
        rw [if_neg (by rw [hm]; decide), if_pos (fun q => ha ⟨q.1, q.2.1⟩)]
        exact nil_code 6 hb)
      have hcs : a < 0 ∨ (¬ a < 0 ∧ (n : Int) ≤ a) := by omega
      clear h hS hx hm hln ha
      generalize giveF l a = R at *
      rcases hcs with h1 | ⟨h1, h2⟩
      all_goals
        go_enter Tryd.func28, Tryd.ntmps28
        go_wp2_with fail
        refine HMAY.out.mono ?_
        rintro e w' ⟨rfl, hb⟩
        have HB := Lib.hid hb
        clear hb
        go_wp2
        go_ret2
        exact HE.out _ HB.out
set_option maxHeartbeats 4000000 in
theorem rturn_any (A : Option Addr) (n c : Nat) (l : List Pg) (a t : Int) (w : World) (h : PS w A n c l) (hS : SZ w) (hn : n < 1000) :
    Calls Tryd.prog 30 #[.slice A n c, .int .i64 a, .int .i64 t] w (AnsTo w (turnF l a t)) := by
  have HMAY := Lib.hid (rmay_any A n c l w h hS)
  have hln := h.len
  obtain ⟨x, hx⟩ : ∃ x, x = mayL l := ⟨_, rfl⟩
  rw [← hx] at HMAY
  cases x
  · have HE : Hid (∀ w', Below w.heap.size w w' → AnsTo w (turnF l a t) (.returned (.tuple #[.slice none 0 0, .int .i64 4])) w') := Lib.hid (fun w' hb => by
      unfold turnF; rw [if_pos hx.symm]; exact nil_code 4 hb)
    clear h hS hx hln
    generalize turnF l a t = R at *
    go_enter Tryd.func30, Tryd.ntmps30
    go_wp2_with fail
    refine HMAY.out.mono ?_
    rintro e w' ⟨rfl, hb⟩
    have HB := Lib.hid hb
    clear hb
    go_wp2
    go_ret2
    exact HE.out _ HB.out
  · have hm := hx.symm
    by_cases ha : 0 ≤ a ∧ a < (l.length : Int)
    · obtain ⟨k, rfl⟩ : ∃ k : Nat, a = (k : Int) := ⟨a.toNat, by omega⟩
      have hk : k < l.length := by omega
      have hkn : k < n := by omega
      obtain ⟨b, o, rfl, hb0, hcell⟩ := h.cells (by omega)
      have HCE := Lib.hid hcell
      obtain ⟨p, hpe⟩ : ∃ p, p = pg l k := ⟨_, rfl⟩
      have HPE := Lib.hid hpe
      have HG : Hid (turnF l (k : Int) t = if t = -1 then (if (pg l k).k ≠ 1 then (6, []) else (0, layF l k 1 pz pz)) else if ¬ (0 ≤ t ∧ t < 8) then (1, []) else if (pg l k).k ≠ 0 then (7, []) else (0, layF l k 1 ⟨1, t, 0, 0, 0⟩ pz)) := Lib.hid (by
        unfold turnF
        rw [if_neg (by rw [hm]; decide), if_neg (fun q => q ha), Int.toNat_natCast])
      rw [← hpe] at HG
      have h1 : ¬ (k : Int) < 0 := by omega
      have h2 : ¬ (n : Int) ≤ (k : Int) := by omega
      have HLY : Hid (∀ (q : Pg) W, Below w.heap.size w W → Calls Tryd.prog 52 #[.slice (some ⟨b, o, none⟩) n c, .int .i64 (k : Int), .int .i64 1, q.val, pz.val] W (CopyTo W (layF l k 1 q pz))) := Lib.hid (fun q W hb => rlay_any _ n c k 1 _ _ l W (h.below hb) (by omega) (Nat.le_refl _) (by omega))
      obtain ⟨z, hz, hz1, hz2⟩ := rsize_any t
      have HSI := Lib.hid hz
      have HZ1 := Lib.hid hz1
      have HSZ := Lib.hid hS
      clear h hS hx hm hln ha hcell hpe hk hz hz1
      generalize turnF l (k : Int) t = R at *
      by_cases ht : t = -1
      · have HG1 : Hid (R = if p.k ≠ 1 then (6, []) else (0, layF l k 1 pz pz)) := Lib.hid (by rw [HG.out, if_pos ht])
        clear HG
        subst ht
        by_cases hk1 : p.k = 1
        · go_enter Tryd.func30, Tryd.ntmps30
          go_wp2_with fail
          refine HMAY.out.mono ?_
          rintro e w' ⟨rfl, hb⟩
          have HB := Lib.hid hb
          have hbW := (HCE.out _ hb).1
          obtain ⟨c0, c1, c2, c3, c4⟩ := (HCE.out _ hb).2 k hkn
          rw [← HPE.out] at c0 c1 c2 c3 c4
          clear hb
          go_wp2_with fail
          refine (HLY.out pz _ HB.out).mono ?_
          rintro e w3 hcp
          obtain ⟨A', c', rfl, han⟩ := CopyTo.ans HB.out hcp
          have HE : Hid (AnsTo w R (.returned (.tuple #[.slice A' (layF l k 1 pz pz).length c', .int .i64 0])) w3) := Lib.hid (by
            rw [HG1.out, if_neg (fun q => q hk1)]; exact han)
          clear hcp han
          generalize layF l k 1 pz pz = L at *
          go_wp2
          go_ret2
          exact HE.out
        · have HE : Hid (∀ w', Below w.heap.size w w' → AnsTo w R (.returned (.tuple #[.slice none 0 0, .int .i64 6])) w') := Lib.hid (fun w' hb => by
            rw [HG1.out, if_pos hk1]; exact nil_code 6 hb)
          have hkb : (p.k != 1) = true := by simp [hk1]
          go_enter Tryd.func30, Tryd.ntmps30
          go_wp2_with fail
          refine HMAY.out.mono ?_
          rintro e w' ⟨rfl, hb⟩
          have HB := Lib.hid hb
          have hbW := (HCE.out _ hb).1
          obtain ⟨c0, c1, c2, c3, c4⟩ := (HCE.out _ hb).2 k hkn
          rw [← HPE.out] at c0 c1 c2 c3 c4
          clear hb
          go_wp2
          go_ret2
          exact HE.out _ HB.out
      · by_cases h8 : 0 ≤ t ∧ t < 8
        · have hz0 : ¬ z = 0 := by have := HZ1.out.2 h8; omega
          have n8 : ¬ ¬ (0 ≤ t ∧ t < 8) := fun q => q h8
          have HN8 := Lib.hid n8
          clear n8 h8
          by_cases hk1 : p.k = 0
          · go_enter Tryd.func30, Tryd.ntmps30
            go_wp2_with fail
            refine HMAY.out.mono ?_
            rintro e w' ⟨rfl, hb⟩
            have HB := Lib.hid hb
            have hbW := (HCE.out _ hb).1
            obtain ⟨c0, c1, c2, c3, c4⟩ := (HCE.out _ hb).2 k hkn
            rw [← HPE.out] at c0 c1 c2 c3 c4
            have HS2 := Lib.hid (HSZ.out.below hb)
            clear hb
            go_wp2_with fail
            refine (HSI.out _ HS2.out).mono ?_
            rintro e w2 ⟨rfl, rfl⟩
            go_wp2_with fail
            refine (HLY.out ⟨1, t, 0, 0, 0⟩ _ HB.out).mono ?_
            rintro e w3 hcp
            obtain ⟨A', c', rfl, han⟩ := CopyTo.ans HB.out hcp
            have HE : Hid (AnsTo w R (.returned (.tuple #[.slice A' (layF l k 1 ⟨1, t, 0, 0, 0⟩ pz).length c', .int .i64 0])) w3) := Lib.hid (by
              rw [HG.out, if_neg ht, if_neg HN8.out, if_neg (fun q => q hk1)]; exact han)
            clear hcp han
            generalize layF l k 1 ⟨1, t, 0, 0, 0⟩ pz = L at *
            go_wp2
            go_ret2
            exact HE.out
          · have HE : Hid (∀ w', Below w.heap.size w w' → AnsTo w R (.returned (.tuple #[.slice none 0 0, .int .i64 7])) w') := Lib.hid (fun w' hb => by
              rw [HG.out, if_neg ht, if_neg HN8.out, if_pos hk1]; exact nil_code 7 hb)
            have hkb : (p.k != 0) = true := by simp [hk1]
            go_enter Tryd.func30, Tryd.ntmps30
            go_wp2_with fail
            refine HMAY.out.mono ?_
            rintro e w' ⟨rfl, hb⟩
            have HB := Lib.hid hb
            have hbW := (HCE.out _ hb).1
            obtain ⟨c0, c1, c2, c3, c4⟩ := (HCE.out _ hb).2 k hkn
            rw [← HPE.out] at c0 c1 c2 c3 c4
            have HS2 := Lib.hid (HSZ.out.below hb)
            clear hb
            go_wp2_with fail
            refine (HSI.out _ HS2.out).mono ?_
            rintro e w2 ⟨rfl, rfl⟩
            go_wp2
            go_ret2
            exact HE.out _ HB.out
        · have hz0 : z = 0 := by have := HZ1.out; omega
          subst hz0
          have HE : Hid (∀ w', Below w.heap.size w w' → AnsTo w R (.returned (.tuple #[.slice none 0 0, .int .i64 1])) w') := Lib.hid (fun w' hb => by
            rw [HG.out, if_neg ht, if_pos h8]; exact nil_code 1 hb)
          clear h8
          go_enter Tryd.func30, Tryd.ntmps30
          go_wp2_with fail
          refine HMAY.out.mono ?_
          rintro e w' ⟨rfl, hb⟩
          have HB := Lib.hid hb
          have HS2 := Lib.hid (HSZ.out.below hb)
          clear hb
          go_wp2_with fail
          refine (HSI.out _ HS2.out).mono ?_
          rintro e w2 ⟨rfl, rfl⟩
          go_wp2
          go_ret2
          exact HE.out _ HB.out
    · have HE : Hid (∀ w', Below w.heap.size w w' → AnsTo w (turnF l a t) (.returned (.tuple #[.slice none 0 0, .int .i64 3])) w') := Lib.hid (fun w' hb => by
        unfold turnF
        rw [if_neg (by rw [hm]; decide), if_pos ha]
        exact nil_code 3 hb)
      have hcs : a < 0 ∨ (¬ a < 0 ∧ (n : Int) ≤ a) := by omega
      clear h hS hx hm hln ha
      generalize turnF l a t = R at *
      rcases hcs with h1 | ⟨h1, h2⟩
      all_goals
        go_enter Tryd.func30, Tryd.ntmps30
        go_wp2_with fail
        refine HMAY.out.mono ?_
        rintro e w' ⟨rfl, hb⟩
        have HB := Lib.hid hb
        clear hb
        go_wp2
        go_ret2
        exact HE.out _ HB.out
/-! two rows of pages, held against one another -/
def eqL : List Pg → List Pg → Bool
  | [], [] => true
  | p :: r, q :: s => eqP p q && eqL r s
  | _, _ => false
theorem eqL_iff : ∀ a b, eqL a b = true ↔ a = b
  | [], [] => by simp [eqL]
  | [], _ :: _ => by simp [eqL]
  | _ :: _, [] => by simp [eqL]
  | p :: r, q :: s => by
    unfold eqL
    rw [Bool.and_eq_true, eqP_iff, eqL_iff r s]
    constructor
    · rintro ⟨rfl, rfl⟩; rfl
    · intro h; injection h with h1 h2; exact ⟨h1, h2⟩
theorem eqL_len {a b : List Pg} (h : a.length ≠ b.length) : eqL a b = false := by
  cases hq : eqL a b
  · rfl
  · exact absurd (congrArg List.length ((eqL_iff _ _).1 hq)) h
theorem eqL_drop {a b : List Pg} {k : Nat} (h1 : k < a.length) (h2 : k < b.length) : eqL (a.drop k) (b.drop k) = (eqP (pg a k) (pg b k) && eqL (a.drop (k + 1)) (b.drop (k + 1))) := by
  rw [drop_at h1, drop_at h2]; rfl
theorem eqP_no {p q : Pg} (h : eqP p q = false) : p.k ≠ q.k ∨ (p.k = q.k ∧ p.c ≠ q.c) ∨ (p.k = q.k ∧ p.c = q.c ∧ p.r ≠ q.r) ∨ (p.k = q.k ∧ p.c = q.c ∧ p.r = q.r ∧ p.s ≠ q.s) ∨ (p.k = q.k ∧ p.c = q.c ∧ p.r = q.r ∧ p.s = q.s ∧ p.n ≠ q.n) := by
  by_cases h1 : p.k = q.k
  · by_cases h2 : p.c = q.c
    · by_cases h3 : p.r = q.r
      · by_cases h4 : p.s = q.s
        · by_cases h5 : p.n = q.n
          · rw [(eqP_iff p q).2 (Pg.ext' h1 h2 h3 h4 h5)] at h; cases h
          · exact .inr (.inr (.inr (.inr ⟨h1, h2, h3, h4, h5⟩)))
        · exact .inr (.inr (.inr (.inl ⟨h1, h2, h3, h4⟩)))
      · exact .inr (.inr (.inl ⟨h1, h2, h3⟩))
    · exact .inr (.inl ⟨h1, h2⟩)
  · exact .inl h1
set_option maxHeartbeats 4000000 in
theorem same_any (A A2 : Option Addr) (n c n2 c2 : Nat) (a b : List Pg) (w : World) (h : PS w A n c a) (h2 : PS w A2 n2 c2 b) (hn : n < 1000) :
    Calls Tryd.prog 19 #[.slice A n c, .slice A2 n2 c2] w fun e w' => e = .returned (.bool (eqL a b)) ∧ Below w.heap.size w w' := by
  have HP := Lib.hid h
  have HP2 := Lib.hid h2
  have HLN := Lib.hid h.len
  have HLN2 := Lib.hid h2.len
  have hcn := h.cap
  have hcm := h.capm
  have hcn2 := h2.cap
  have hcm2 := h2.capm
  clear h h2
  by_cases hnn : n = n2
  · subst hnn
    go_enter Tryd.func19, Tryd.ntmps19
    go_wp2
    go_loopw [13] (fun i W => ∃ k : Nat, i = .int .i64 (k : Int) ∧ k ≤ n ∧ eqL (a.drop k) (b.drop k) = eqL a b ∧ Below w.heap.size w W) (fun i _ => n - (intOf i).toNat)
    case atStart => exact ⟨0, rfl, Nat.zero_le _, rfl, Below.refl _ _⟩
    case round =>
      obtain ⟨k, rfl, hk, hl, hb⟩ := hrel
      have HL := Lib.hid hl
      have HB := Lib.hid hb
      clear hl hb
      by_cases hlt : k < n
      · obtain ⟨b1, o1, rfl, hb1, hc1⟩ := HP.out.cells (by omega)
        obtain ⟨b2, o2, rfl, hb2, hc2⟩ := HP2.out.cells (by omega)
        obtain ⟨c0, c1, c2, c3, c4⟩ := (hc1 _ HB.out).2 k hlt
        obtain ⟨d0, d1, d2, d3, d4⟩ := (hc2 _ HB.out).2 k hlt
        clear hc1 hc2
        have hst := eqL_drop (a := a) (b := b) (k := k) (by rw [HLN.out]; exact hlt) (by rw [HLN2.out]; exact hlt)
        generalize pg a k = p at *
        generalize pg b k = q at *
        have HST := Lib.hid hst
        have HBD : Hid (∀ m, Below w.heap.size w (wr.drewN m)) := Lib.hid (fun m => below_drewN HB.out m)
        clear hst
        by_cases he : eqP p q = true
        · obtain rfl := (eqP_iff p q).1 he
          have hltI : (k : Int) < (n : Int) := by omega
          go_wp2_with fail
          go_quiet (fail)
          go_wp2
          go_roundw
          case rel => exact ⟨k + 1, by go_num, by omega, by rw [← HL.out, HST.out, he]; rfl, HBD.out _⟩
          case measure => simp [intOf]; omega
        · have he' : eqP p q = false := by simpa using he
          have HZ : Hid (eqL a b = false) := Lib.hid (by rw [← HL.out, HST.out, he']; rfl)
          have hcs := eqP_no he'
          have hltI : (k : Int) < (n : Int) := by omega
          clear he he' HST
          rcases hcs with h1 | ⟨h1, h2⟩ | ⟨h1, h2, h3⟩ | ⟨h1, h2, h3, h4⟩ | ⟨h1, h2, h3, h4, h5⟩
          · have e1 : (p.k == q.k) = false := beq_eq_false_iff_ne.2 h1
            have e1' : ¬ p.k = q.k := h1
            go_wp2_with fail
            go_quiet (fail)
            go_wp2
            go_ret
            exact ⟨retb HZ.out.symm, HBD.out _⟩
          · have e1 : (p.c == q.c) = false := beq_eq_false_iff_ne.2 h2
            have e1' : ¬ p.c = q.c := h2
            rw [← h1] at d0
            clear h1
            go_wp2_with fail
            go_quiet (fail)
            go_wp2
            go_ret
            exact ⟨retb HZ.out.symm, HBD.out _⟩
          · have e1 : (p.r == q.r) = false := beq_eq_false_iff_ne.2 h3
            have e1' : ¬ p.r = q.r := h3
            rw [← h1] at d0
            rw [← h2] at d1
            clear h1 h2
            go_wp2_with fail
            go_quiet (fail)
            go_wp2
            go_ret
            exact ⟨retb HZ.out.symm, HBD.out _⟩
          · have e1 : (p.s == q.s) = false := beq_eq_false_iff_ne.2 h4
            have e1' : ¬ p.s = q.s := h4
            rw [← h1] at d0
            rw [← h2] at d1
            rw [← h3] at d2
            clear h1 h2 h3
            go_wp2_with fail
            go_quiet (fail)
            go_wp2
            go_ret
            exact ⟨retb HZ.out.symm, HBD.out _⟩
          · have e1 : (p.n == q.n) = false := beq_eq_false_iff_ne.2 h5
            have e1' : ¬ p.n = q.n := h5
            rw [← h1] at d0
            rw [← h2] at d1
            rw [← h3] at d2
            rw [← h4] at d3
            clear h1 h2 h3 h4
            go_wp2_with fail
            go_quiet (fail)
            go_wp2
            go_ret
            exact ⟨retb HZ.out.symm, HBD.out _⟩
      · obtain rfl : k = n := by omega
        have HZ : Hid (eqL a b = true) := Lib.hid (by
          rw [← HL.out, List.drop_of_length_le (by rw [HLN.out]; exact Nat.le_refl _), List.drop_of_length_le (by rw [HLN2.out]; exact Nat.le_refl _)]; rfl)
        have hltI : ¬ (k : Int) < (k : Int) := by omega
        go_wp2
        go_ret
        exact ⟨retb HZ.out.symm, HB.out⟩
  · have hni : ¬ (n : Int) = (n2 : Int) := by omega
    have hnb : ((n : Int) != (n2 : Int)) = true := bne_iff_ne.2 hni
    have HE := Lib.hid (eqL_len (a := a) (b := b) (by rw [HLN.out, HLN2.out]; exact hnn))
    go_enter Tryd.func19, Tryd.ntmps19
    go_wp2
    go_ret
    exact ⟨retb HE.out.symm, Below.refl _ _⟩
end Go.Proofs.YtajgbflmfopfoaaDoor
