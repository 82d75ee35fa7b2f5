/-
  Rows of pages in memory; what the program asks of a row.
-/
import Derived.Test.YtooahpfeamobcaaDoorPgA
namespace Go.Proofs.YtooahpfeamobcaaDoor
open Go.RowKit Go
set_option linter.unusedVariables false
set_option linter.unusedSimpArgs false
set_option maxRecDepth 100000
/-- the page of number i -/
abbrev pg (l : List Pg) (i : Nat) : Pg := l.getD i pz
/-- page p lies at o of block b -/
structure PAt (W : World) (b o : Nat) (p : Pg) : Prop where
  c0 : W.cell? ⟨b, o, none⟩ = some (.int .i64 p.k)
  c1 : W.cell? ⟨b, o + 1, none⟩ = some (.int .i64 p.c)
  c2 : W.cell? ⟨b, o + 2, none⟩ = some (.int .i64 p.r)
  c3 : W.cell? ⟨b, o + 3, none⟩ = some (.int .i64 p.s)
  c4 : W.cell? ⟨b, o + 4, none⟩ = some (.int .u64 p.n)
/-- a slice of pages that reads as l -/
structure PS (W : World) (A : Option Addr) (n c : Nat) (l : List Pg) : Prop where
  len : l.length = n
  cap : n ≤ c
  capm : c ≤ 9223372036854775807
  nil_ : A = none → c = 0
  at_ : 0 < n → ∃ b o, A = some ⟨b, o, none⟩ ∧ b < W.heap.size ∧ ∀ i, i < n → PAt W b (o + i * 5) (pg l i)
theorem PAt.keep {W W' : World} {b o : Nat} {p : Pg} (h : PAt W b o p) (e : W'.heap[b]? = W.heap[b]?) : PAt W' b o p :=
  ⟨(World.cell?_of_block e).trans h.c0, (World.cell?_of_block e).trans h.c1, (World.cell?_of_block e).trans h.c2, (World.cell?_of_block e).trans h.c3, (World.cell?_of_block e).trans h.c4⟩
theorem PS.nil (W : World) : PS W none 0 0 [] := ⟨rfl, Nat.le_refl _, by omega, fun _ => rfl, fun h => absurd h (by omega)⟩
theorem PS.turns {W W' : World} {n c : Nat} {A : Option Addr} {l : List Pg} {S : Nat → Prop} (h : PS W A n c l) (ht : Turns S W W') (hs : 0 < n → ∀ ad, A = some ad → ¬ S ad.block) : PS W' A n c l :=
  ⟨h.len, h.cap, h.capm, h.nil_, fun hn => by
    obtain ⟨b, o, h1, h3, h4⟩ := h.at_ hn
    have e := ht.block b h3 (hs hn ⟨b, o, none⟩ h1)
    exact ⟨b, o, h1, Nat.lt_of_lt_of_le h3 ht.size, fun i hi => (h4 i hi).keep e⟩⟩
theorem PS.below {W W' : World} {n c : Nat} {A : Option Addr} {l : List Pg} (h : PS W A n c l) (hb : Below W.heap.size W W') : PS W' A n c l := h.turns (S := fun _ => False) (Turns.of_below hb) (fun _ _ _ q => q)
theorem bel_alloc (w : World) (o : Obj) : Below w.heap.size w (w.alloc o) := (Below.refl _ _).alloc (Nat.le_refl _) _
theorem leadF_step {f : Pg → Bool} {l : List Pg} {k : Nat} (hk : k < l.length) : leadF f (l.drop k) = if f (pg l k) then leadF f (l.drop (k + 1)) + 1 else 0 := by
  rw [drop_at hk]; rfl
set_option maxHeartbeats 2000000 in
theorem lead_may (A : Option Addr) (n c : Nat) (l : List Pg) (w : World) (h : PS w A n c l) (hS : SZ w) :
    Calls Tryd.prog 27 #[.slice A n c, .func (Fn.func 19) #[] #[]] w fun e w' => e = .returned (.int .i64 (leadF oneP l : Int)) ∧ Below w.heap.size w w' := by
  have HP := Lib.hid h
  have HSZ := Lib.hid hS
  have hln := h.len
  have HLN := Lib.hid hln
  have hcn := h.cap
  have hcm := h.capm
  have HMAY : Hid (∀ (p : Pg) W, SZ W → Calls Tryd.prog 19 #[p.val] W fun e w' => e = .returned (.bool (oneP p)) ∧ Below W.heap.size W w') := Lib.hid (fun p W q => may_any p W q)
  clear h hS hln
  go_enter Tryd.func27, Tryd.ntmps27
  go_wp2
  go_loopw [9] (fun i W => ∃ k : Nat, i = .int .i64 (k : Int) ∧ k ≤ n ∧ leadF oneP (l.drop k) + k = leadF oneP l ∧ Below w.heap.size w W) (fun i _ => n - (intOf i).toNat)
  case atStart => exact ⟨0, rfl, Nat.zero_le _, by simp, Below.refl _ _⟩
  case round =>
    obtain ⟨k, rfl, hk, hl, hb⟩ := hrel
    have HL := Lib.hid hl
    have HB := Lib.hid hb
    clear hl hb
    by_cases hlt : k < n
    · obtain ⟨b, o, rfl, hbW, hcell⟩ := (HP.out.below HB.out).at_ (by omega)
      have hp := hcell k hlt
      obtain ⟨p, hpe⟩ : ∃ p, p = pg l k := ⟨_, rfl⟩
      rw [← hpe] at hp
      have HPE := Lib.hid hpe
      obtain ⟨c0, c1, c2, c3, c4⟩ := hp
      have HW1 := Lib.hid (sz_alloc (HSZ.out.below HB.out) (.cells #[.int .i64 p.k, .int .i64 p.c, .int .i64 p.r, .int .i64 p.s, .int .u64 p.n] OT))
      clear hpe hcell
      go_wp2_with fail
      refine (HMAY.out p _ HW1.out).mono ?_
      rintro e w' ⟨rfl, hb2⟩
      have HB2 := Lib.hid (HB.out.trans (((bel_alloc wr (.cells #[.int .i64 p.k, .int .i64 p.c, .int .i64 p.r, .int .i64 p.s, .int .u64 p.n] OT)).trans (hb2.mono (by simp))).mono HB.out.size))
      clear hb2 c0 c1 c2 c3 c4
      obtain ⟨x, hx⟩ : ∃ x, x = oneP p := ⟨_, rfl⟩
      rw [← hx]
      have HX := Lib.hid hx
      clear hx
      have hst : leadF oneP (l.drop k) = if oneP p then leadF oneP (l.drop (k + 1)) + 1 else 0 := by rw [HPE.out]; exact leadF_step (by rw [HLN.out]; exact hlt)
      rw [← HX.out] at hst
      have HST := Lib.hid hst
      clear hst
      cases x
      · go_wp2
        go_ret
        refine ⟨?_, HB2.out⟩
        have := HL.out
        have h2 := HST.out
        simp only [Bool.false_eq_true, if_false] at h2
        rw [h2] at this
        rw [← this]
        simp
      · go_wp2
        go_roundw
        case rel =>
          refine ⟨k + 1, by go_num, by omega, ?_, HB2.out⟩
          have := HL.out
          have h2 := HST.out
          simp only [if_true] at h2
          omega
        case measure => simp [intOf]; omega
    · obtain rfl : k = n := by omega
      have hz : leadF oneP l = k := by
        have := HL.out
        rw [List.drop_of_length_le (by rw [HLN.out]; exact Nat.le_refl _)] at this
        simp only [leadF] at this
        omega
      have HZ := Lib.hid hz
      clear hz
      go_wp2
      go_ret
      exact ⟨by rw [HZ.out]; rfl, HB.out⟩
theorem all_may (A : Option Addr) (n c : Nat) (l : List Pg) (w : World) (h : PS w A n c l) (hS : SZ w) :
    Calls Tryd.prog 18 #[.slice A n c, .func (Fn.func 19) #[] #[]] w fun e w' => e = .returned (.bool (l.all oneP)) ∧ Below w.heap.size w w' := by
  have HC := Lib.hid (lead_may A n c l w h hS)
  have HL : Hid (((leadF oneP l : Nat) : Int) = (n : Int) ↔ l.all oneP = true) := Lib.hid (by rw [← leadF_all, h.len]; omega)
  clear h hS
  generalize leadF oneP l = m at *
  go_enter Tryd.func18, Tryd.ntmps18
  go_wp2_with fail
  refine HC.out.mono ?_
  rintro e w' ⟨rfl, hb⟩
  have HB := Lib.hid hb
  clear hb
  go_wp2
  go_ret
  refine ⟨retb ?_, HB.out⟩
  rw [Bool.eq_iff_iff, ← HL.out]
  simp
set_option maxHeartbeats 2000000 in
theorem lead_free (A : Option Addr) (n c : Nat) (l : List Pg) (w : World) (h : PS w A n c l) (hS : SZ w) :
    Calls Tryd.prog 27 #[.slice A n c, .func (Fn.func 30) #[] #[]] w fun e w' => e = .returned (.int .i64 (leadF isZ l : Int)) ∧ Below w.heap.size w w' := by
  have HP := Lib.hid h
  have HSZ := Lib.hid hS
  have hln := h.len
  have HLN := Lib.hid hln
  have hcn := h.cap
  have hcm := h.capm
  have HMAY : Hid (∀ (p : Pg) W, SZ W → Calls Tryd.prog 30 #[p.val] W fun e w' => e = .returned (.bool (isZ p)) ∧ Below W.heap.size W w') := Lib.hid (fun p W q => free_any p W)
  clear h hS hln
  go_enter Tryd.func27, Tryd.ntmps27
  go_wp2
  go_loopw [9] (fun i W => ∃ k : Nat, i = .int .i64 (k : Int) ∧ k ≤ n ∧ leadF isZ (l.drop k) + k = leadF isZ l ∧ Below w.heap.size w W) (fun i _ => n - (intOf i).toNat)
  case atStart => exact ⟨0, rfl, Nat.zero_le _, by simp, Below.refl _ _⟩
  case round =>
    obtain ⟨k, rfl, hk, hl, hb⟩ := hrel
    have HL := Lib.hid hl
    have HB := Lib.hid hb
    clear hl hb
    by_cases hlt : k < n
    · obtain ⟨b, o, rfl, hbW, hcell⟩ := (HP.out.below HB.out).at_ (by omega)
      have hp := hcell k hlt
      obtain ⟨p, hpe⟩ : ∃ p, p = pg l k := ⟨_, rfl⟩
      rw [← hpe] at hp
      have HPE := Lib.hid hpe
      obtain ⟨c0, c1, c2, c3, c4⟩ := hp
      have HW1 := Lib.hid (sz_alloc (HSZ.out.below HB.out) (.cells #[.int .i64 p.k, .int .i64 p.c, .int .i64 p.r, .int .i64 p.s, .int .u64 p.n] OT))
      clear hpe hcell
      go_wp2_with fail
      refine (HMAY.out p _ HW1.out).mono ?_
      rintro e w' ⟨rfl, hb2⟩
      have HB2 := Lib.hid (HB.out.trans (((bel_alloc wr (.cells #[.int .i64 p.k, .int .i64 p.c, .int .i64 p.r, .int .i64 p.s, .int .u64 p.n] OT)).trans (hb2.mono (by simp))).mono HB.out.size))
      clear hb2 c0 c1 c2 c3 c4
      obtain ⟨x, hx⟩ : ∃ x, x = isZ p := ⟨_, rfl⟩
      rw [← hx]
      have HX := Lib.hid hx
      clear hx
      have hst : leadF isZ (l.drop k) = if isZ p then leadF isZ (l.drop (k + 1)) + 1 else 0 := by rw [HPE.out]; exact leadF_step (by rw [HLN.out]; exact hlt)
      rw [← HX.out] at hst
      have HST := Lib.hid hst
      clear hst
      cases x
      · go_wp2
        go_ret
        refine ⟨?_, HB2.out⟩
        have := HL.out
        have h2 := HST.out
        simp only [Bool.false_eq_true, if_false] at h2
        rw [h2] at this
        rw [← this]
        simp
      · go_wp2
        go_roundw
        case rel =>
          refine ⟨k + 1, by go_num, by omega, ?_, HB2.out⟩
          have := HL.out
          have h2 := HST.out
          simp only [if_true] at h2
          omega
        case measure => simp [intOf]; omega
    · obtain rfl : k = n := by omega
      have hz : leadF isZ l = k := by
        have := HL.out
        rw [List.drop_of_length_le (by rw [HLN.out]; exact Nat.le_refl _)] at this
        simp only [leadF] at this
        omega
      have HZ := Lib.hid hz
      clear hz
      go_wp2
      go_ret
      exact ⟨by rw [HZ.out]; rfl, HB.out⟩
theorem all_free (A : Option Addr) (n c : Nat) (l : List Pg) (w : World) (h : PS w A n c l) (hS : SZ w) :
    Calls Tryd.prog 18 #[.slice A n c, .func (Fn.func 30) #[] #[]] w fun e w' => e = .returned (.bool (l.all isZ)) ∧ Below w.heap.size w w' := by
  have HC := Lib.hid (lead_free A n c l w h hS)
  have HL : Hid (((leadF isZ l : Nat) : Int) = (n : Int) ↔ l.all isZ = true) := Lib.hid (by rw [← leadF_all, h.len]; omega)
  clear h hS
  generalize leadF isZ l = m at *
  go_enter Tryd.func18, Tryd.ntmps18
  go_wp2_with fail
  refine HC.out.mono ?_
  rintro e w' ⟨rfl, hb⟩
  have HB := Lib.hid hb
  clear hb
  go_wp2
  go_ret
  refine ⟨retb ?_, HB.out⟩
  rw [Bool.eq_iff_iff, ← HL.out]
  simp
/-- the Tails that are still to come, behind these pages: none, or they do not fit -/
theorem fitS_go {l : List Pg} {k : Nat} (hk : k < l.length) (d : Nat) : fitS d (l.drop k) = if isT (pg l k) = decide (0 < d) then fitS (max (max d (pg l k).r.toNat) 1 - 1) (l.drop (k + 1)) else none := by
  rw [drop_at hk]; rfl
theorem fitS_bound {l : List Pg} (h : l.all oneP = true) : ∀ k, k < l.length → 0 ≤ (pg l k).r ∧ (pg l k).r ≤ 16 := fun k hk => ⟨(one_run (all_at h hk)).1, (one_run (all_at h hk)).2.1⟩
set_option maxHeartbeats 2000000 in
theorem fit_any (A : Option Addr) (n c : Nat) (l : List Pg) (w : World) (h : PS w A n c l) (ha : l.all oneP = true) :
    Calls Tryd.prog 44 #[.slice A n c] w fun e w' => e = .returned (.bool (fitS 0 l == some 0)) ∧ Below w.heap.size w w' := by
  have HP := Lib.hid h
  have hln := h.len
  have HLN := Lib.hid hln
  have hcn := h.cap
  have hcm := h.capm
  have HBD := Lib.hid (fitS_bound ha)
  have HTL : Hid (∀ (p : Pg) W, Calls Tryd.prog 31 #[p.val] W fun e w' => e = .returned (.bool (isT p)) ∧ Below W.heap.size W w') := Lib.hid (fun p W => tail_any p W)
  clear h hln ha
  go_enter Tryd.func44, Tryd.ntmps44
  go_wp2
  go_loopw [3, 8] (fun v i W => ∃ k d : Nat, i = .int .i64 (k : Int) ∧ v = .int .i64 (d : Int) ∧ k ≤ n ∧ d ≤ 1000 ∧ fitS d (l.drop k) = fitS 0 l ∧ Below w.heap.size w W) (fun _ i _ => n - (intOf i).toNat)
  case atStart => exact ⟨0, 0, rfl, rfl, Nat.zero_le _, by omega, rfl, Below.refl _ _⟩
  case round =>
    obtain ⟨k, d, rfl, rfl, hk, hd, hl, hb⟩ := hrel
    have HL := Lib.hid hl
    have HB := Lib.hid hb
    clear hl hb
    by_cases hlt : k < n
    · obtain ⟨b, o, rfl, hbW, hcell⟩ := (HP.out.below HB.out).at_ (by omega)
      have hp := hcell k hlt
      obtain ⟨p, hpe⟩ : ∃ p, p = pg l k := ⟨_, rfl⟩
      rw [← hpe] at hp
      have hr := HBD.out k (by rw [HLN.out]; exact hlt)
      rw [← hpe] at hr
      obtain ⟨hr1, hr2⟩ := hr
      have HPE := Lib.hid hpe
      obtain ⟨c0, c1, c2, c3, c4⟩ := hp
      clear hpe hcell
      have hst := fitS_go (show k < l.length by rw [HLN.out]; exact hlt) d
      rw [← HPE.out] at hst
      have HST := Lib.hid hst
      clear hst
      obtain ⟨q, hq⟩ : ∃ q : Nat, p.r = (q : Int) := ⟨p.r.toNat, by omega⟩
      have HQ := Lib.hid hq
      rw [hq] at c2 hr2
      clear hq hr1
      go_wp2_with fail
      rw [← HQ.out]
      refine (HTL.out p _).mono ?_
      rintro e w' ⟨rfl, hb2⟩
      obtain ⟨q1, q2, q3⟩ := box_keep hb2
      rw [HQ.out] at q1
      obtain ⟨e0, e1, e2, e3, e4⟩ := five q1
      have HB2 := Lib.hid (HB.out.trans (q2.mono HB.out.size))
      clear hb2 q1 q2 c0 c1 c2 c3 c4
      obtain ⟨x, hx⟩ : ∃ x, x = isT p := ⟨_, rfl⟩
      rw [← hx]
      have HX := Lib.hid hx
      clear hx
      by_cases hd0 : 0 < d
      · cases x
        · go_wp2
          go_ret
          refine ⟨retb ?_, HB2.out⟩
          rw [← HL.out, HST.out, ← HX.out, decide_eq_true hd0]; rfl
        · go_wp2
          go_roundw
          case rel =>
            refine ⟨k + 1, max (max d q) 1 - 1, by go_num, congrArg (Value.int .i64) (by split <;> omega), by omega, by omega, ?_, HB2.out⟩
            rw [← HL.out, HST.out, ← HX.out, decide_eq_true hd0, if_pos rfl, HQ.out, Int.toNat_natCast]
          case measure => simp [intOf]; omega
      · obtain rfl : d = 0 := by omega
        cases x
        · go_wp2
          go_roundw
          case rel =>
            refine ⟨k + 1, max (max 0 q) 1 - 1, by go_num, congrArg (Value.int .i64) (by first | (split <;> omega) | omega), by omega, by omega, ?_, HB2.out⟩
            rw [← HL.out, HST.out, ← HX.out, decide_eq_false hd0, if_pos rfl, HQ.out, Int.toNat_natCast]
          case measure => simp [intOf]; omega
        · go_wp2
          go_ret
          refine ⟨retb ?_, HB2.out⟩
          rw [← HL.out, HST.out, ← HX.out]; rfl
    · obtain rfl : k = n := by omega
      have hz : fitS 0 l = some d := by
        have := HL.out
        rw [List.drop_of_length_le (by rw [HLN.out]; exact Nat.le_refl _)] at this
        exact this.symm
      have HZ := Lib.hid hz
      clear hz
      go_wp2
      go_ret
      refine ⟨retb ?_, HB.out⟩
      rw [HZ.out, Bool.eq_iff_iff]
      simp
set_option maxHeartbeats 2000000 in
theorem check_any (A : Option Addr) (n c : Nat) (l : List Pg) (w : World) (h : PS w A n c l) (hS : SZ w) :
    Calls Tryd.prog 40 #[.slice A n c] w fun e w' => e = .returned (.int .i64 (if mayL l then 0 else 4)) ∧ Below w.heap.size w w' := by
  have HP := Lib.hid h
  have HSZ := Lib.hid hS
  have hln := h.len
  have HLN := Lib.hid hln
  have hcn := h.cap
  have hcm := h.capm
  clear h hS hln
  by_cases h64 : 64 < n
  · have HM : Hid (mayL l = false) := Lib.hid (by unfold mayL; rw [HLN.out, decide_eq_false (by omega)]; rfl)
    rw [HM.out]
    go_enter Tryd.func40, Tryd.ntmps40
    go_wp2
    go_ret
    exact ⟨rfl, Below.refl _ _⟩
  · have HA := Lib.hid (all_may A n c l w HP.out HSZ.out)
    obtain ⟨x, hx⟩ : ∃ x, x = l.all oneP := ⟨_, rfl⟩
    rw [← hx] at HA
    have HX := Lib.hid hx
    clear hx
    cases x
    · have HM : Hid (mayL l = false) := Lib.hid (by unfold mayL okL; rw [← HX.out, Bool.false_and, Bool.and_false])
      rw [HM.out]
      go_enter Tryd.func40, Tryd.ntmps40
      go_wp2_with fail
      refine HA.out.mono ?_
      rintro e w' ⟨rfl, hb⟩
      have HB := Lib.hid hb
      clear hb
      go_wp2
      go_ret
      exact ⟨rfl, HB.out⟩
    · obtain ⟨y, hy⟩ : ∃ y, y = (fitS 0 l == some 0) := ⟨_, rfl⟩
      have HM : Hid (mayL l = y) := Lib.hid (by unfold mayL okL; rw [← HX.out, HLN.out, decide_eq_true (by omega), Bool.true_and, Bool.true_and, hy])
      have HF : Hid (∀ W, Below w.heap.size w W → Calls Tryd.prog 44 #[.slice A n c] W fun e w' => e = .returned (.bool y) ∧ Below W.heap.size W w') := Lib.hid (fun W hb => by rw [hy]; exact fit_any A n c l W (HP.out.below hb) HX.out.symm)
      rw [HM.out]
      clear hy HM
      cases y
      all_goals
        go_enter Tryd.func40, Tryd.ntmps40
        go_wp2_with fail
        refine HA.out.mono ?_
        rintro e w' ⟨rfl, hb⟩
        have HB := Lib.hid hb
        clear hb
        go_wp2_with fail
        refine (HF.out _ HB.out).mono ?_
        rintro e w2 ⟨rfl, hb2⟩
        have HB2 := Lib.hid (HB.out.trans (hb2.mono HB.out.size))
        clear hb2
        go_wp2
        go_ret
        exact ⟨rfl, HB2.out⟩
end Go.Proofs.YtooahpfeamobcaaDoor
