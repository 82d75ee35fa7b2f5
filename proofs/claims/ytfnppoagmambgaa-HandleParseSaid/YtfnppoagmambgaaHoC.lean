/-
  Heads of roots: which numbers may stand there; which heads may be, the program's and the document's.
-/
import Derived.Test.YtfnppoagmambgaaHoB
namespace Go.Proofs.Ytfnppoagmambgaa
open Go.RowKit Go
set_option linter.unusedVariables false
set_option linter.unusedSimpArgs false
set_option maxRecDepth 100000
/-- a number that can't be a root -/
def StrayN (h : Nat) : Prop := h ≠ 0 ∧ ¬ HMay (hP (h : Int)) (hS (h : Int)) (hR (h : Int))
instance (h : Nat) : Decidable (StrayN h) := by unfold StrayN; infer_instance
def NoStray (l : List Nat) : Prop := ∀ j, j < 16 → ¬ StrayN (l.getD (j + 1) 0)
instance (l : List Nat) : Decidable (NoStray l) := decidable_of_iff (∀ j : Fin 16, ¬ StrayN (l.getD (j.1 + 1) 0)) ⟨fun h j hj => h ⟨j, hj⟩, fun h j => h j.1 j.2⟩
/-- a head that may be -/
def RMay (l : List Nat) : Prop := 1 ≤ l.getD 0 0 ∧ l.getD 0 0 ≤ 281474976710656 ∧ ∀ j, j < 16 → ¬ StrayN (l.getD (j + 1) 0)
instance (l : List Nat) : Decidable (RMay l) := inferInstanceAs (Decidable (_ ∧ _ ∧ NoStray l))
theorem PlV_gen (h : Int) : ∃ g : Array Value, PlV h = .tuple #[.agg g, .bool (decide (HMay (hP h) (hS h) (hR h)))] ∧ ∃ x y z : Int, g = plA x y z := by
  by_cases hm : HMay (hP h) (hS h) (hR h)
  · exact ⟨_, by rw [PlV_yes hm, decide_eq_true hm], _, _, _, rfl⟩
  · exact ⟨_, by rw [PlV_no hm, decide_eq_false hm], _, _, _, rfl⟩
theorem nowhere_any (h : Nat) (hh : h < 2 ^ 64) (w : World) :
    Calls Try.prog 42 #[.func (Fn.func 11) #[.int .u64 (h : Int)] #[]] w fun e w' => e = .returned (.bool (!decide (HMay (hP (h : Int)) (hS (h : Int)) (hR (h : Int))))) ∧ Below w.heap.size w w' := by
  have HP := Lib.hid (fun W => hplace_any h hh W)
  obtain ⟨g, hg, x, y, z, rfl⟩ := PlV_gen (h : Int)
  rw [hg] at HP
  generalize decide (HMay (hP (h : Int)) (hS (h : Int)) (hR (h : Int))) = b at *
  clear hg
  go_enter Try.func42, Try.ntmps42
  go_wp2_with fail
  refine (HP.out _).mono ?_
  rintro e w1 ⟨rfl, hb⟩
  have HB := Lib.hid (hb.alloc hb.size (.cells (plA x y z) 29))
  clear hb
  go_wp2
  go_ret
  exact ⟨rfl, HB.out⟩
theorem stray_any (h : Nat) (hh : h < 2 ^ 64) (w : World) :
    Calls Try.prog 33 #[.int .u64 (h : Int)] w fun e w' => e = .returned (.bool (decide (StrayN h))) ∧ Below w.heap.size w w' := by
  have HN := Lib.hid (fun W => nowhere_any h hh W)
  rcases Nat.eq_zero_or_pos h with rfl | hp
  · clear HN hh
    go_enter Try.func33, Try.ntmps33
    go_wp2
    go_ret
    exact ⟨ret_bool (by rw [eq_comm, decide_eq_false_iff_not]; exact fun c => c.1 rfl), Below.refl _ _⟩
  · have h1 : ((h : Int) == 0) = false := by rw [beq_eq_false_iff_ne]; omega
    have h2 : ((h : Int) != 0) = true := by simp [bne, h1]
    have h3 : ¬ h = 0 := by omega
    have e : decide (StrayN h) = !decide (HMay (hP (h : Int)) (hS (h : Int)) (hR (h : Int))) := by
      unfold StrayN
      rw [Bool.eq_iff_iff]
      simp [h3]
    rw [e]
    generalize decide (HMay (hP (h : Int)) (hS (h : Int)) (hR (h : Int))) = b at *
    clear e
    go_enter Try.func33, Try.ntmps33
    go_wp2_with fail
    refine (HN.out _).mono ?_
    rintro e w1 ⟨rfl, hb⟩
    have HB := Lib.hid hb
    clear hb
    go_wp2
    go_ret
    exact ⟨rfl, HB.out⟩
/-- some root is stray -/
def Strays (l : List Nat) (n : Nat) : Prop := ∃ j, j < n ∧ StrayN (l.getD (j + 1) 0)
def IdxR (w : World) (l : List Nat) (i : Value) (wr : World) : Prop := ∃ k : Nat, i = .int .i64 (k : Int) ∧ k ≤ 16 ∧ Below w.heap.size w wr ∧ ∀ j, j < k → ¬ StrayN (l.getD (j + 1) 0)
theorem hindex_any (g : Nat) (l : List Nat) (h64 : ∀ i, l.getD i 0 < 2 ^ 64) (w : World) (hr : Row w g 45 (uF l) 17) :
    Calls Try.prog 41 #[.slice (some ⟨g, 1, none⟩) 16 16, .func (Fn.func 33) #[] #[]] w
      fun e w' => (∃ i : Int, e = .returned (.int .i64 i) ∧ (0 ≤ i ↔ ∃ j, j < 16 ∧ StrayN (l.getD (j + 1) 0))) ∧ Below w.heap.size w w' := by
  have HR := Lib.hid hr
  have H64 := Lib.hid h64
  clear hr h64
  go_enter Try.func41, Try.ntmps41
  go_wp2
  go_loopw [8] (fun i wr => IdxR w l i wr) (fun i _ => (16 - intOf i).toNat)
  case atStart => exact ⟨0, rfl, by omega, Below.refl _ _, fun j hj => by omega⟩
  case round =>
    obtain ⟨k, rfl, hk, hb, hno⟩ := hrel
    by_cases hlt : k < 16
    · have hc : wr.cell? ⟨g, 1 + k, none⟩ = some (.int .u64 ((l.getD (1 + k) 0 : Nat) : Int)) := (hb.cell HR.out.lt).trans (HR.out.cell (i := 1 + k) (by omega))
      have HS := Lib.hid (fun W => stray_any (l.getD (1 + k) 0) (H64.out _) W)
      have HNO := Lib.hid hno
      have HB := Lib.hid hb
      by_cases hs : StrayN (l.getD (1 + k) 0)
      · rw [decide_eq_true hs] at HS
        have HE : Hid (∃ j, j < 16 ∧ StrayN (l.getD (j + 1) 0)) := Lib.hid ⟨k, hlt, by rw [Nat.add_comm]; exact hs⟩
        generalize l.getD (1 + k) 0 = x at *
        clear hb hno hs
        go_wp2_with fail
        refine (HS.out _).mono ?_
        rintro e w1 ⟨rfl, hb⟩
        have HB1 := Lib.hid (HB.out.trans (hb.mono HB.out.size))
        clear hb
        go_wp2
        go_ret
        exact ⟨⟨_, rfl, ⟨fun _ => HE.out, fun _ => by omega⟩⟩, HB1.out⟩
      · rw [decide_eq_false hs] at HS
        have HNO1 : Hid (∀ j, j < k + 1 → ¬ StrayN (l.getD (j + 1) 0)) := Lib.hid (fun j hj => by
          by_cases e : j = k
          · subst e; rw [Nat.add_comm]; exact hs
          · exact hno j (by omega))
        generalize l.getD (1 + k) 0 = x at *
        clear hb hno hs
        go_wp2_with fail
        refine (HS.out _).mono ?_
        rintro e w1 ⟨rfl, hb⟩
        have HB1 := Lib.hid (HB.out.trans (hb.mono HB.out.size))
        clear hb
        go_wp2
        go_roundw
        case rel => exact ⟨k + 1, by simp, by omega, HB1.out, HNO1.out⟩
        case measure => simp [intOf]; omega
    · obtain rfl : k = 16 := by omega
      have HNO := Lib.hid hno
      have HB := Lib.hid hb
      clear hb hno
      go_wp2
      go_ret
      exact ⟨⟨-1, rfl, ⟨fun h => by omega, fun ⟨j, hj, hs⟩ => absurd hs (HNO.out j hj)⟩⟩, HB.out⟩
theorem hcontains_any (g : Nat) (l : List Nat) (h64 : ∀ i, l.getD i 0 < 2 ^ 64) (w : World) (hr : Row w g 45 (uF l) 17) :
    Calls Try.prog 32 #[.slice (some ⟨g, 1, none⟩) 16 16, .func (Fn.func 33) #[] #[]] w
      fun e w' => e = .returned (.bool (!decide (NoStray l))) ∧ Below w.heap.size w w' := by
  have HI := Lib.hid (hindex_any g l h64 w hr)
  go_enter Try.func32, Try.ntmps32
  go_wp2_with fail
  refine HI.out.mono ?_
  rintro e w1 ⟨⟨i, rfl, hi⟩, hb⟩
  have HB := Lib.hid hb
  have HQ : Hid (decide (0 ≤ i) = !decide (NoStray l)) := Lib.hid (by rw [Bool.eq_iff_iff, decide_eq_true_iff, hi]; unfold NoStray; simp)
  clear hb hi
  go_wp2
  go_ret
  exact ⟨ret_bool HQ.out, HB.out⟩
theorem hmay_any (l : List Nat) (h64 : ∀ i, l.getD i 0 < 2 ^ 64) (w : World) :
    Calls Try.prog 22 #[.agg (rtV l)] w fun e w' => e = .returned (.bool (decide (RMay l))) ∧ Below w.heap.size w w' := by
  obtain ⟨V, hV⟩ : ∃ V, V = w.alloc (.cells (rtV l) 45) := ⟨_, rfl⟩
  have hr : Row V w.heap.size 45 (uF l) 17 := by rw [hV]; exact Row.new w _ _ _
  have hb0 : Below w.heap.size w V := by rw [hV]; exact (Below.refl _ _).alloc (Nat.le_refl _) _
  have HCO := Lib.hid (hcontains_any w.heap.size l h64 V hr)
  have HB0 := Lib.hid hb0
  have hc0 : (rtV l)[0]? = some (.int .u64 ((l.getD 0 0 : Nat) : Int)) := rowV_at (uF l) (by omega)
  have hn := h64 0
  have HE : Hid (RMay l ↔ 1 ≤ l.getD 0 0 ∧ l.getD 0 0 ≤ 281474976710656 ∧ ∀ j, j < 16 → ¬ StrayN (l.getD (j + 1) 0)) := Lib.hid Iff.rfl
  generalize hd : decide (RMay l) = d
  have HD := Lib.hid hd
  have HV := Lib.hid hV
  rw [HV.out] at HCO HB0
  obtain ⟨n, hnn⟩ : ∃ n, n = l.getD 0 0 := ⟨_, rfl⟩
  rw [← hnn] at hc0 HE hn
  obtain ⟨rt, hrt⟩ : ∃ z, z = rtV l := ⟨_, rfl⟩
  rw [← hrt] at hc0 HCO HB0 ⊢
  generalize hS : decide (NoStray l) = s at HCO
  have HS := Lib.hid hS
  clear hV hd hr hb0 hnn hrt hS HV h64
  rcases (by omega : n < 1 ∨ (1 ≤ n ∧ 281474976710656 < n) ∨ (1 ≤ n ∧ n ≤ 281474976710656)) with h | ⟨h1, h2⟩ | ⟨h1, h2⟩
  · have hf : d = false := by rw [← HD.out, decide_eq_false_iff_not, HE.out]; omega
    subst hf
    have a1 : decide ((1 : Int) ≤ (n : Int)) = false := decide_eq_false (by omega)
    go_enter Try.func22, Try.ntmps22
    go_wp2
    go_ret
    exact ⟨rfl, HB0.out⟩
  · have hf : d = false := by rw [← HD.out, decide_eq_false_iff_not, HE.out]; omega
    subst hf
    have a1 : decide ((1 : Int) ≤ (n : Int)) = true := decide_eq_true (by omega)
    have a2 : decide ((n : Int) ≤ 281474976710656) = false := decide_eq_false (by omega)
    go_enter Try.func22, Try.ntmps22
    go_wp2
    go_ret
    exact ⟨rfl, HB0.out⟩
  · have hf : d = s := by rw [← HD.out, ← HS.out, decide_eq_decide, HE.out]; exact ⟨fun h => h.2.2, fun h => ⟨h1, h2, h⟩⟩
    subst hf
    have a1 : decide ((1 : Int) ≤ (n : Int)) = true := decide_eq_true (by omega)
    have a2 : decide ((n : Int) ≤ 281474976710656) = true := decide_eq_true (by omega)
    clear HD HS
    go_enter Try.func22, Try.ntmps22
    go_wp2_with fail
    refine HCO.out.mono ?_
    rintro e w1 ⟨rfl, hb⟩
    have HB1 := Lib.hid (HB0.out.trans (hb.mono HB0.out.size))
    clear hb
    go_wp2
    go_ret
    exact ⟨ret_bool (by simp), HB1.out⟩
def RightR (w : World) (l : List Nat) (i : Value) (wr : World) : Prop := ∃ k : Nat, i = .int .i64 (k : Int) ∧ k ≤ 16 ∧ Below w.heap.size w wr ∧ Row wr w.heap.size 40 (uF l) 17 ∧ ∀ j, j < k → ¬ StrayN (l.getD (j + 1) 0)
set_option maxHeartbeats 1000000 in
theorem rright_any (l : List Nat) (h64 : ∀ i, l.getD i 0 < 2 ^ 64) (w : World) :
    Calls Try.prog 18 #[.agg (rtV l)] w fun e w' => e = .returned (.bool (decide (RMay l))) ∧ Below w.heap.size w w' := by
  obtain ⟨V, hV⟩ : ∃ V, V = w.alloc (.cells (rtV l) 40) := ⟨_, rfl⟩
  have hr : Row V w.heap.size 40 (uF l) 17 := by rw [hV]; exact Row.new w _ _ _
  have hb0 : Below w.heap.size w V := by rw [hV]; exact (Below.refl _ _).alloc (Nat.le_refl _) _
  have HIA := Lib.hid (info_arr l)
  have HMID := Lib.hid (rt_mid hr)
  have HIX := Lib.hid (fun j hj W => index_r l j hj W)
  have HARR : Hid ((arV l).toList.toArray = arV l) := Lib.hid (by simp)
  have H0 : Hid (RightR w l (.int .i64 0) V) := Lib.hid ⟨0, rfl, by omega, hb0, hr, fun j hj => by omega⟩
  have H64 := Lib.hid h64
  have HE : Hid (RMay l ↔ 1 ≤ l.getD 0 0 ∧ l.getD 0 0 ≤ 281474976710656 ∧ ∀ j, j < 16 → ¬ StrayN (l.getD (j + 1) 0)) := Lib.hid Iff.rfl
  generalize hd : decide (RMay l) = d
  have HD := Lib.hid hd
  clear hd
  have HU0 : Hid (uF l 0 = .int .u64 ((l.getD 0 0 : Nat) : Int)) := Lib.hid rfl
  rw [hV] at HMID H0
  obtain ⟨ar, har⟩ : ∃ z, z = arV l := ⟨_, rfl⟩
  obtain ⟨rt, hrt⟩ : ∃ z, z = rtV l := ⟨_, rfl⟩
  rw [← hrt] at HMID H0 ⊢
  rw [← har] at HIA HMID HIX HARR
  clear hV hr hb0 h64 har hrt
  go_enter Try.func18, Try.ntmps18
  go_wp2_with (with_reducible refine wpList_load_mid rfl 38 (.tmp 7) rfl w.heap.size 1 rfl ar.toList _ HMID.out Try.underlying38 rfl HIA.out ?_)
  go_loopw [9] (fun i wr => RightR w l i wr) (fun i _ => (16 - intOf i).toNat)
  case atStart => exact H0.out
  case round =>
    obtain ⟨k, rfl, hk, hb, hr, hno⟩ := hrel
    by_cases hlt : k < 16
    · have hi := HIX.out k hlt
      have HX := Lib.hid (H64.out (k + 1))
      have HO := Lib.hid (fun W => rof_any (l.getD (k + 1) 0) HX.out W)
      obtain ⟨g, hg, x, y, z, rfl⟩ := PlV_gen ((l.getD (k + 1) 0 : Nat) : Int)
      rw [hg] at HO
      have HST : Hid (StrayN (l.getD (k + 1) 0) ↔ l.getD (k + 1) 0 ≠ 0 ∧ decide (HMay (hP ((l.getD (k + 1) 0 : Nat) : Int)) (hS ((l.getD (k + 1) 0 : Nat) : Int)) (hR ((l.getD (k + 1) 0 : Nat) : Int))) = false) := Lib.hid (by unfold StrayN; rw [decide_eq_false_iff_not])
      have HNX : Hid (¬ StrayN (l.getD (k + 1) 0) → ∀ j, j < k + 1 → ¬ StrayN (l.getD (j + 1) 0)) := Lib.hid (fun hs j hj => by
        by_cases e : j = k
        · subst e; exact hs
        · exact hno j (by omega))
      have HSX : Hid (StrayN (l.getD (k + 1) 0) → d = false) := Lib.hid (fun hs => by rw [← HD.out, decide_eq_false_iff_not, HE.out]; exact fun h => h.2.2 k hlt hs)
      have HB := Lib.hid hb
      have HR := Lib.hid hr
      generalize decide (HMay (hP ((l.getD (k + 1) 0 : Nat) : Int)) (hS ((l.getD (k + 1) 0 : Nat) : Int)) (hR ((l.getD (k + 1) 0 : Nat) : Int))) = b at *
      generalize l.getD (k + 1) 0 = n at *
      clear hg hno hb hr H0
      by_cases hn : n = 0
      · subst hn
        go_wp2_with fail
        refine (HO.out _).mono ?_
        rintro e w1 ⟨rfl, hb⟩
        have HB1 := Lib.hid ((HB.out.trans (hb.mono HB.out.size)).alloc (Nat.le_trans HB.out.size hb.size) (.cells (plA x y z) 24))
        have HR1 := Lib.hid (((HR.out.below hb HR.out.lt)).alloc (.cells (plA x y z) 24))
        clear hb
        go_wp2
        go_roundw
        case rel => exact ⟨k + 1, by simp, by omega, HB1.out, HR1.out, HNX.out (fun h => (HST.out.mp h).1 rfl)⟩
        case measure => simp [intOf]; omega
      · have h1 : ((n : Int) == 0) = false := by rw [beq_eq_false_iff_ne]; omega
        have h2 : ((n : Int) != 0) = true := by simp [bne, h1]
        cases b
        · obtain rfl := HSX.out (HST.out.mpr ⟨hn, rfl⟩)
          go_wp2_with fail
          refine (HO.out _).mono ?_
          rintro e w1 ⟨rfl, hb⟩
          have HB1 := Lib.hid ((HB.out.trans (hb.mono HB.out.size)).alloc (Nat.le_trans HB.out.size hb.size) (.cells (plA x y z) 24))
          clear hb
          go_wp2
          go_ret
          exact ⟨rfl, HB1.out⟩
        · go_wp2_with fail
          refine (HO.out _).mono ?_
          rintro e w1 ⟨rfl, hb⟩
          have HB1 := Lib.hid ((HB.out.trans (hb.mono HB.out.size)).alloc (Nat.le_trans HB.out.size hb.size) (.cells (plA x y z) 24))
          have HR1 := Lib.hid (((HR.out.below hb HR.out.lt)).alloc (.cells (plA x y z) 24))
          clear hb
          go_wp2
          go_roundw
          case rel => exact ⟨k + 1, by simp, by omega, HB1.out, HR1.out, HNX.out (fun h => by have := (HST.out.mp h).2; cases this)⟩
          case measure => simp [intOf]; omega
    · obtain rfl : k = 16 := by omega
      have hc := hr.cell (i := 0) (by omega)
      rw [HU0.out] at hc
      have HNO := Lib.hid hno
      have HB := Lib.hid hb
      have hn := H64.out 0
      have HF : Hid (decide (1 ≤ l.getD 0 0 ∧ l.getD 0 0 ≤ 281474976710656) = d) := Lib.hid (by rw [← HD.out, decide_eq_decide, HE.out]; exact ⟨fun h => ⟨h.1, h.2, hno⟩, fun h => ⟨h.1, h.2.1⟩⟩)
      generalize l.getD 0 0 = n at *
      clear hno hb hr H0
      rcases (by omega : n < 1 ∨ (1 ≤ n ∧ 281474976710656 < n) ∨ (1 ≤ n ∧ n ≤ 281474976710656)) with h | ⟨h1, h2⟩ | ⟨h1, h2⟩
      · have a1 : decide ((1 : Int) ≤ (n : Int)) = false := decide_eq_false (by omega)
        have a1' : decide (1 ≤ n) = false := decide_eq_false (by omega)
        have hd : d = false := by rw [← HF.out, decide_eq_false_iff_not]; omega
        subst hd
        go_wp2
        go_ret
        exact ⟨rfl, HB.out⟩
      · have a1 : decide ((1 : Int) ≤ (n : Int)) = true := decide_eq_true (by omega)
        have a1' : decide (1 ≤ n) = true := decide_eq_true (by omega)
        have a2 : decide ((n : Int) ≤ 281474976710656) = false := decide_eq_false (by omega)
        have hd : d = false := by rw [← HF.out, decide_eq_false_iff_not]; omega
        subst hd
        go_wp2
        go_ret
        exact ⟨rfl, HB.out⟩
      · have a1 : decide ((1 : Int) ≤ (n : Int)) = true := decide_eq_true (by omega)
        have a1' : decide (1 ≤ n) = true := decide_eq_true (by omega)
        have a2 : decide ((n : Int) ≤ 281474976710656) = true := decide_eq_true (by omega)
        have hd : d = true := by rw [← HF.out, decide_eq_true_iff]; omega
        subst hd
        go_wp2
        go_ret
        exact ⟨rfl, HB.out⟩
end Go.Proofs.Ytfnppoagmambgaa
