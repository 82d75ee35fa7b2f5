/-
  Layer 18: one call, of both: Take (2).
-/
import Derived.Test.YtflgcddgocojpaaDoorSlW
namespace Go.Proofs.YtflgcddgocojpaaDoor
open Go.RowKit Go
set_option linter.unusedVariables false
set_option linter.unusedSimpArgs false
set_option maxHeartbeats 10000000
set_option maxRecDepth 100000

theorem step_2 (k b q c cl nb cb : Nat) (kd K N at_ : Int) (hkd : kd = 2) (s : Nat) (A Ab : Option Addr) (l : List Ob) (pb : List Nat) (w : World) (hs64 : s < 2 ^ 64) (hat : at_ ≤ 9223372036854775807) (hS : SZ w) (hk : k < 8) (hp : PSt w (clZ k) (clS k) b q c A cl l) (hb : BS w w.heap.size Ab nb cb pb) (hbz : Ab = none → cb = 0) :
    Calls Tryd.prog 8 #[.slice (some ⟨b, q, none⟩) 256 c, .slice A (clS k) cl, .int .i64 (k : Int), .agg #[.int .i64 kd, .int .i64 K, .int .i64 N, .int .i64 at_, .int .u64 (s : Int), .slice Ab nb cb]] w (StTo w (clZ k) (clS k)) := by
  obtain ⟨z1, z2, z3, z4, z5, z6⟩ := cl_fits k hk
  have hbl := hb.len
  have hbc := hb.cap
  have hlen := hp.ok.len
  obtain ⟨m, pm, hcut, hbm⟩ : ∃ m pm, ((nb ≤ 130 ∧ m = nb) ∨ (130 < nb ∧ m = 130)) ∧ BS w w.heap.size Ab m cb pm := by
    by_cases h : nb ≤ 130
    · exact ⟨nb, pb, .inl ⟨h, rfl⟩, hb⟩
    · exact ⟨130, _, .inr ⟨by omega, rfl⟩, hb.take (by omega)⟩
  have HB5 : Hid (Below w.heap.size w (w.alloc (.cells #[.int .i64 kd, .int .i64 K, .int .i64 N, .int .i64 at_, .int .u64 (s : Int), .slice Ab m cb] 29))) := Lib.hid ((Below.refl _ _).alloc (Nat.le_refl _) _)
  have HXX : Hid (w.heap.size < (w.alloc (.cells #[.int .i64 kd, .int .i64 K, .int .i64 N, .int .i64 at_, .int .u64 (s : Int), .slice Ab m cb] 29)).heap.size) := Lib.hid (by simp)
  have HBC : Hid (∀ w', Below (w.alloc (.cells #[.int .i64 kd, .int .i64 K, .int .i64 N, .int .i64 at_, .int .u64 (s : Int), .slice Ab m cb] 29)).heap.size (w.alloc (.cells #[.int .i64 kd, .int .i64 K, .int .i64 N, .int .i64 at_, .int .u64 (s : Int), .slice Ab m cb] 29)) w' → w'.cell? ⟨w.heap.size, 0, none⟩ = some (.int .i64 kd) ∧ w'.cell? ⟨w.heap.size, 1, none⟩ = some (.int .i64 K) ∧ w'.cell? ⟨w.heap.size, 2, none⟩ = some (.int .i64 N) ∧ w'.cell? ⟨w.heap.size, 3, none⟩ = some (.int .i64 at_) ∧ w'.cell? ⟨w.heap.size, 4, none⟩ = some (.int .u64 (s : Int)) ∧ w'.cell? ⟨w.heap.size, 5, none⟩ = some (.slice Ab m cb)) := Lib.hid (fun w' h => by
    have e := heap_alloc_new w (.cells #[.int .i64 kd, .int .i64 K, .int .i64 N, .int .i64 at_, .int .u64 (s : Int), .slice Ab m cb] 29)
    exact ⟨(h.cell (p := ⟨w.heap.size, 0, none⟩) HXX.out).trans (blk_cell e 0), (h.cell (p := ⟨w.heap.size, 1, none⟩) HXX.out).trans (blk_cell e 1), (h.cell (p := ⟨w.heap.size, 2, none⟩) HXX.out).trans (blk_cell e 2), (h.cell (p := ⟨w.heap.size, 3, none⟩) HXX.out).trans (blk_cell e 3), (h.cell (p := ⟨w.heap.size, 4, none⟩) HXX.out).trans (blk_cell e 4), (h.cell (p := ⟨w.heap.size, 5, none⟩) HXX.out).trans (blk_cell e 5)⟩)
  have HP := Lib.hid (hp.below HB5.out)
  have hc0 : (convert 23 9 (.slice (some ⟨b, q, none⟩) 256 c)).run Tryd.prog (w.alloc (.cells #[.int .i64 kd, .int .i64 K, .int .i64 N, .int .i64 at_, .int .u64 (s : Int), .slice Ab m cb] 29)) = .ok (.string (str (pageO (clZ k) l))) (w.alloc (.cells #[.int .i64 kd, .int .i64 K, .int .i64 N, .int .i64 at_, .int .u64 (s : Int), .slice Ab m cb] 29)) := conv_at HP.out.pg
  have HCV : Hid (∀ w', Below (w.alloc (.cells #[.int .i64 kd, .int .i64 K, .int .i64 N, .int .i64 at_, .int .u64 (s : Int), .slice Ab m cb] 29)).heap.size (w.alloc (.cells #[.int .i64 kd, .int .i64 K, .int .i64 N, .int .i64 at_, .int .u64 (s : Int), .slice Ab m cb] 29)) w' → (convert 23 9 (.slice (some ⟨b, q, none⟩) 256 c)).run Tryd.prog w' = .ok (.string (str (pageO (clZ k) l))) w') := Lib.hid (fun w' h => conv_at (HP.out.pg.below h))
  have HSZ := Lib.hid (fun W (h : Below (w.alloc (.cells #[.int .i64 kd, .int .i64 K, .int .i64 N, .int .i64 at_, .int .u64 (s : Int), .slice Ab m cb] 29)).heap.size (w.alloc (.cells #[.int .i64 kd, .int .i64 K, .int .i64 N, .int .i64 at_, .int .u64 (s : Int), .slice Ab m cb] 29)) W) => rsize_n k hk W (hS.below (HB5.out.trans (h.mono HB5.out.size))))
  have HST : Hid (∀ w', Below (w.alloc (.cells #[.int .i64 kd, .int .i64 K, .int .i64 N, .int .i64 at_, .int .u64 (s : Int), .slice Ab m cb] 29)).heap.size (w.alloc (.cells #[.int .i64 kd, .int .i64 K, .int .i64 N, .int .i64 at_, .int .u64 (s : Int), .slice Ab m cb] 29)) w' → StTo w (clZ k) (clS k) (.returned (.tuple #[.slice (some ⟨b, q, none⟩) 256 c, .slice A (clS k) cl, .bool true])) w') := Lib.hid (fun w' h => ⟨HB5.out.trans (h.mono HB5.out.size), b, q, c, A, cl, l, rfl, HP.out.below h⟩)
  have HSN : Hid (∀ w' b' q' c' A' cl' l', Below (w.alloc (.cells #[.int .i64 kd, .int .i64 K, .int .i64 N, .int .i64 at_, .int .u64 (s : Int), .slice Ab m cb] 29)).heap.size (w.alloc (.cells #[.int .i64 kd, .int .i64 K, .int .i64 N, .int .i64 at_, .int .u64 (s : Int), .slice Ab m cb] 29)) w' → PSt w' (clZ k) (clS k) b' q' c' A' cl' l' → StTo w (clZ k) (clS k) (.returned (.tuple #[.slice (some ⟨b', q', none⟩) 256 c', .slice A' (clS k) cl', .bool true])) w') := Lib.hid (fun w' b' q' c' A' cl' l' h hp => ⟨HB5.out.trans (h.mono HB5.out.size), b', q', c', A', cl', l', rfl, hp⟩)
  have HPG := Lib.hid (fun W (h : Below (w.alloc (.cells #[.int .i64 kd, .int .i64 K, .int .i64 N, .int .i64 at_, .int .u64 (s : Int), .slice Ab m cb] 29)).heap.size (w.alloc (.cells #[.int .i64 kd, .int .i64 K, .int .i64 N, .int .i64 at_, .int .u64 (s : Int), .slice Ab m cb] 29)) W) A cc l' (hv : ObV W A (clS k) l') (hok : OkL (clZ k) (clS k) l') => page18_any k A (clS k) cc l' W (hS.below (HB5.out.trans (h.mono HB5.out.size))) hk hv z3 (fun i => by have := (hok.at_ i).long; omega) (fun i => by have := (hok.at_ i).ser; omega))
  have HEQ : Hid (∀ l', OkL (clZ k) (clS k) l' → ∀ i, (pageO (clZ k) l').getD i 0 < 256) := Lib.hid (fun l' h => page_byte (by omega) (fun j => (h.at_ j).byte))
  subst hkd
  have HTK := Lib.hid (take_o k b q c s N l _ hs64 (hS.below HB5.out) hk HP.out.ok HP.out.pg)
  have HFI := Lib.hid (fun W (h : Below (w.alloc (.cells #[.int .i64 2, .int .i64 K, .int .i64 N, .int .i64 at_, .int .u64 (s : Int), .slice Ab m cb] 29)).heap.size (w.alloc (.cells #[.int .i64 2, .int .i64 K, .int .i64 N, .int .i64 at_, .int .u64 (s : Int), .slice Ab m cb] 29)) W) => first18_any A (clS k) cl l W (HP.out.ob.below h) (by omega))
  have HWI := Lib.hid (fun W (h : Below (w.alloc (.cells #[.int .i64 2, .int .i64 K, .int .i64 N, .int .i64 at_, .int .u64 (s : Int), .slice Ab m cb] 29)).heap.size (w.alloc (.cells #[.int .i64 2, .int .i64 K, .int .i64 N, .int .i64 at_, .int .u64 (s : Int), .slice Ab m cb] 29)) W) kk nn (hkk : kk < clS k) (hn : N = ((nn : Nat) : Int)) A1 (hs : BS W W.heap.size A1 nn nn (zb nn)) (hz : A1 = none → nn = 0) => with_o A A1 (clS k) cl kk s nn nn l _ W hlen (HP.out.ob.below h) (by omega) hkk hs hz)
  clear hbz
  have HLEN := Lib.hid hlen
  have HRF := Lib.hid (Below.refl (w.alloc (.cells #[.int .i64 2, .int .i64 K, .int .i64 N, .int .i64 at_, .int .u64 (s : Int), .slice Ab m cb] 29)).heap.size (w.alloc (.cells #[.int .i64 2, .int .i64 K, .int .i64 N, .int .i64 at_, .int .u64 (s : Int), .slice Ab m cb] 29)))
  have hbc1 := hbc.1
  clear hp hb hbl hbc hbm hS hlen
  have HZ6 := Lib.hid z6
  have hz120 : szN k ≤ 120 := by omega
  clear z6
  generalize str (pageO (clZ k) l) = sp at *
  generalize szN k = zz at *
  generalize clZ k = z at *
  generalize clS k = S at *
  unfold TkTo at HTK
  rcases hcut with ⟨h130, rfl⟩ | ⟨h130, rfl⟩
  · have h1I : ¬ (130 : Int) < (m : Int) := by omega
    by_cases c1 : s < 1
    · have i1 : ((s : Nat) : Int) < 1 := by omega
      have hft : fitB z s N = false := by
        have := HZ6.out
        unfold fitB servesB holdsB; simp only [Bool.and_eq_false_iff, decide_eq_false_iff_not]; omega
      go_enter Tryd.func8, Tryd.ntmps8
      go_wp2_with fail
      refine HTK.out.mono ?_
      rintro e w1 ⟨hb1, (⟨_, rfl⟩ | ⟨h, _⟩ | ⟨h, _⟩)⟩
      · have HB1 := Lib.hid hb1
        have HF1 := Lib.hid (HFI.out w1 hb1)
        clear HTK HFI HWI HSN HPG HEQ hb1 hft
        go_wp2_with fail
        refine HF1.out.mono ?_
        rintro e w2 ⟨⟨i, rfl, hi⟩, hb2⟩
        have HB2 := Lib.hid (HB1.out.trans (hb2.mono HB1.out.size))
        obtain ⟨y0, y1, y2, y3, y4, y5⟩ := HBC.out w2 HB2.out
        have HSQ : Hid (∀ m, Calls Tryd.prog 20 #[.int .i64 (k : Int)] (w2.drewN m) fun e w' => e = .returned (.int .i64 (zz : Int)) ∧ w' = w2.drewN m) := Lib.hid (fun m => (HSZ.out (w2.drewN m) (below_drewN HB2.out m)).mono fun _ _ h => ⟨h.1, h.2.symm⟩)
        have hcm : ∀ m, (convert 23 9 (.slice (some ⟨b, q, none⟩) 256 c)).run Tryd.prog (w2.drewN m) = .ok (.string sp) (w2.drewN m) := fun m => HCV.out _ (below_drewN HB2.out m)
        have HF := Lib.hid (fun m => HST.out (w2.drewN m) (below_drewN HB2.out m))
        clear hi hb2 HCV HST
        go_upto_region 16 with (fail)
        go_quiet (with_reducible exact Calls.quiet_of_same (HSQ.out _))
        go_wp2_with fail
        go_ret3
        exact HF.out _
      · rw [hft] at h; cases h
      · rw [hft] at h; cases h
    · have i1 : ¬ ((s : Nat) : Int) < 1 := by omega
      by_cases c2 : s < 2 ^ 48
      · have i2 : ¬ (281474976710656 : Int) ≤ ((s : Nat) : Int) := by omega
        by_cases c3 : N < 1
        · skip
          have hft : fitB z s N = false := by
            have := HZ6.out
            unfold fitB servesB holdsB; simp only [Bool.and_eq_false_iff, decide_eq_false_iff_not]; omega
          go_enter Tryd.func8, Tryd.ntmps8
          go_wp2_with fail
          refine HTK.out.mono ?_
          rintro e w1 ⟨hb1, (⟨_, rfl⟩ | ⟨h, _⟩ | ⟨h, _⟩)⟩
          · have HB1 := Lib.hid hb1
            have HF1 := Lib.hid (HFI.out w1 hb1)
            clear HTK HFI HWI HSN HPG HEQ hb1 hft
            go_wp2_with fail
            refine HF1.out.mono ?_
            rintro e w2 ⟨⟨i, rfl, hi⟩, hb2⟩
            have HB2 := Lib.hid (HB1.out.trans (hb2.mono HB1.out.size))
            obtain ⟨y0, y1, y2, y3, y4, y5⟩ := HBC.out w2 HB2.out
            have HSQ : Hid (∀ m, Calls Tryd.prog 20 #[.int .i64 (k : Int)] (w2.drewN m) fun e w' => e = .returned (.int .i64 (zz : Int)) ∧ w' = w2.drewN m) := Lib.hid (fun m => (HSZ.out (w2.drewN m) (below_drewN HB2.out m)).mono fun _ _ h => ⟨h.1, h.2.symm⟩)
            have hcm : ∀ m, (convert 23 9 (.slice (some ⟨b, q, none⟩) 256 c)).run Tryd.prog (w2.drewN m) = .ok (.string sp) (w2.drewN m) := fun m => HCV.out _ (below_drewN HB2.out m)
            have HF := Lib.hid (fun m => HST.out (w2.drewN m) (below_drewN HB2.out m))
            clear hi hb2 HCV HST
            go_upto_region 16 with (fail)
            go_quiet (with_reducible exact Calls.quiet_of_same (HSQ.out _))
            go_wp2_with fail
            go_ret3
            exact HF.out _
          · rw [hft] at h; cases h
          · rw [hft] at h; cases h
        · by_cases c4 : (zz : Int) < N
          · skip
            have hft : fitB z s N = false := by
              have := HZ6.out
              unfold fitB servesB holdsB; simp only [Bool.and_eq_false_iff, decide_eq_false_iff_not]; omega
            go_enter Tryd.func8, Tryd.ntmps8
            go_wp2_with fail
            refine HTK.out.mono ?_
            rintro e w1 ⟨hb1, (⟨_, rfl⟩ | ⟨h, _⟩ | ⟨h, _⟩)⟩
            · have HB1 := Lib.hid hb1
              have HF1 := Lib.hid (HFI.out w1 hb1)
              clear HTK HFI HWI HSN HPG HEQ hb1 hft
              go_wp2_with fail
              refine HF1.out.mono ?_
              rintro e w2 ⟨⟨i, rfl, hi⟩, hb2⟩
              have HB2 := Lib.hid (HB1.out.trans (hb2.mono HB1.out.size))
              obtain ⟨y0, y1, y2, y3, y4, y5⟩ := HBC.out w2 HB2.out
              have HSQ : Hid (∀ m, Calls Tryd.prog 20 #[.int .i64 (k : Int)] (w2.drewN m) fun e w' => e = .returned (.int .i64 (zz : Int)) ∧ w' = w2.drewN m) := Lib.hid (fun m => (HSZ.out (w2.drewN m) (below_drewN HB2.out m)).mono fun _ _ h => ⟨h.1, h.2.symm⟩)
              have hcm : ∀ m, (convert 23 9 (.slice (some ⟨b, q, none⟩) 256 c)).run Tryd.prog (w2.drewN m) = .ok (.string sp) (w2.drewN m) := fun m => HCV.out _ (below_drewN HB2.out m)
              have HF := Lib.hid (fun m => HST.out (w2.drewN m) (below_drewN HB2.out m))
              clear hi hb2 HCV HST
              go_upto_region 16 with (fail)
              go_quiet (with_reducible exact Calls.quiet_of_same (HSQ.out _))
              go_wp2_with fail
              go_ret3
              exact HF.out _
            · rw [hft] at h; cases h
            · rw [hft] at h; cases h
          · skip
            have HD1 : Hid (decide (((s : Nat) : Int) < 1) = false) := Lib.hid (decide_eq_false (by omega))
            have HD2 : Hid (decide ((281474976710656 : Int) ≤ ((s : Nat) : Int)) = false) := Lib.hid (decide_eq_false (by omega))
            have hft : fitB z s N = true := by
              have := HZ6.out
              unfold fitB servesB holdsB; simp only [Bool.and_eq_true, decide_eq_true_iff]; omega
            obtain ⟨nn, rfl⟩ : ∃ nn : Nat, N = (nn : Int) := ⟨N.toNat, by omega⟩
            have HD3 : Hid (decide (((nn : Nat) : Int) < 1) = false) := Lib.hid (decide_eq_false (by omega))
            have HD4 : Hid (decide (zz < nn) = false) := Lib.hid (decide_eq_false (by omega))
            have hnn : nn ≤ 120 := by omega
            go_enter Tryd.func8, Tryd.ntmps8
            go_wp2_with fail
            refine HTK.out.mono ?_
            rintro e w1 ⟨hb1, (⟨h, _⟩ | ⟨hx, hno, rfl⟩ | ⟨hx, kk, hkk, hf1, hf2, h, cc, rfl, hbs, hok⟩)⟩
            · rw [hft] at h; cases h
            · have HB1 := Lib.hid hb1
              have HF1 := Lib.hid (HFI.out w1 hb1)
              have HNO := Lib.hid hno
              clear HTK HFI HWI HSN HPG HEQ hb1 hft hno hx
              go_wp2_with fail
              refine HF1.out.mono ?_
              rintro e w2 ⟨⟨i, rfl, hi⟩, hb2⟩
              obtain rfl := first_no hi HNO.out
              have HB2 := Lib.hid (HB1.out.trans (hb2.mono HB1.out.size))
              obtain ⟨y0, y1, y2, y3, y4, y5⟩ := HBC.out w2 HB2.out
              have HSQ : Hid (∀ m, Calls Tryd.prog 20 #[.int .i64 (k : Int)] (w2.drewN m) fun e w' => e = .returned (.int .i64 (zz : Int)) ∧ w' = w2.drewN m) := Lib.hid (fun m => (HSZ.out (w2.drewN m) (below_drewN HB2.out m)).mono fun _ _ h => ⟨h.1, h.2.symm⟩)
              have hcm : ∀ m, (convert 23 9 (.slice (some ⟨b, q, none⟩) 256 c)).run Tryd.prog (w2.drewN m) = .ok (.string sp) (w2.drewN m) := fun m => HCV.out _ (below_drewN HB2.out m)
              have HF := Lib.hid (fun m => HST.out (w2.drewN m) (below_drewN HB2.out m))
              clear hi hb2 HCV HST
              go_upto_region 16 with (fail)
              go_quiet (with_reducible exact Calls.quiet_of_same (HSQ.out _))
              simp only [HD1.out, HD2.out, HD3.out, HD4.out, Bool.or_false]
              clear c1 c2 c3 c4 i1 i2
              go_wp2_with fail
              go_ret3
              exact HF.out _
            · rw [Int.toNat_natCast] at hbs hok
              have HB1 := Lib.hid hb1
              have HF1 := Lib.hid (HFI.out w1 hb1)
              have HFE := Lib.hid (And.intro hf1 hf2)
              have HQ := Lib.hid hbs
              have HOK := Lib.hid hok
              have HKK := Lib.hid hkk
              clear HTK HFI hb1 hft hf1 hf2 hbs hok hx
              go_wp2_with fail
              refine HF1.out.mono ?_
              rintro e w2 ⟨⟨i, rfl, hi⟩, hb2⟩
              obtain rfl := first_eq hi HKK.out HFE.out.1 HFE.out.2
              have HB2 := Lib.hid (HB1.out.trans (hb2.mono HB1.out.size))
              obtain ⟨y0, y1, y2, y3, y4, y5⟩ := HBC.out w2 HB2.out
              have HSQ : Hid (∀ m, Calls Tryd.prog 20 #[.int .i64 (k : Int)] (w2.drewN m) fun e w' => e = .returned (.int .i64 (zz : Int)) ∧ w' = w2.drewN m) := Lib.hid (fun m => (HSZ.out (w2.drewN m) (below_drewN HB2.out m)).mono fun _ _ h => ⟨h.1, h.2.symm⟩)
              have hcm : ∀ m, (convert 23 9 (.slice (some ⟨b, q, none⟩) 256 c)).run Tryd.prog (w2.drewN m) = .ok (.string sp) (w2.drewN m) := fun m => HCV.out _ (below_drewN HB2.out m)
              have HBM := Lib.hid (fun m => below_drewN HB2.out m)
              have HQ2 := Lib.hid (fun m => (HQ.out.below (below_drewN hb2 m)).more (below_drewN hb2 m).size)
              clear hi hb2 hcm hkk HFE
              go_upto_region 16 with (fail)
              go_quiet (with_reducible exact Calls.quiet_of_same (HSQ.out _))
              simp only [HD1.out, HD2.out, HD3.out, HD4.out, Bool.or_false]
              clear c1 c2 c3 c4 i1 i2
              have HB3 := Lib.hid (HBM.out nq)
              have HQ3 := Lib.hid (HQ2.out nq)
              clear HBM HQ2 HSQ
              generalize w2.drewN nq = w3 at *
              clear y0 y1 y2 y3 y4 y5
              have hM := make_bytes nn (by omega)
              go_upto_region 21 with (fail)
              refine wp_region_F (S := (fun w' => Below w3.heap.size w3 w')) [] (by kernel_rfl) ((Below.refl _ _).drew) (fun hHeld => ?_)
              (try simp only [Act.put, List.getElem_toArray, List.getElem_cons_succ, List.getElem_cons_zero, List.setIfInBounds_toArray, List.set_cons_zero, List.set_cons_succ])
              refine wpAnyF_take (i := 0) (oi := _) (v := ?_) rfl (by kernel_rfl) (by kernel_rfl) (by kernel_rfl) (by kernel_rfl) (fun _ _ _ h => h) (Or.inl ⟨by rfl, ?_⟩) (by assumption) ?_
              rotate_left 1
              · intro w hSw
                (try dsimp only at hSw)
                obtain ⟨y0, y1, y2, y3, y4, y5⟩ := HBC.out w (HB3.out.trans (hSw.mono HB3.out.size))
                (first | (go_simp; done) | (go_simp; with_reducible rfl))
              (try simp only [Act.put, List.getElem_toArray, List.getElem_cons_succ, List.getElem_cons_zero, List.setIfInBounds_toArray, List.set_cons_zero, List.set_cons_succ])
              refine wpAnyF_take (i := 1) (oi := _) (v := ?_) rfl (by kernel_rfl) (by kernel_rfl) (by kernel_rfl) (by kernel_rfl) (fun _ _ _ h => h) (Or.inl ⟨by rfl, ?_⟩) (by assumption) ?_
              rotate_left 1
              · intro w hSw
                (try dsimp only at hSw)
                obtain ⟨y0, y1, y2, y3, y4, y5⟩ := HBC.out w (HB3.out.trans (hSw.mono HB3.out.size))
                (first | (go_simp; done) | (go_simp; with_reducible rfl))
              (try simp only [Act.put, List.getElem_toArray, List.getElem_cons_succ, List.getElem_cons_zero, List.setIfInBounds_toArray, List.set_cons_zero, List.set_cons_succ])
              refine wpAnyF_take (i := 2) (oi := _) (v := ?_) rfl (by kernel_rfl) (by kernel_rfl) (by kernel_rfl) (by kernel_rfl) (fun _ _ _ h => h) (Or.inl ⟨by rfl, ?_⟩) (by assumption) ?_
              rotate_left 1
              · intro w hSw
                (try dsimp only at hSw)
                obtain ⟨y0, y1, y2, y3, y4, y5⟩ := HBC.out w (HB3.out.trans (hSw.mono HB3.out.size))
                (first | (go_simp; done) | (go_simp; with_reducible rfl))
              (try simp only [Act.put, List.getElem_toArray, List.getElem_cons_succ, List.getElem_cons_zero, List.setIfInBounds_toArray, List.set_cons_zero, List.set_cons_succ])
              refine wpAnyF_take (i := 3) (oi := _) (v := ?_) rfl (by kernel_rfl) (by kernel_rfl) (by kernel_rfl) (by kernel_rfl) (fun _ _ _ h => h) (Or.inl ⟨by rfl, ?_⟩) (by assumption) ?_
              rotate_left 1
              · intro w hSw
                (try dsimp only at hSw)
                obtain ⟨y0, y1, y2, y3, y4, y5⟩ := HBC.out w (HB3.out.trans (hSw.mono HB3.out.size))
                (first | (go_simp; done) | (go_simp; with_reducible rfl))
              (try simp only [Act.put, List.getElem_toArray, List.getElem_cons_succ, List.getElem_cons_zero, List.setIfInBounds_toArray, List.set_cons_zero, List.set_cons_succ])
              refine wpAnyF_take (i := 4) (oi := _) (v := ?_) rfl (by kernel_rfl) (by kernel_rfl) (by kernel_rfl) (by kernel_rfl) (fun _ _ _ h => h) (Or.inl ⟨by rfl, ?_⟩) (by assumption) ?_
              rotate_left 1
              · intro w hSw
                (try dsimp only at hSw)
                obtain ⟨y0, y1, y2, y3, y4, y5⟩ := HBC.out w (HB3.out.trans (hSw.mono HB3.out.size))
                (first | (go_simp; done) | (go_simp; with_reducible rfl))
              (try simp only [Act.put, List.getElem_toArray, List.getElem_cons_succ, List.getElem_cons_zero, List.setIfInBounds_toArray, List.set_cons_zero, List.set_cons_succ])
              refine wpAnyF_take (i := 5) (oi := _) (v := ?_) rfl (by kernel_rfl) (by kernel_rfl) (by kernel_rfl) (by kernel_rfl) (fun _ _ _ h => h) (Or.inl ⟨by rfl, ?_⟩) (by assumption) ?_
              rotate_left 1
              · intro w hSw
                (try dsimp only at hSw)
                obtain ⟨y0, y1, y2, y3, y4, y5⟩ := HBC.out w (HB3.out.trans (hSw.mono HB3.out.size))
                (first | (go_simp; done) | (go_simp; with_reducible rfl))
              (try simp only [Act.put, List.getElem_toArray, List.getElem_cons_succ, List.getElem_cons_zero, List.setIfInBounds_toArray, List.set_cons_zero, List.set_cons_succ])
              refine wpAnyF_ready (rs := [6]) (by kernel_rfl) (by simp) ?_
              refine AllReadyF.cons (o := _) rfl (fun K hK => ?_) AllReadyF.nil
              go_simp
              refine hK.out _ _ (hHeld.alloc hHeld.size _) (fun hHeld6 => ?_)
              clear hK K
              (try simp only [Act.put, List.getElem_toArray, List.getElem_cons_succ, List.getElem_cons_zero, List.setIfInBounds_toArray, List.set_cons_zero, List.set_cons_succ])
              refine wpAnyF_take (i := 7) (oi := _) (v := ?_) rfl (by kernel_rfl) (by kernel_rfl) (by kernel_rfl) (by kernel_rfl) (fun _ _ _ h => h) (Or.inl ⟨by rfl, ?_⟩) (by assumption) ?_
              rotate_left 1
              · intro w hSw
                (try dsimp only at hSw)
                obtain ⟨y0, y1, y2, y3, y4, y5⟩ := HBC.out w (HB3.out.trans (hSw.mono HB3.out.size))
                (first | (go_simp; done) | (go_simp; with_reducible rfl))
              (try simp only [Act.put, List.getElem_toArray, List.getElem_cons_succ, List.getElem_cons_zero, List.setIfInBounds_toArray, List.set_cons_zero, List.set_cons_succ])
              refine wpAnyF_ready (rs := [8]) (by kernel_rfl) (by simp) ?_
              refine AllReadyF.cons (o := _) rfl (fun K hK => ?_) AllReadyF.nil
              go_simp
              (go_at_call 24)
              ((with_reducible refine (HWI.out _ (HB3.out.trans (hHeld6.mono HB3.out.size)) kk nn HKK.out rfl _ (((zero_bs (w := w3) nn (by omega)).below ((Below.refl _ _).drew)).more (Below.drew (Below.refl (w3.alloc (.cells (zeros nn) 5)).heap.size (w3.alloc (.cells (zeros nn) 5)))).size) (by intro e; cases e)).mono ?_))
              rintro e w4 ⟨g, cap, rfl, hov, hb4⟩
              have HB4w := Lib.hid (hHeld6.trans (hb4.mono hHeld6.size))
              have HM := Lib.hid hov
              clear hov hb4
              refine hK.out _ _ (HB4w.out) (fun hHeld8 => ?_)
              clear hK K
              (try simp only [Act.put, List.getElem_toArray, List.getElem_cons_succ, List.getElem_cons_zero, List.setIfInBounds_toArray, List.set_cons_zero, List.set_cons_succ])
              refine wpAnyF_take (i := 9) (oi := _) (v := ?_) rfl (by kernel_rfl) (by kernel_rfl) (by kernel_rfl) (by kernel_rfl) (fun _ _ _ h => h) (Or.inl ⟨by rfl, ?_⟩) (by assumption) ?_
              rotate_left 1
              · intro w hSw
                (try dsimp only at hSw)
                obtain ⟨y0, y1, y2, y3, y4, y5⟩ := HBC.out w (HB3.out.trans (hSw.mono HB3.out.size))
                (first | (go_simp; done) | (go_simp; with_reducible rfl))
              (try simp only [Act.put, List.getElem_toArray, List.getElem_cons_succ, List.getElem_cons_zero, List.setIfInBounds_toArray, List.set_cons_zero, List.set_cons_succ])
              refine wpAnyF_done (by kernel_rfl) ?_ _
              have HB4 := Lib.hid (HB3.out.trans (HB4w.out.mono HB3.out.size))
              have HQ4 := Lib.hid ((HQ3.out.below HB4w.out).more HB4w.out.size)
              clear hM HB3 HQ3 HB4w HSZ HWI
              have HF : Hid (∀ w', Below w4.heap.size w4 w' → StTo w z S (.returned (.tuple #[.slice (some ⟨h, 0, none⟩) 256 cc, .slice (some ⟨g, 0, none⟩) S cap, .bool true])) w') := Lib.hid (fun w' h => HSN.out w' _ _ _ _ _ _ (HB4.out.trans (h.mono HB4.out.size)) ⟨HOK.out, HM.out.below h, (HQ4.out.below h).more h.size⟩)
              have HPG2 := Lib.hid (fun w' (h : Below w4.heap.size w4 w') => HPG.out w' (HB4.out.trans (h.mono HB4.out.size)) (some ⟨g, 0, none⟩) cap _ (HM.out.below h) HOK.out)
              have hc3 := HCV.out w4 HB4.out
              have HCQ := Lib.hid (fun w' (h : Below w4.heap.size w4 w') => conv_at (HQ4.out.below h))
              try clear HST
              clear HSN HPG HEQ HCV
              generalize pageO z (l.set kk (s, zb nn)) = pg2 at *
              go_upto_region 50 with (fail)
              refine wp_region_F (S := (fun w' => Below w4.heap.size w4 w')) [] (by kernel_rfl) ((Below.refl _ _).drew) (fun hHeld => ?_)
              (try simp only [Act.put, List.getElem_toArray, List.getElem_cons_succ, List.getElem_cons_zero, List.setIfInBounds_toArray, List.set_cons_zero, List.set_cons_succ])
              refine wpAnyF_take (i := 0) (oi := _) (v := ?_) rfl (by kernel_rfl) (by kernel_rfl) (by kernel_rfl) (by kernel_rfl) (fun _ _ _ h => h) (Or.inl ⟨by rfl, ?_⟩) (by assumption) ?_
              rotate_left 1
              · intro w hSw
                (try dsimp only at hSw)
                have hCQ := HCQ.out w hSw
                (first | (go_simp; done) | (go_simp; with_reducible rfl))
              (try simp only [Act.put, List.getElem_toArray, List.getElem_cons_succ, List.getElem_cons_zero, List.setIfInBounds_toArray, List.set_cons_zero, List.set_cons_succ])
              refine wpAnyF_take (i := 1) (oi := _) (v := ?_) rfl (by kernel_rfl) (by kernel_rfl) (by kernel_rfl) (by kernel_rfl) (fun _ _ _ h => h) (Or.inl ⟨by rfl, ?_⟩) (by assumption) ?_
              rotate_left 1
              · intro w hSw
                (try dsimp only at hSw)
                have hCQ := HCQ.out w hSw
                (first | (go_simp; done) | (go_simp; with_reducible rfl))
              (try simp only [Act.put, List.getElem_toArray, List.getElem_cons_succ, List.getElem_cons_zero, List.setIfInBounds_toArray, List.set_cons_zero, List.set_cons_succ])
              refine wpAnyF_take (i := 2) (oi := _) (v := ?_) rfl (by kernel_rfl) (by kernel_rfl) (by kernel_rfl) (by kernel_rfl) (fun _ _ _ h => h) (Or.inl ⟨by rfl, ?_⟩) (by assumption) ?_
              rotate_left 1
              · intro w hSw
                (try dsimp only at hSw)
                have hCQ := HCQ.out w hSw
                (first | (go_simp; done) | (go_simp; with_reducible rfl))
              (try simp only [Act.put, List.getElem_toArray, List.getElem_cons_succ, List.getElem_cons_zero, List.setIfInBounds_toArray, List.set_cons_zero, List.set_cons_succ])
              refine wpAnyF_take (i := 3) (oi := _) (v := ?_) rfl (by kernel_rfl) (by kernel_rfl) (by kernel_rfl) (by kernel_rfl) (fun _ _ _ h => h) (Or.inl ⟨by rfl, ?_⟩) (by assumption) ?_
              rotate_left 1
              · intro w hSw
                (try dsimp only at hSw)
                have hCQ := HCQ.out w hSw
                (first | (go_simp; done) | (go_simp; with_reducible rfl))
              (try simp only [Act.put, List.getElem_toArray, List.getElem_cons_succ, List.getElem_cons_zero, List.setIfInBounds_toArray, List.set_cons_zero, List.set_cons_succ])
              refine wpAnyF_take (i := 4) (oi := _) (v := ?_) rfl (by kernel_rfl) (by kernel_rfl) (by kernel_rfl) (by kernel_rfl) (fun _ _ _ h => h) (Or.inl ⟨by rfl, ?_⟩) (by assumption) ?_
              rotate_left 1
              · intro w hSw
                (try dsimp only at hSw)
                have hCQ := HCQ.out w hSw
                (first | (go_simp; done) | (go_simp; with_reducible rfl))
              (try simp only [Act.put, List.getElem_toArray, List.getElem_cons_succ, List.getElem_cons_zero, List.setIfInBounds_toArray, List.set_cons_zero, List.set_cons_succ])
              refine wpAnyF_take (i := 5) (oi := _) (v := ?_) rfl (by kernel_rfl) (by kernel_rfl) (by kernel_rfl) (by kernel_rfl) (fun _ _ _ h => h) (Or.inl ⟨by rfl, ?_⟩) (by assumption) ?_
              rotate_left 1
              · intro w hSw
                (try dsimp only at hSw)
                have hCQ := HCQ.out w hSw
                (first | (go_simp; done) | (go_simp; with_reducible rfl))
              (try simp only [Act.put, List.getElem_toArray, List.getElem_cons_succ, List.getElem_cons_zero, List.setIfInBounds_toArray, List.set_cons_zero, List.set_cons_succ])
              refine wpAnyF_ready (rs := [6]) (by kernel_rfl) (by simp) ?_
              refine AllReadyF.cons (o := _) rfl (fun K hK => ?_) AllReadyF.nil
              go_simp
              (go_at_call 23)
              ((with_reducible refine (HPG2.out _ hHeld).mono ?_))
              rintro e w7 ⟨A7, c7, rfl, hb7, hx7, hz7⟩
              have HX := Lib.hid hx7
              have HB7 := Lib.hid (hHeld.trans (hb7.mono hHeld.size))
              clear hx7 hb7 hz7
              refine hK.out _ _ (HB7.out) (fun hHeld6 => ?_)
              clear hK K
              (try simp only [Act.put, List.getElem_toArray, List.getElem_cons_succ, List.getElem_cons_zero, List.setIfInBounds_toArray, List.set_cons_zero, List.set_cons_succ])
              refine wpAnyF_take (i := 9) (oi := _) (v := ?_) rfl (by kernel_rfl) (by kernel_rfl) (by kernel_rfl) (by kernel_rfl) (fun _ _ _ h => h) (Or.inl ⟨by rfl, ?_⟩) (by assumption) ?_
              rotate_left 1
              · intro w hSw
                (try dsimp only at hSw)
                have hCQ := HCQ.out w hSw
                (first | (go_simp; done) | (go_simp; with_reducible rfl))
              (try simp only [Act.put, List.getElem_toArray, List.getElem_cons_succ, List.getElem_cons_zero, List.setIfInBounds_toArray, List.set_cons_zero, List.set_cons_succ])
              refine wpAnyF_take (i := 10) (oi := _) (v := ?_) rfl (by kernel_rfl) (by kernel_rfl) (by kernel_rfl) (by kernel_rfl) (fun _ _ _ h => h) (Or.inl ⟨by rfl, ?_⟩) (by assumption) ?_
              rotate_left 1
              · intro w hSw
                (try dsimp only at hSw)
                have hCQ := HCQ.out w hSw
                (first | (go_simp; done) | (go_simp; with_reducible rfl))
              (try simp only [Act.put, List.getElem_toArray, List.getElem_cons_succ, List.getElem_cons_zero, List.setIfInBounds_toArray, List.set_cons_zero, List.set_cons_succ])
              refine wpAnyF_ready (rs := [7]) (by kernel_rfl) (by simp) ?_
              refine AllReadyF.cons (o := _) rfl (fun K hK => ?_) AllReadyF.nil
              have hC7 := conv_at HX.out
              go_simp
              refine hK.out _ _ (HB7.out) (fun hHeld7 => ?_)
              clear hK K
              (try simp only [Act.put, List.getElem_toArray, List.getElem_cons_succ, List.getElem_cons_zero, List.setIfInBounds_toArray, List.set_cons_zero, List.set_cons_succ])
              refine wpAnyF_take (i := 8) (oi := _) (v := ?_) rfl (by kernel_rfl) (by kernel_rfl) (by kernel_rfl) (by kernel_rfl) (fun _ _ _ h => h) (Or.inl ⟨by rfl, ?_⟩) (by assumption) ?_
              rotate_left 1
              · intro w hSw
                (try dsimp only at hSw)
                have hCQ := HCQ.out w hSw
                (first | (go_simp; done) | (go_simp; with_reducible rfl))
              (try simp only [Act.put, List.getElem_toArray, List.getElem_cons_succ, List.getElem_cons_zero, List.setIfInBounds_toArray, List.set_cons_zero, List.set_cons_succ])
              refine wpAnyF_take (i := 11) (oi := _) (v := ?_) rfl (by kernel_rfl) (by kernel_rfl) (by kernel_rfl) (by kernel_rfl) (fun _ _ _ h => h) (Or.inl ⟨by rfl, ?_⟩) (by assumption) ?_
              rotate_left 1
              · intro w hSw
                (try dsimp only at hSw)
                have hCQ := HCQ.out w hSw
                (first | (go_simp; done) | (go_simp; with_reducible rfl))
              (try simp only [Act.put, List.getElem_toArray, List.getElem_cons_succ, List.getElem_cons_zero, List.setIfInBounds_toArray, List.set_cons_zero, List.set_cons_succ])
              refine wpAnyF_done (by kernel_rfl) ?_ _
              go_wp2_with fail
              go_ret3
              exact HF.out _ HB7.out
      · have i2 : (281474976710656 : Int) ≤ ((s : Nat) : Int) := by omega
        have hft : fitB z s N = false := by
          have := HZ6.out
          unfold fitB servesB holdsB; simp only [Bool.and_eq_false_iff, decide_eq_false_iff_not]; omega
        go_enter Tryd.func8, Tryd.ntmps8
        go_wp2_with fail
        refine HTK.out.mono ?_
        rintro e w1 ⟨hb1, (⟨_, rfl⟩ | ⟨h, _⟩ | ⟨h, _⟩)⟩
        · have HB1 := Lib.hid hb1
          have HF1 := Lib.hid (HFI.out w1 hb1)
          clear HTK HFI HWI HSN HPG HEQ hb1 hft
          go_wp2_with fail
          refine HF1.out.mono ?_
          rintro e w2 ⟨⟨i, rfl, hi⟩, hb2⟩
          have HB2 := Lib.hid (HB1.out.trans (hb2.mono HB1.out.size))
          obtain ⟨y0, y1, y2, y3, y4, y5⟩ := HBC.out w2 HB2.out
          have HSQ : Hid (∀ m, Calls Tryd.prog 20 #[.int .i64 (k : Int)] (w2.drewN m) fun e w' => e = .returned (.int .i64 (zz : Int)) ∧ w' = w2.drewN m) := Lib.hid (fun m => (HSZ.out (w2.drewN m) (below_drewN HB2.out m)).mono fun _ _ h => ⟨h.1, h.2.symm⟩)
          have hcm : ∀ m, (convert 23 9 (.slice (some ⟨b, q, none⟩) 256 c)).run Tryd.prog (w2.drewN m) = .ok (.string sp) (w2.drewN m) := fun m => HCV.out _ (below_drewN HB2.out m)
          have HF := Lib.hid (fun m => HST.out (w2.drewN m) (below_drewN HB2.out m))
          clear hi hb2 HCV HST
          go_upto_region 16 with (fail)
          go_quiet (with_reducible exact Calls.quiet_of_same (HSQ.out _))
          go_wp2_with fail
          go_ret3
          exact HF.out _
        · rw [hft] at h; cases h
        · rw [hft] at h; cases h
  · have h1I : (130 : Int) < (nb : Int) := by omega
    have h130c : 130 ≤ cb := by omega
    by_cases c1 : s < 1
    · have i1 : ((s : Nat) : Int) < 1 := by omega
      have hft : fitB z s N = false := by
        have := HZ6.out
        unfold fitB servesB holdsB; simp only [Bool.and_eq_false_iff, decide_eq_false_iff_not]; omega
      go_enter Tryd.func8, Tryd.ntmps8
      go_wp2_with fail
      refine HTK.out.mono ?_
      rintro e w1 ⟨hb1, (⟨_, rfl⟩ | ⟨h, _⟩ | ⟨h, _⟩)⟩
      · have HB1 := Lib.hid hb1
        have HF1 := Lib.hid (HFI.out w1 hb1)
        clear HTK HFI HWI HSN HPG HEQ hb1 hft
        go_wp2_with fail
        refine HF1.out.mono ?_
        rintro e w2 ⟨⟨i, rfl, hi⟩, hb2⟩
        have HB2 := Lib.hid (HB1.out.trans (hb2.mono HB1.out.size))
        obtain ⟨y0, y1, y2, y3, y4, y5⟩ := HBC.out w2 HB2.out
        have HSQ : Hid (∀ m, Calls Tryd.prog 20 #[.int .i64 (k : Int)] (w2.drewN m) fun e w' => e = .returned (.int .i64 (zz : Int)) ∧ w' = w2.drewN m) := Lib.hid (fun m => (HSZ.out (w2.drewN m) (below_drewN HB2.out m)).mono fun _ _ h => ⟨h.1, h.2.symm⟩)
        have hcm : ∀ m, (convert 23 9 (.slice (some ⟨b, q, none⟩) 256 c)).run Tryd.prog (w2.drewN m) = .ok (.string sp) (w2.drewN m) := fun m => HCV.out _ (below_drewN HB2.out m)
        have HF := Lib.hid (fun m => HST.out (w2.drewN m) (below_drewN HB2.out m))
        clear hi hb2 HCV HST
        go_upto_region 16 with (fail)
        go_quiet (with_reducible exact Calls.quiet_of_same (HSQ.out _))
        go_wp2_with fail
        go_ret3
        exact HF.out _
      · rw [hft] at h; cases h
      · rw [hft] at h; cases h
    · have i1 : ¬ ((s : Nat) : Int) < 1 := by omega
      by_cases c2 : s < 2 ^ 48
      · have i2 : ¬ (281474976710656 : Int) ≤ ((s : Nat) : Int) := by omega
        by_cases c3 : N < 1
        · skip
          have hft : fitB z s N = false := by
            have := HZ6.out
            unfold fitB servesB holdsB; simp only [Bool.and_eq_false_iff, decide_eq_false_iff_not]; omega
          go_enter Tryd.func8, Tryd.ntmps8
          go_wp2_with fail
          refine HTK.out.mono ?_
          rintro e w1 ⟨hb1, (⟨_, rfl⟩ | ⟨h, _⟩ | ⟨h, _⟩)⟩
          · have HB1 := Lib.hid hb1
            have HF1 := Lib.hid (HFI.out w1 hb1)
            clear HTK HFI HWI HSN HPG HEQ hb1 hft
            go_wp2_with fail
            refine HF1.out.mono ?_
            rintro e w2 ⟨⟨i, rfl, hi⟩, hb2⟩
            have HB2 := Lib.hid (HB1.out.trans (hb2.mono HB1.out.size))
            obtain ⟨y0, y1, y2, y3, y4, y5⟩ := HBC.out w2 HB2.out
            have HSQ : Hid (∀ m, Calls Tryd.prog 20 #[.int .i64 (k : Int)] (w2.drewN m) fun e w' => e = .returned (.int .i64 (zz : Int)) ∧ w' = w2.drewN m) := Lib.hid (fun m => (HSZ.out (w2.drewN m) (below_drewN HB2.out m)).mono fun _ _ h => ⟨h.1, h.2.symm⟩)
            have hcm : ∀ m, (convert 23 9 (.slice (some ⟨b, q, none⟩) 256 c)).run Tryd.prog (w2.drewN m) = .ok (.string sp) (w2.drewN m) := fun m => HCV.out _ (below_drewN HB2.out m)
            have HF := Lib.hid (fun m => HST.out (w2.drewN m) (below_drewN HB2.out m))
            clear hi hb2 HCV HST
            go_upto_region 16 with (fail)
            go_quiet (with_reducible exact Calls.quiet_of_same (HSQ.out _))
            go_wp2_with fail
            go_ret3
            exact HF.out _
          · rw [hft] at h; cases h
          · rw [hft] at h; cases h
        · by_cases c4 : (zz : Int) < N
          · skip
            have hft : fitB z s N = false := by
              have := HZ6.out
              unfold fitB servesB holdsB; simp only [Bool.and_eq_false_iff, decide_eq_false_iff_not]; omega
            go_enter Tryd.func8, Tryd.ntmps8
            go_wp2_with fail
            refine HTK.out.mono ?_
            rintro e w1 ⟨hb1, (⟨_, rfl⟩ | ⟨h, _⟩ | ⟨h, _⟩)⟩
            · have HB1 := Lib.hid hb1
              have HF1 := Lib.hid (HFI.out w1 hb1)
              clear HTK HFI HWI HSN HPG HEQ hb1 hft
              go_wp2_with fail
              refine HF1.out.mono ?_
              rintro e w2 ⟨⟨i, rfl, hi⟩, hb2⟩
              have HB2 := Lib.hid (HB1.out.trans (hb2.mono HB1.out.size))
              obtain ⟨y0, y1, y2, y3, y4, y5⟩ := HBC.out w2 HB2.out
              have HSQ : Hid (∀ m, Calls Tryd.prog 20 #[.int .i64 (k : Int)] (w2.drewN m) fun e w' => e = .returned (.int .i64 (zz : Int)) ∧ w' = w2.drewN m) := Lib.hid (fun m => (HSZ.out (w2.drewN m) (below_drewN HB2.out m)).mono fun _ _ h => ⟨h.1, h.2.symm⟩)
              have hcm : ∀ m, (convert 23 9 (.slice (some ⟨b, q, none⟩) 256 c)).run Tryd.prog (w2.drewN m) = .ok (.string sp) (w2.drewN m) := fun m => HCV.out _ (below_drewN HB2.out m)
              have HF := Lib.hid (fun m => HST.out (w2.drewN m) (below_drewN HB2.out m))
              clear hi hb2 HCV HST
              go_upto_region 16 with (fail)
              go_quiet (with_reducible exact Calls.quiet_of_same (HSQ.out _))
              go_wp2_with fail
              go_ret3
              exact HF.out _
            · rw [hft] at h; cases h
            · rw [hft] at h; cases h
          · skip
            have HD1 : Hid (decide (((s : Nat) : Int) < 1) = false) := Lib.hid (decide_eq_false (by omega))
            have HD2 : Hid (decide ((281474976710656 : Int) ≤ ((s : Nat) : Int)) = false) := Lib.hid (decide_eq_false (by omega))
            have hft : fitB z s N = true := by
              have := HZ6.out
              unfold fitB servesB holdsB; simp only [Bool.and_eq_true, decide_eq_true_iff]; omega
            obtain ⟨nn, rfl⟩ : ∃ nn : Nat, N = (nn : Int) := ⟨N.toNat, by omega⟩
            have HD3 : Hid (decide (((nn : Nat) : Int) < 1) = false) := Lib.hid (decide_eq_false (by omega))
            have HD4 : Hid (decide (zz < nn) = false) := Lib.hid (decide_eq_false (by omega))
            have hnn : nn ≤ 120 := by omega
            go_enter Tryd.func8, Tryd.ntmps8
            go_wp2_with fail
            refine HTK.out.mono ?_
            rintro e w1 ⟨hb1, (⟨h, _⟩ | ⟨hx, hno, rfl⟩ | ⟨hx, kk, hkk, hf1, hf2, h, cc, rfl, hbs, hok⟩)⟩
            · rw [hft] at h; cases h
            · have HB1 := Lib.hid hb1
              have HF1 := Lib.hid (HFI.out w1 hb1)
              have HNO := Lib.hid hno
              clear HTK HFI HWI HSN HPG HEQ hb1 hft hno hx
              go_wp2_with fail
              refine HF1.out.mono ?_
              rintro e w2 ⟨⟨i, rfl, hi⟩, hb2⟩
              obtain rfl := first_no hi HNO.out
              have HB2 := Lib.hid (HB1.out.trans (hb2.mono HB1.out.size))
              obtain ⟨y0, y1, y2, y3, y4, y5⟩ := HBC.out w2 HB2.out
              have HSQ : Hid (∀ m, Calls Tryd.prog 20 #[.int .i64 (k : Int)] (w2.drewN m) fun e w' => e = .returned (.int .i64 (zz : Int)) ∧ w' = w2.drewN m) := Lib.hid (fun m => (HSZ.out (w2.drewN m) (below_drewN HB2.out m)).mono fun _ _ h => ⟨h.1, h.2.symm⟩)
              have hcm : ∀ m, (convert 23 9 (.slice (some ⟨b, q, none⟩) 256 c)).run Tryd.prog (w2.drewN m) = .ok (.string sp) (w2.drewN m) := fun m => HCV.out _ (below_drewN HB2.out m)
              have HF := Lib.hid (fun m => HST.out (w2.drewN m) (below_drewN HB2.out m))
              clear hi hb2 HCV HST
              go_upto_region 16 with (fail)
              go_quiet (with_reducible exact Calls.quiet_of_same (HSQ.out _))
              simp only [HD1.out, HD2.out, HD3.out, HD4.out, Bool.or_false]
              clear c1 c2 c3 c4 i1 i2
              go_wp2_with fail
              go_ret3
              exact HF.out _
            · rw [Int.toNat_natCast] at hbs hok
              have HB1 := Lib.hid hb1
              have HF1 := Lib.hid (HFI.out w1 hb1)
              have HFE := Lib.hid (And.intro hf1 hf2)
              have HQ := Lib.hid hbs
              have HOK := Lib.hid hok
              have HKK := Lib.hid hkk
              clear HTK HFI hb1 hft hf1 hf2 hbs hok hx
              go_wp2_with fail
              refine HF1.out.mono ?_
              rintro e w2 ⟨⟨i, rfl, hi⟩, hb2⟩
              obtain rfl := first_eq hi HKK.out HFE.out.1 HFE.out.2
              have HB2 := Lib.hid (HB1.out.trans (hb2.mono HB1.out.size))
              obtain ⟨y0, y1, y2, y3, y4, y5⟩ := HBC.out w2 HB2.out
              have HSQ : Hid (∀ m, Calls Tryd.prog 20 #[.int .i64 (k : Int)] (w2.drewN m) fun e w' => e = .returned (.int .i64 (zz : Int)) ∧ w' = w2.drewN m) := Lib.hid (fun m => (HSZ.out (w2.drewN m) (below_drewN HB2.out m)).mono fun _ _ h => ⟨h.1, h.2.symm⟩)
              have hcm : ∀ m, (convert 23 9 (.slice (some ⟨b, q, none⟩) 256 c)).run Tryd.prog (w2.drewN m) = .ok (.string sp) (w2.drewN m) := fun m => HCV.out _ (below_drewN HB2.out m)
              have HBM := Lib.hid (fun m => below_drewN HB2.out m)
              have HQ2 := Lib.hid (fun m => (HQ.out.below (below_drewN hb2 m)).more (below_drewN hb2 m).size)
              clear hi hb2 hcm hkk HFE
              go_upto_region 16 with (fail)
              go_quiet (with_reducible exact Calls.quiet_of_same (HSQ.out _))
              simp only [HD1.out, HD2.out, HD3.out, HD4.out, Bool.or_false]
              clear c1 c2 c3 c4 i1 i2
              have HB3 := Lib.hid (HBM.out nq)
              have HQ3 := Lib.hid (HQ2.out nq)
              clear HBM HQ2 HSQ
              generalize w2.drewN nq = w3 at *
              clear y0 y1 y2 y3 y4 y5
              have hM := make_bytes nn (by omega)
              go_upto_region 21 with (fail)
              refine wp_region_F (S := (fun w' => Below w3.heap.size w3 w')) [] (by kernel_rfl) ((Below.refl _ _).drew) (fun hHeld => ?_)
              (try simp only [Act.put, List.getElem_toArray, List.getElem_cons_succ, List.getElem_cons_zero, List.setIfInBounds_toArray, List.set_cons_zero, List.set_cons_succ])
              refine wpAnyF_take (i := 0) (oi := _) (v := ?_) rfl (by kernel_rfl) (by kernel_rfl) (by kernel_rfl) (by kernel_rfl) (fun _ _ _ h => h) (Or.inl ⟨by rfl, ?_⟩) (by assumption) ?_
              rotate_left 1
              · intro w hSw
                (try dsimp only at hSw)
                obtain ⟨y0, y1, y2, y3, y4, y5⟩ := HBC.out w (HB3.out.trans (hSw.mono HB3.out.size))
                (first | (go_simp; done) | (go_simp; with_reducible rfl))
              (try simp only [Act.put, List.getElem_toArray, List.getElem_cons_succ, List.getElem_cons_zero, List.setIfInBounds_toArray, List.set_cons_zero, List.set_cons_succ])
              refine wpAnyF_take (i := 1) (oi := _) (v := ?_) rfl (by kernel_rfl) (by kernel_rfl) (by kernel_rfl) (by kernel_rfl) (fun _ _ _ h => h) (Or.inl ⟨by rfl, ?_⟩) (by assumption) ?_
              rotate_left 1
              · intro w hSw
                (try dsimp only at hSw)
                obtain ⟨y0, y1, y2, y3, y4, y5⟩ := HBC.out w (HB3.out.trans (hSw.mono HB3.out.size))
                (first | (go_simp; done) | (go_simp; with_reducible rfl))
              (try simp only [Act.put, List.getElem_toArray, List.getElem_cons_succ, List.getElem_cons_zero, List.setIfInBounds_toArray, List.set_cons_zero, List.set_cons_succ])
              refine wpAnyF_take (i := 2) (oi := _) (v := ?_) rfl (by kernel_rfl) (by kernel_rfl) (by kernel_rfl) (by kernel_rfl) (fun _ _ _ h => h) (Or.inl ⟨by rfl, ?_⟩) (by assumption) ?_
              rotate_left 1
              · intro w hSw
                (try dsimp only at hSw)
                obtain ⟨y0, y1, y2, y3, y4, y5⟩ := HBC.out w (HB3.out.trans (hSw.mono HB3.out.size))
                (first | (go_simp; done) | (go_simp; with_reducible rfl))
              (try simp only [Act.put, List.getElem_toArray, List.getElem_cons_succ, List.getElem_cons_zero, List.setIfInBounds_toArray, List.set_cons_zero, List.set_cons_succ])
              refine wpAnyF_take (i := 3) (oi := _) (v := ?_) rfl (by kernel_rfl) (by kernel_rfl) (by kernel_rfl) (by kernel_rfl) (fun _ _ _ h => h) (Or.inl ⟨by rfl, ?_⟩) (by assumption) ?_
              rotate_left 1
              · intro w hSw
                (try dsimp only at hSw)
                obtain ⟨y0, y1, y2, y3, y4, y5⟩ := HBC.out w (HB3.out.trans (hSw.mono HB3.out.size))
                (first | (go_simp; done) | (go_simp; with_reducible rfl))
              (try simp only [Act.put, List.getElem_toArray, List.getElem_cons_succ, List.getElem_cons_zero, List.setIfInBounds_toArray, List.set_cons_zero, List.set_cons_succ])
              refine wpAnyF_take (i := 4) (oi := _) (v := ?_) rfl (by kernel_rfl) (by kernel_rfl) (by kernel_rfl) (by kernel_rfl) (fun _ _ _ h => h) (Or.inl ⟨by rfl, ?_⟩) (by assumption) ?_
              rotate_left 1
              · intro w hSw
                (try dsimp only at hSw)
                obtain ⟨y0, y1, y2, y3, y4, y5⟩ := HBC.out w (HB3.out.trans (hSw.mono HB3.out.size))
                (first | (go_simp; done) | (go_simp; with_reducible rfl))
              (try simp only [Act.put, List.getElem_toArray, List.getElem_cons_succ, List.getElem_cons_zero, List.setIfInBounds_toArray, List.set_cons_zero, List.set_cons_succ])
              refine wpAnyF_take (i := 5) (oi := _) (v := ?_) rfl (by kernel_rfl) (by kernel_rfl) (by kernel_rfl) (by kernel_rfl) (fun _ _ _ h => h) (Or.inl ⟨by rfl, ?_⟩) (by assumption) ?_
              rotate_left 1
              · intro w hSw
                (try dsimp only at hSw)
                obtain ⟨y0, y1, y2, y3, y4, y5⟩ := HBC.out w (HB3.out.trans (hSw.mono HB3.out.size))
                (first | (go_simp; done) | (go_simp; with_reducible rfl))
              (try simp only [Act.put, List.getElem_toArray, List.getElem_cons_succ, List.getElem_cons_zero, List.setIfInBounds_toArray, List.set_cons_zero, List.set_cons_succ])
              refine wpAnyF_ready (rs := [6]) (by kernel_rfl) (by simp) ?_
              refine AllReadyF.cons (o := _) rfl (fun K hK => ?_) AllReadyF.nil
              go_simp
              refine hK.out _ _ (hHeld.alloc hHeld.size _) (fun hHeld6 => ?_)
              clear hK K
              (try simp only [Act.put, List.getElem_toArray, List.getElem_cons_succ, List.getElem_cons_zero, List.setIfInBounds_toArray, List.set_cons_zero, List.set_cons_succ])
              refine wpAnyF_take (i := 7) (oi := _) (v := ?_) rfl (by kernel_rfl) (by kernel_rfl) (by kernel_rfl) (by kernel_rfl) (fun _ _ _ h => h) (Or.inl ⟨by rfl, ?_⟩) (by assumption) ?_
              rotate_left 1
              · intro w hSw
                (try dsimp only at hSw)
                obtain ⟨y0, y1, y2, y3, y4, y5⟩ := HBC.out w (HB3.out.trans (hSw.mono HB3.out.size))
                (first | (go_simp; done) | (go_simp; with_reducible rfl))
              (try simp only [Act.put, List.getElem_toArray, List.getElem_cons_succ, List.getElem_cons_zero, List.setIfInBounds_toArray, List.set_cons_zero, List.set_cons_succ])
              refine wpAnyF_ready (rs := [8]) (by kernel_rfl) (by simp) ?_
              refine AllReadyF.cons (o := _) rfl (fun K hK => ?_) AllReadyF.nil
              go_simp
              (go_at_call 24)
              ((with_reducible refine (HWI.out _ (HB3.out.trans (hHeld6.mono HB3.out.size)) kk nn HKK.out rfl _ (((zero_bs (w := w3) nn (by omega)).below ((Below.refl _ _).drew)).more (Below.drew (Below.refl (w3.alloc (.cells (zeros nn) 5)).heap.size (w3.alloc (.cells (zeros nn) 5)))).size) (by intro e; cases e)).mono ?_))
              rintro e w4 ⟨g, cap, rfl, hov, hb4⟩
              have HB4w := Lib.hid (hHeld6.trans (hb4.mono hHeld6.size))
              have HM := Lib.hid hov
              clear hov hb4
              refine hK.out _ _ (HB4w.out) (fun hHeld8 => ?_)
              clear hK K
              (try simp only [Act.put, List.getElem_toArray, List.getElem_cons_succ, List.getElem_cons_zero, List.setIfInBounds_toArray, List.set_cons_zero, List.set_cons_succ])
              refine wpAnyF_take (i := 9) (oi := _) (v := ?_) rfl (by kernel_rfl) (by kernel_rfl) (by kernel_rfl) (by kernel_rfl) (fun _ _ _ h => h) (Or.inl ⟨by rfl, ?_⟩) (by assumption) ?_
              rotate_left 1
              · intro w hSw
                (try dsimp only at hSw)
                obtain ⟨y0, y1, y2, y3, y4, y5⟩ := HBC.out w (HB3.out.trans (hSw.mono HB3.out.size))
                (first | (go_simp; done) | (go_simp; with_reducible rfl))
              (try simp only [Act.put, List.getElem_toArray, List.getElem_cons_succ, List.getElem_cons_zero, List.setIfInBounds_toArray, List.set_cons_zero, List.set_cons_succ])
              refine wpAnyF_done (by kernel_rfl) ?_ _
              have HB4 := Lib.hid (HB3.out.trans (HB4w.out.mono HB3.out.size))
              have HQ4 := Lib.hid ((HQ3.out.below HB4w.out).more HB4w.out.size)
              clear hM HB3 HQ3 HB4w HSZ HWI
              have HF : Hid (∀ w', Below w4.heap.size w4 w' → StTo w z S (.returned (.tuple #[.slice (some ⟨h, 0, none⟩) 256 cc, .slice (some ⟨g, 0, none⟩) S cap, .bool true])) w') := Lib.hid (fun w' h => HSN.out w' _ _ _ _ _ _ (HB4.out.trans (h.mono HB4.out.size)) ⟨HOK.out, HM.out.below h, (HQ4.out.below h).more h.size⟩)
              have HPG2 := Lib.hid (fun w' (h : Below w4.heap.size w4 w') => HPG.out w' (HB4.out.trans (h.mono HB4.out.size)) (some ⟨g, 0, none⟩) cap _ (HM.out.below h) HOK.out)
              have hc3 := HCV.out w4 HB4.out
              have HCQ := Lib.hid (fun w' (h : Below w4.heap.size w4 w') => conv_at (HQ4.out.below h))
              try clear HST
              clear HSN HPG HEQ HCV
              generalize pageO z (l.set kk (s, zb nn)) = pg2 at *
              go_upto_region 50 with (fail)
              refine wp_region_F (S := (fun w' => Below w4.heap.size w4 w')) [] (by kernel_rfl) ((Below.refl _ _).drew) (fun hHeld => ?_)
              (try simp only [Act.put, List.getElem_toArray, List.getElem_cons_succ, List.getElem_cons_zero, List.setIfInBounds_toArray, List.set_cons_zero, List.set_cons_succ])
              refine wpAnyF_take (i := 0) (oi := _) (v := ?_) rfl (by kernel_rfl) (by kernel_rfl) (by kernel_rfl) (by kernel_rfl) (fun _ _ _ h => h) (Or.inl ⟨by rfl, ?_⟩) (by assumption) ?_
              rotate_left 1
              · intro w hSw
                (try dsimp only at hSw)
                have hCQ := HCQ.out w hSw
                (first | (go_simp; done) | (go_simp; with_reducible rfl))
              (try simp only [Act.put, List.getElem_toArray, List.getElem_cons_succ, List.getElem_cons_zero, List.setIfInBounds_toArray, List.set_cons_zero, List.set_cons_succ])
              refine wpAnyF_take (i := 1) (oi := _) (v := ?_) rfl (by kernel_rfl) (by kernel_rfl) (by kernel_rfl) (by kernel_rfl) (fun _ _ _ h => h) (Or.inl ⟨by rfl, ?_⟩) (by assumption) ?_
              rotate_left 1
              · intro w hSw
                (try dsimp only at hSw)
                have hCQ := HCQ.out w hSw
                (first | (go_simp; done) | (go_simp; with_reducible rfl))
              (try simp only [Act.put, List.getElem_toArray, List.getElem_cons_succ, List.getElem_cons_zero, List.setIfInBounds_toArray, List.set_cons_zero, List.set_cons_succ])
              refine wpAnyF_take (i := 2) (oi := _) (v := ?_) rfl (by kernel_rfl) (by kernel_rfl) (by kernel_rfl) (by kernel_rfl) (fun _ _ _ h => h) (Or.inl ⟨by rfl, ?_⟩) (by assumption) ?_
              rotate_left 1
              · intro w hSw
                (try dsimp only at hSw)
                have hCQ := HCQ.out w hSw
                (first | (go_simp; done) | (go_simp; with_reducible rfl))
              (try simp only [Act.put, List.getElem_toArray, List.getElem_cons_succ, List.getElem_cons_zero, List.setIfInBounds_toArray, List.set_cons_zero, List.set_cons_succ])
              refine wpAnyF_take (i := 3) (oi := _) (v := ?_) rfl (by kernel_rfl) (by kernel_rfl) (by kernel_rfl) (by kernel_rfl) (fun _ _ _ h => h) (Or.inl ⟨by rfl, ?_⟩) (by assumption) ?_
              rotate_left 1
              · intro w hSw
                (try dsimp only at hSw)
                have hCQ := HCQ.out w hSw
                (first | (go_simp; done) | (go_simp; with_reducible rfl))
              (try simp only [Act.put, List.getElem_toArray, List.getElem_cons_succ, List.getElem_cons_zero, List.setIfInBounds_toArray, List.set_cons_zero, List.set_cons_succ])
              refine wpAnyF_take (i := 4) (oi := _) (v := ?_) rfl (by kernel_rfl) (by kernel_rfl) (by kernel_rfl) (by kernel_rfl) (fun _ _ _ h => h) (Or.inl ⟨by rfl, ?_⟩) (by assumption) ?_
              rotate_left 1
              · intro w hSw
                (try dsimp only at hSw)
                have hCQ := HCQ.out w hSw
                (first | (go_simp; done) | (go_simp; with_reducible rfl))
              (try simp only [Act.put, List.getElem_toArray, List.getElem_cons_succ, List.getElem_cons_zero, List.setIfInBounds_toArray, List.set_cons_zero, List.set_cons_succ])
              refine wpAnyF_take (i := 5) (oi := _) (v := ?_) rfl (by kernel_rfl) (by kernel_rfl) (by kernel_rfl) (by kernel_rfl) (fun _ _ _ h => h) (Or.inl ⟨by rfl, ?_⟩) (by assumption) ?_
              rotate_left 1
              · intro w hSw
                (try dsimp only at hSw)
                have hCQ := HCQ.out w hSw
                (first | (go_simp; done) | (go_simp; with_reducible rfl))
              (try simp only [Act.put, List.getElem_toArray, List.getElem_cons_succ, List.getElem_cons_zero, List.setIfInBounds_toArray, List.set_cons_zero, List.set_cons_succ])
              refine wpAnyF_ready (rs := [6]) (by kernel_rfl) (by simp) ?_
              refine AllReadyF.cons (o := _) rfl (fun K hK => ?_) AllReadyF.nil
              go_simp
              (go_at_call 23)
              ((with_reducible refine (HPG2.out _ hHeld).mono ?_))
              rintro e w7 ⟨A7, c7, rfl, hb7, hx7, hz7⟩
              have HX := Lib.hid hx7
              have HB7 := Lib.hid (hHeld.trans (hb7.mono hHeld.size))
              clear hx7 hb7 hz7
              refine hK.out _ _ (HB7.out) (fun hHeld6 => ?_)
              clear hK K
              (try simp only [Act.put, List.getElem_toArray, List.getElem_cons_succ, List.getElem_cons_zero, List.setIfInBounds_toArray, List.set_cons_zero, List.set_cons_succ])
              refine wpAnyF_take (i := 9) (oi := _) (v := ?_) rfl (by kernel_rfl) (by kernel_rfl) (by kernel_rfl) (by kernel_rfl) (fun _ _ _ h => h) (Or.inl ⟨by rfl, ?_⟩) (by assumption) ?_
              rotate_left 1
              · intro w hSw
                (try dsimp only at hSw)
                have hCQ := HCQ.out w hSw
                (first | (go_simp; done) | (go_simp; with_reducible rfl))
              (try simp only [Act.put, List.getElem_toArray, List.getElem_cons_succ, List.getElem_cons_zero, List.setIfInBounds_toArray, List.set_cons_zero, List.set_cons_succ])
              refine wpAnyF_take (i := 10) (oi := _) (v := ?_) rfl (by kernel_rfl) (by kernel_rfl) (by kernel_rfl) (by kernel_rfl) (fun _ _ _ h => h) (Or.inl ⟨by rfl, ?_⟩) (by assumption) ?_
              rotate_left 1
              · intro w hSw
                (try dsimp only at hSw)
                have hCQ := HCQ.out w hSw
                (first | (go_simp; done) | (go_simp; with_reducible rfl))
              (try simp only [Act.put, List.getElem_toArray, List.getElem_cons_succ, List.getElem_cons_zero, List.setIfInBounds_toArray, List.set_cons_zero, List.set_cons_succ])
              refine wpAnyF_ready (rs := [7]) (by kernel_rfl) (by simp) ?_
              refine AllReadyF.cons (o := _) rfl (fun K hK => ?_) AllReadyF.nil
              have hC7 := conv_at HX.out
              go_simp
              refine hK.out _ _ (HB7.out) (fun hHeld7 => ?_)
              clear hK K
              (try simp only [Act.put, List.getElem_toArray, List.getElem_cons_succ, List.getElem_cons_zero, List.setIfInBounds_toArray, List.set_cons_zero, List.set_cons_succ])
              refine wpAnyF_take (i := 8) (oi := _) (v := ?_) rfl (by kernel_rfl) (by kernel_rfl) (by kernel_rfl) (by kernel_rfl) (fun _ _ _ h => h) (Or.inl ⟨by rfl, ?_⟩) (by assumption) ?_
              rotate_left 1
              · intro w hSw
                (try dsimp only at hSw)
                have hCQ := HCQ.out w hSw
                (first | (go_simp; done) | (go_simp; with_reducible rfl))
              (try simp only [Act.put, List.getElem_toArray, List.getElem_cons_succ, List.getElem_cons_zero, List.setIfInBounds_toArray, List.set_cons_zero, List.set_cons_succ])
              refine wpAnyF_take (i := 11) (oi := _) (v := ?_) rfl (by kernel_rfl) (by kernel_rfl) (by kernel_rfl) (by kernel_rfl) (fun _ _ _ h => h) (Or.inl ⟨by rfl, ?_⟩) (by assumption) ?_
              rotate_left 1
              · intro w hSw
                (try dsimp only at hSw)
                have hCQ := HCQ.out w hSw
                (first | (go_simp; done) | (go_simp; with_reducible rfl))
              (try simp only [Act.put, List.getElem_toArray, List.getElem_cons_succ, List.getElem_cons_zero, List.setIfInBounds_toArray, List.set_cons_zero, List.set_cons_succ])
              refine wpAnyF_done (by kernel_rfl) ?_ _
              go_wp2_with fail
              go_ret3
              exact HF.out _ HB7.out
      · have i2 : (281474976710656 : Int) ≤ ((s : Nat) : Int) := by omega
        have hft : fitB z s N = false := by
          have := HZ6.out
          unfold fitB servesB holdsB; simp only [Bool.and_eq_false_iff, decide_eq_false_iff_not]; omega
        go_enter Tryd.func8, Tryd.ntmps8
        go_wp2_with fail
        refine HTK.out.mono ?_
        rintro e w1 ⟨hb1, (⟨_, rfl⟩ | ⟨h, _⟩ | ⟨h, _⟩)⟩
        · have HB1 := Lib.hid hb1
          have HF1 := Lib.hid (HFI.out w1 hb1)
          clear HTK HFI HWI HSN HPG HEQ hb1 hft
          go_wp2_with fail
          refine HF1.out.mono ?_
          rintro e w2 ⟨⟨i, rfl, hi⟩, hb2⟩
          have HB2 := Lib.hid (HB1.out.trans (hb2.mono HB1.out.size))
          obtain ⟨y0, y1, y2, y3, y4, y5⟩ := HBC.out w2 HB2.out
          have HSQ : Hid (∀ m, Calls Tryd.prog 20 #[.int .i64 (k : Int)] (w2.drewN m) fun e w' => e = .returned (.int .i64 (zz : Int)) ∧ w' = w2.drewN m) := Lib.hid (fun m => (HSZ.out (w2.drewN m) (below_drewN HB2.out m)).mono fun _ _ h => ⟨h.1, h.2.symm⟩)
          have hcm : ∀ m, (convert 23 9 (.slice (some ⟨b, q, none⟩) 256 c)).run Tryd.prog (w2.drewN m) = .ok (.string sp) (w2.drewN m) := fun m => HCV.out _ (below_drewN HB2.out m)
          have HF := Lib.hid (fun m => HST.out (w2.drewN m) (below_drewN HB2.out m))
          clear hi hb2 HCV HST
          go_upto_region 16 with (fail)
          go_quiet (with_reducible exact Calls.quiet_of_same (HSQ.out _))
          go_wp2_with fail
          go_ret3
          exact HF.out _
        · rw [hft] at h; cases h
        · rw [hft] at h; cases h

end Go.Proofs.YtflgcddgocojpaaDoor
