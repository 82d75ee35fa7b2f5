/-
  Layer 18: one call, of both: Resize.
-/
import Derived.Test.YtflgcddgocojpaaDoorSlW
namespace Go.Proofs.YtflgcddgocojpaaDoor
open Go.RowKit Go
set_option linter.unusedVariables false
set_option linter.unusedSimpArgs false
set_option maxHeartbeats 10000000
set_option maxRecDepth 100000

theorem step_4 (k b q c cl nb cb : Nat) (kd K N at_ : Int) (hkd : kd = 4) (s : Nat) (A Ab : Option Addr) (l : List Ob) (pb : List Nat) (w : World) (hs64 : s < 2 ^ 64) (hat : at_ ≤ 9223372036854775807) (hS : SZ w) (hk : k < 8) (hp : PSt w (clZ k) (clS k) b q c A cl l) (hb : BS w w.heap.size Ab nb cb pb) (hbz : Ab = none → cb = 0) :
    Calls Tryd.prog 8 #[.slice (some ⟨b, q, none⟩) 256 c, .slice A (clS k) cl, .int .i64 (k : Int), .agg #[.int .i64 kd, .int .i64 K, .int .i64 N, .int .i64 at_, .int .u64 (s : Int), .slice Ab nb cb]] w (StTo w (clZ k) (clS k)) := by
  obtain ⟨z1, z2, z3, z4, z5, z6⟩ := cl_fits k hk
  have hbl := hb.len
  have hbc := hb.cap
  have hlen := hp.ok.len
  obtain ⟨m, pm, hcut, hbm⟩ : ∃ m pm, ((nb ≤ 130 ∧ m = nb) ∨ (130 < nb ∧ m = 130)) ∧ BS w w.heap.size Ab m cb pm := by
    by_cases h : nb ≤ 130
    · exact ⟨nb, pb, .inl ⟨h, rfl⟩, hb⟩
    · exact ⟨130, _, .inr ⟨by omega, rfl⟩, hb.take (by omega)⟩
  have HB5 : Hid (Below w.heap.size w (w.alloc (.cells #[.int .i64 kd, .int .i64 K, .int .i64 N, .int .i64 at_, .int .u64 (s : Int), .slice Ab m cb] 29))) := Lib.hid ((Below.refl _ _).alloc (Nat.le_refl _) _)
  have HXX : Hid (w.heap.size < (w.alloc (.cells #[.int .i64 kd, .int .i64 K, .int .i64 N, .int .i64 at_, .int .u64 (s : Int), .slice Ab m cb] 29)).heap.size) := Lib.hid (by simp)
  have HBC : Hid (∀ w', Below (w.alloc (.cells #[.int .i64 kd, .int .i64 K, .int .i64 N, .int .i64 at_, .int .u64 (s : Int), .slice Ab m cb] 29)).heap.size (w.alloc (.cells #[.int .i64 kd, .int .i64 K, .int .i64 N, .int .i64 at_, .int .u64 (s : Int), .slice Ab m cb] 29)) w' → w'.cell? ⟨w.heap.size, 0, none⟩ = some (.int .i64 kd) ∧ w'.cell? ⟨w.heap.size, 1, none⟩ = some (.int .i64 K) ∧ w'.cell? ⟨w.heap.size, 2, none⟩ = some (.int .i64 N) ∧ w'.cell? ⟨w.heap.size, 3, none⟩ = some (.int .i64 at_) ∧ w'.cell? ⟨w.heap.size, 4, none⟩ = some (.int .u64 (s : Int)) ∧ w'.cell? ⟨w.heap.size, 5, none⟩ = some (.slice Ab m cb)) := Lib.hid (fun w' h => by
    have e := heap_alloc_new w (.cells #[.int .i64 kd, .int .i64 K, .int .i64 N, .int .i64 at_, .int .u64 (s : Int), .slice Ab m cb] 29)
    exact ⟨(h.cell (p := ⟨w.heap.size, 0, none⟩) HXX.out).trans (blk_cell e 0), (h.cell (p := ⟨w.heap.size, 1, none⟩) HXX.out).trans (blk_cell e 1), (h.cell (p := ⟨w.heap.size, 2, none⟩) HXX.out).trans (blk_cell e 2), (h.cell (p := ⟨w.heap.size, 3, none⟩) HXX.out).trans (blk_cell e 3), (h.cell (p := ⟨w.heap.size, 4, none⟩) HXX.out).trans (blk_cell e 4), (h.cell (p := ⟨w.heap.size, 5, none⟩) HXX.out).trans (blk_cell e 5)⟩)
  have HP := Lib.hid (hp.below HB5.out)
  have hc0 : (convert 23 9 (.slice (some ⟨b, q, none⟩) 256 c)).run Tryd.prog (w.alloc (.cells #[.int .i64 kd, .int .i64 K, .int .i64 N, .int .i64 at_, .int .u64 (s : Int), .slice Ab m cb] 29)) = .ok (.string (str (pageO (clZ k) l))) (w.alloc (.cells #[.int .i64 kd, .int .i64 K, .int .i64 N, .int .i64 at_, .int .u64 (s : Int), .slice Ab m cb] 29)) := conv_at HP.out.pg
  have HCV : Hid (∀ w', Below (w.alloc (.cells #[.int .i64 kd, .int .i64 K, .int .i64 N, .int .i64 at_, .int .u64 (s : Int), .slice Ab m cb] 29)).heap.size (w.alloc (.cells #[.int .i64 kd, .int .i64 K, .int .i64 N, .int .i64 at_, .int .u64 (s : Int), .slice Ab m cb] 29)) w' → (convert 23 9 (.slice (some ⟨b, q, none⟩) 256 c)).run Tryd.prog w' = .ok (.string (str (pageO (clZ k) l))) w') := Lib.hid (fun w' h => conv_at (HP.out.pg.below h))
  have HSZ := Lib.hid (fun W (h : Below (w.alloc (.cells #[.int .i64 kd, .int .i64 K, .int .i64 N, .int .i64 at_, .int .u64 (s : Int), .slice Ab m cb] 29)).heap.size (w.alloc (.cells #[.int .i64 kd, .int .i64 K, .int .i64 N, .int .i64 at_, .int .u64 (s : Int), .slice Ab m cb] 29)) W) => rsize_n k hk W (hS.below (HB5.out.trans (h.mono HB5.out.size))))
  have HST : Hid (∀ w', Below (w.alloc (.cells #[.int .i64 kd, .int .i64 K, .int .i64 N, .int .i64 at_, .int .u64 (s : Int), .slice Ab m cb] 29)).heap.size (w.alloc (.cells #[.int .i64 kd, .int .i64 K, .int .i64 N, .int .i64 at_, .int .u64 (s : Int), .slice Ab m cb] 29)) w' → StTo w (clZ k) (clS k) (.returned (.tuple #[.slice (some ⟨b, q, none⟩) 256 c, .slice A (clS k) cl, .bool true])) w') := Lib.hid (fun w' h => ⟨HB5.out.trans (h.mono HB5.out.size), b, q, c, A, cl, l, rfl, HP.out.below h⟩)
  have HSN : Hid (∀ w' b' q' c' A' cl' l', Below (w.alloc (.cells #[.int .i64 kd, .int .i64 K, .int .i64 N, .int .i64 at_, .int .u64 (s : Int), .slice Ab m cb] 29)).heap.size (w.alloc (.cells #[.int .i64 kd, .int .i64 K, .int .i64 N, .int .i64 at_, .int .u64 (s : Int), .slice Ab m cb] 29)) w' → PSt w' (clZ k) (clS k) b' q' c' A' cl' l' → StTo w (clZ k) (clS k) (.returned (.tuple #[.slice (some ⟨b', q', none⟩) 256 c', .slice A' (clS k) cl', .bool true])) w') := Lib.hid (fun w' b' q' c' A' cl' l' h hp => ⟨HB5.out.trans (h.mono HB5.out.size), b', q', c', A', cl', l', rfl, hp⟩)
  have HPG := Lib.hid (fun W (h : Below (w.alloc (.cells #[.int .i64 kd, .int .i64 K, .int .i64 N, .int .i64 at_, .int .u64 (s : Int), .slice Ab m cb] 29)).heap.size (w.alloc (.cells #[.int .i64 kd, .int .i64 K, .int .i64 N, .int .i64 at_, .int .u64 (s : Int), .slice Ab m cb] 29)) W) A cc l' (hv : ObV W A (clS k) l') (hok : OkL (clZ k) (clS k) l') => page18_any k A (clS k) cc l' W (hS.below (HB5.out.trans (h.mono HB5.out.size))) hk hv z3 (fun i => by have := (hok.at_ i).long; omega) (fun i => by have := (hok.at_ i).ser; omega))
  have HEQ : Hid (∀ l', OkL (clZ k) (clS k) l' → ∀ i, (pageO (clZ k) l').getD i 0 < 256) := Lib.hid (fun l' h => page_byte (by omega) (fun j => (h.at_ j).byte))
  subst hkd
  have HRZ := Lib.hid (res_o k b q c K N l _ (hS.below HB5.out) hk HP.out.ok HP.out.pg)
  have HTH := Lib.hid (fun W (h : Below (w.alloc (.cells #[.int .i64 4, .int .i64 K, .int .i64 N, .int .i64 at_, .int .u64 (s : Int), .slice Ab m cb] 29)).heap.size (w.alloc (.cells #[.int .i64 4, .int .i64 K, .int .i64 N, .int .i64 at_, .int .u64 (s : Int), .slice Ab m cb] 29)) W) => there_any A (clS k) cl K l W (HP.out.ob.below h) (by omega))
  have HPD := Lib.hid (fun W (h : Below (w.alloc (.cells #[.int .i64 4, .int .i64 K, .int .i64 N, .int .i64 at_, .int .u64 (s : Int), .slice Ab m cb] 29)).heap.size (w.alloc (.cells #[.int .i64 4, .int .i64 K, .int .i64 N, .int .i64 at_, .int .u64 (s : Int), .slice Ab m cb] 29)) W) A1 n1 c1 d (hs : BS W W.heap.size A1 n1 c1 d) (h1 : n1 ≤ 1000) nn (h2 : 1 ≤ nn) (h3 : nn ≤ 65536) => pad_l A1 n1 c1 nn d W hs h1 h2 h3)
  have HWI := Lib.hid (fun W (h : Below (w.alloc (.cells #[.int .i64 4, .int .i64 K, .int .i64 N, .int .i64 at_, .int .u64 (s : Int), .slice Ab m cb] 29)).heap.size (w.alloc (.cells #[.int .i64 4, .int .i64 K, .int .i64 N, .int .i64 at_, .int .u64 (s : Int), .slice Ab m cb] 29)) W) kk s' d n1 c1 (hkk : kk < clS k) A1 (hs : BS W W.heap.size A1 n1 c1 d) (hz : A1 = none → c1 = 0) => with_o A A1 (clS k) cl kk s' n1 c1 l d W hlen (HP.out.ob.below h) (by omega) hkk hs hz)
  have HLG := Lib.hid (fun i => (HP.out.ok.at_ i).long)
  clear hbz
  have HLEN := Lib.hid hlen
  have HRF := Lib.hid (Below.refl (w.alloc (.cells #[.int .i64 4, .int .i64 K, .int .i64 N, .int .i64 at_, .int .u64 (s : Int), .slice Ab m cb] 29)).heap.size (w.alloc (.cells #[.int .i64 4, .int .i64 K, .int .i64 N, .int .i64 at_, .int .u64 (s : Int), .slice Ab m cb] 29)))
  have hbc1 := hbc.1
  clear hp hb hbl hbc hbm hS hlen
  have HZ6 := Lib.hid z6
  have hz120 : szN k ≤ 120 := by omega
  clear z6
  generalize str (pageO (clZ k) l) = sp at *
  generalize szN k = zz at *
  generalize clZ k = z at *
  generalize clS k = S at *
  unfold RzTo at HRZ
  rcases hcut with ⟨h130, rfl⟩ | ⟨h130, rfl⟩
  · have h1I : ¬ (130 : Int) < (m : Int) := by omega
    cases hh : hasO l K
    · skip
      go_enter Tryd.func8, Tryd.ntmps8
      go_wp2_with fail
      refine HRZ.out.mono ?_
      rintro e w1 ⟨hb1, (⟨hx, rfl⟩ | ⟨h, _⟩ | ⟨h, _⟩)⟩
      · have HB1 := Lib.hid hb1
        have HTQ : Hid (∀ m, Calls Tryd.prog 18 #[.slice A S cl, .int .i64 K] (w1.drewN m) fun e w' => e = .returned (.bool (hasO l K)) ∧ w' = w1.drewN m) := Lib.hid (fun m => (HTH.out (w1.drewN m) (below_drewN HB1.out m)).mono fun _ _ h => ⟨h.1, h.2.symm⟩)
        have HSQ : Hid (∀ m, Calls Tryd.prog 20 #[.int .i64 (k : Int)] (w1.drewN m) fun e w' => e = .returned (.int .i64 (zz : Int)) ∧ w' = w1.drewN m) := Lib.hid (fun m => (HSZ.out (w1.drewN m) (below_drewN HB1.out m)).mono fun _ _ h => ⟨h.1, h.2.symm⟩)
        have hcm : ∀ m, (convert 23 9 (.slice (some ⟨b, q, none⟩) 256 c)).run Tryd.prog (w1.drewN m) = .ok (.string sp) (w1.drewN m) := fun m => HCV.out _ (below_drewN HB1.out m)
        have HT3 := Lib.hid (fun m => HTH.out (w1.drewN m) (below_drewN HB1.out m))
        have HF := Lib.hid (fun m => HST.out (w1.drewN m) (below_drewN HB1.out m))
        obtain ⟨y0, y1, y2, y3, y4, y5⟩ := HBC.out w1 hb1
        rw [hh] at HTQ HT3
        clear HTH HWI HPD HSN HPG HEQ HCV hb1 HRZ HST hx hh
        go_upto_region 31 with (fail)
        go_quiet (first | with_reducible exact Calls.quiet_of_same (HTQ.out _) | with_reducible exact Calls.quiet_of_same (HSQ.out _))
        go_wp2_with fail
        refine (HT3.out _).mono ?_
        rintro e w2 ⟨rfl, rfl⟩
        go_wp2_with fail
        go_ret3
        exact HF.out _
      · rw [hh] at h; cases h
      · rw [hh] at h; cases h
    · by_cases c3 : N < 1
      · skip
        have hft : holdsB z N = false := by
          have := HZ6.out
          unfold holdsB; rw [decide_eq_false_iff_not]; omega
        go_enter Tryd.func8, Tryd.ntmps8
        go_wp2_with fail
        refine HRZ.out.mono ?_
        rintro e w1 ⟨hb1, (⟨h, _⟩ | ⟨hx, hy, rfl⟩ | ⟨_, h, _⟩)⟩
        · rw [hh] at h; cases h
        · have HB1 := Lib.hid hb1
          have HTQ : Hid (∀ m, Calls Tryd.prog 18 #[.slice A S cl, .int .i64 K] (w1.drewN m) fun e w' => e = .returned (.bool (hasO l K)) ∧ w' = w1.drewN m) := Lib.hid (fun m => (HTH.out (w1.drewN m) (below_drewN HB1.out m)).mono fun _ _ h => ⟨h.1, h.2.symm⟩)
          have HSQ : Hid (∀ m, Calls Tryd.prog 20 #[.int .i64 (k : Int)] (w1.drewN m) fun e w' => e = .returned (.int .i64 (zz : Int)) ∧ w' = w1.drewN m) := Lib.hid (fun m => (HSZ.out (w1.drewN m) (below_drewN HB1.out m)).mono fun _ _ h => ⟨h.1, h.2.symm⟩)
          have hcm : ∀ m, (convert 23 9 (.slice (some ⟨b, q, none⟩) 256 c)).run Tryd.prog (w1.drewN m) = .ok (.string sp) (w1.drewN m) := fun m => HCV.out _ (below_drewN HB1.out m)
          have HF := Lib.hid (fun m => HST.out (w1.drewN m) (below_drewN HB1.out m))
          obtain ⟨y0, y1, y2, y3, y4, y5⟩ := HBC.out w1 hb1
          rw [hh] at HTQ
          clear HTH HWI HPD HSN HPG HEQ HCV hb1 HRZ HST hx hy hh hft
          go_upto_region 31 with (fail)
          go_quiet (first | with_reducible exact Calls.quiet_of_same (HTQ.out _) | with_reducible exact Calls.quiet_of_same (HSQ.out _))
          go_wp2_with fail
          go_ret3
          exact HF.out _
        · rw [hft] at h; cases h
      · by_cases c4 : (zz : Int) < N
        · skip
          have hft : holdsB z N = false := by
            have := HZ6.out
            unfold holdsB; rw [decide_eq_false_iff_not]; omega
          go_enter Tryd.func8, Tryd.ntmps8
          go_wp2_with fail
          refine HRZ.out.mono ?_
          rintro e w1 ⟨hb1, (⟨h, _⟩ | ⟨hx, hy, rfl⟩ | ⟨_, h, _⟩)⟩
          · rw [hh] at h; cases h
          · have HB1 := Lib.hid hb1
            have HTQ : Hid (∀ m, Calls Tryd.prog 18 #[.slice A S cl, .int .i64 K] (w1.drewN m) fun e w' => e = .returned (.bool (hasO l K)) ∧ w' = w1.drewN m) := Lib.hid (fun m => (HTH.out (w1.drewN m) (below_drewN HB1.out m)).mono fun _ _ h => ⟨h.1, h.2.symm⟩)
            have HSQ : Hid (∀ m, Calls Tryd.prog 20 #[.int .i64 (k : Int)] (w1.drewN m) fun e w' => e = .returned (.int .i64 (zz : Int)) ∧ w' = w1.drewN m) := Lib.hid (fun m => (HSZ.out (w1.drewN m) (below_drewN HB1.out m)).mono fun _ _ h => ⟨h.1, h.2.symm⟩)
            have hcm : ∀ m, (convert 23 9 (.slice (some ⟨b, q, none⟩) 256 c)).run Tryd.prog (w1.drewN m) = .ok (.string sp) (w1.drewN m) := fun m => HCV.out _ (below_drewN HB1.out m)
            have HF := Lib.hid (fun m => HST.out (w1.drewN m) (below_drewN HB1.out m))
            obtain ⟨y0, y1, y2, y3, y4, y5⟩ := HBC.out w1 hb1
            rw [hh] at HTQ
            clear HTH HWI HPD HSN HPG HEQ HCV hb1 HRZ HST hx hy hh hft
            go_upto_region 31 with (fail)
            go_quiet (first | with_reducible exact Calls.quiet_of_same (HTQ.out _) | with_reducible exact Calls.quiet_of_same (HSQ.out _))
            go_wp2_with fail
            go_ret3
            exact HF.out _
          · rw [hft] at h; cases h
        · skip
          have hft : holdsB z N = true := by
            have := HZ6.out
            unfold holdsB; rw [decide_eq_true_iff]; omega
          have hat2 := hasO_at hh
          obtain ⟨kk, rfl⟩ : ∃ kk : Nat, K = (kk : Int) := ⟨K.toNat, by omega⟩
          obtain ⟨nn, rfl⟩ : ∃ nn : Nat, N = (nn : Int) := ⟨N.toNat, by omega⟩
          have HKK : Hid (kk < S) := Lib.hid (by have := HLEN.out; omega)
          have hnn1 : 1 ≤ nn := by omega
          have hnn2 : nn ≤ 120 := by omega
          have HD3 : Hid (decide (((nn : Nat) : Int) < 1) = false) := Lib.hid (decide_eq_false (by omega))
          have HD4 : Hid (decide (zz < nn) = false) := Lib.hid (decide_eq_false (by omega))
          clear hat2
          go_enter Tryd.func8, Tryd.ntmps8
          go_wp2_with fail
          refine HRZ.out.mono ?_
          rintro e w1 ⟨hb1, (⟨h, _⟩ | ⟨_, h, _⟩ | ⟨hx, hy, h, cc, rfl, hbs, hok⟩)⟩
          · rw [hh] at h; cases h
          · rw [hft] at h; cases h
          · rw [Int.toNat_natCast] at hbs hok
            rw [Int.toNat_natCast] at hbs hok
            have HB1 := Lib.hid hb1
            have HTQ : Hid (∀ m, Calls Tryd.prog 18 #[.slice A S cl, .int .i64 (kk : Int)] (w1.drewN m) fun e w' => e = .returned (.bool (hasO l (kk : Int))) ∧ w' = w1.drewN m) := Lib.hid (fun m => (HTH.out (w1.drewN m) (below_drewN HB1.out m)).mono fun _ _ h => ⟨h.1, h.2.symm⟩)
            have HSQ : Hid (∀ m, Calls Tryd.prog 20 #[.int .i64 (k : Int)] (w1.drewN m) fun e w' => e = .returned (.int .i64 (zz : Int)) ∧ w' = w1.drewN m) := Lib.hid (fun m => (HSZ.out (w1.drewN m) (below_drewN HB1.out m)).mono fun _ _ h => ⟨h.1, h.2.symm⟩)
            have hcm : ∀ m, (convert 23 9 (.slice (some ⟨b, q, none⟩) 256 c)).run Tryd.prog (w1.drewN m) = .ok (.string sp) (w1.drewN m) := fun m => HCV.out _ (below_drewN HB1.out m)
            have HT3 := Lib.hid (fun m => HTH.out (w1.drewN m) (below_drewN HB1.out m))
            have HBM := Lib.hid (fun m => below_drewN HB1.out m)
            have HQ2 := Lib.hid (fun m => (hbs.below (below_drewN (Below.refl w1.heap.size w1) m)).more (below_drewN (Below.refl w1.heap.size w1) m).size)
            have HOK := Lib.hid hok
            obtain ⟨y0, y1, y2, y3, y4, y5⟩ := HBC.out w1 hb1
            rw [hh] at HTQ HT3
            clear HTH hcm hb1 HRZ hx hy hh hft hbs hok HST
            go_upto_region 31 with (fail)
            go_quiet (first | with_reducible exact Calls.quiet_of_same (HTQ.out _) | with_reducible exact Calls.quiet_of_same (HSQ.out _))
            simp only [HD3.out, HD4.out, Bool.or_false, Bool.true_and, Bool.and_false]
            clear c3 c4
            go_wp2_with fail
            refine (HT3.out _).mono ?_
            rintro e w2 ⟨rfl, rfl⟩
            have HB3 := Lib.hid (HBM.out nq)
            have HQ3 := Lib.hid (HQ2.out nq)
            clear HBM HQ2 HSQ HTQ HT3
            generalize w1.drewN nq = w3 at *
            clear y0 y1 y2 y3 y4 y5
            obtain ⟨bo, o, A1, c1, rfl, hb0, q0, q1, q2, q3⟩ := HP.out.ob.at_ HKK.out
            have HO3 : Hid (∀ w', Below w3.heap.size w3 w' → w'.cell? ⟨bo, o + kk * 2, none⟩ = some (.int .u64 (((oAt l kk).1 : Nat) : Int)) ∧ w'.cell? ⟨bo, o + kk * 2 + 1, none⟩ = some (.slice A1 (oAt l kk).2.length c1)) := Lib.hid (fun w' h => by
              have hbw := HB3.out.trans (h.mono HB3.out.size)
              exact ⟨(hbw.cell (p := ⟨bo, o + kk * 2, none⟩) hb0).trans q0, (hbw.cell (p := ⟨bo, o + kk * 2 + 1, none⟩) hb0).trans q1⟩)
            have HQD := Lib.hid q2
            have HL9 : Hid ((oAt l kk).2.length ≤ 1000) := Lib.hid (by have := HLG.out kk; omega)
            have HKS := HKK.out
            clear q0 q1 q2 q3 hb0
            generalize (oAt l kk).1 = sv at *
            generalize (oAt l kk).2 = dv at *
            generalize dv.length = dn at *
            go_upto_region 35 with (fail)
            refine wp_region_F (S := (fun w' => Below w3.heap.size w3 w')) [] (by kernel_rfl) ((Below.refl _ _).drew) (fun hHeld => ?_)
            (try simp only [Act.put, List.getElem_toArray, List.getElem_cons_succ, List.getElem_cons_zero, List.setIfInBounds_toArray, List.set_cons_zero, List.set_cons_succ])
            refine wpAnyF_take (i := 0) (oi := _) (v := ?_) rfl (by kernel_rfl) (by kernel_rfl) (by kernel_rfl) (by kernel_rfl) (fun _ _ _ h => h) (Or.inl ⟨by rfl, ?_⟩) (by assumption) ?_
            rotate_left 1
            · intro w hSw
              (try dsimp only at hSw)
              obtain ⟨y0, y1, y2, y3, y4, y5⟩ := HBC.out w (HB3.out.trans (hSw.mono HB3.out.size))
              obtain ⟨u0, u1⟩ := HO3.out w hSw
              (first | (go_simp; done) | (go_simp; with_reducible rfl))
            (try simp only [Act.put, List.getElem_toArray, List.getElem_cons_succ, List.getElem_cons_zero, List.setIfInBounds_toArray, List.set_cons_zero, List.set_cons_succ])
            refine wpAnyF_take (i := 1) (oi := _) (v := ?_) rfl (by kernel_rfl) (by kernel_rfl) (by kernel_rfl) (by kernel_rfl) (fun _ _ _ h => h) (Or.inl ⟨by rfl, ?_⟩) (by assumption) ?_
            rotate_left 1
            · intro w hSw
              (try dsimp only at hSw)
              obtain ⟨y0, y1, y2, y3, y4, y5⟩ := HBC.out w (HB3.out.trans (hSw.mono HB3.out.size))
              obtain ⟨u0, u1⟩ := HO3.out w hSw
              (first | (go_simp; done) | (go_simp; with_reducible rfl))
            (try simp only [Act.put, List.getElem_toArray, List.getElem_cons_succ, List.getElem_cons_zero, List.setIfInBounds_toArray, List.set_cons_zero, List.set_cons_succ])
            refine wpAnyF_take (i := 2) (oi := _) (v := ?_) rfl (by kernel_rfl) (by kernel_rfl) (by kernel_rfl) (by kernel_rfl) (fun _ _ _ h => h) (Or.inl ⟨by rfl, ?_⟩) (by assumption) ?_
            rotate_left 1
            · intro w hSw
              (try dsimp only at hSw)
              obtain ⟨y0, y1, y2, y3, y4, y5⟩ := HBC.out w (HB3.out.trans (hSw.mono HB3.out.size))
              obtain ⟨u0, u1⟩ := HO3.out w hSw
              (first | (go_simp; done) | (go_simp; with_reducible rfl))
            (try simp only [Act.put, List.getElem_toArray, List.getElem_cons_succ, List.getElem_cons_zero, List.setIfInBounds_toArray, List.set_cons_zero, List.set_cons_succ])
            refine wpAnyF_take (i := 3) (oi := _) (v := ?_) rfl (by kernel_rfl) (by kernel_rfl) (by kernel_rfl) (by kernel_rfl) (fun _ _ _ h => h) (Or.inl ⟨by rfl, ?_⟩) (by assumption) ?_
            rotate_left 1
            · intro w hSw
              (try dsimp only at hSw)
              obtain ⟨y0, y1, y2, y3, y4, y5⟩ := HBC.out w (HB3.out.trans (hSw.mono HB3.out.size))
              obtain ⟨u0, u1⟩ := HO3.out w hSw
              (first | (go_simp; done) | (go_simp; with_reducible rfl))
            (try simp only [Act.put, List.getElem_toArray, List.getElem_cons_succ, List.getElem_cons_zero, List.setIfInBounds_toArray, List.set_cons_zero, List.set_cons_succ])
            refine wpAnyF_take (i := 4) (oi := _) (v := ?_) rfl (by kernel_rfl) (by kernel_rfl) (by kernel_rfl) (by kernel_rfl) (fun _ _ _ h => h) (Or.inl ⟨by rfl, ?_⟩) (by assumption) ?_
            rotate_left 1
            · intro w hSw
              (try dsimp only at hSw)
              obtain ⟨y0, y1, y2, y3, y4, y5⟩ := HBC.out w (HB3.out.trans (hSw.mono HB3.out.size))
              obtain ⟨u0, u1⟩ := HO3.out w hSw
              (first | (go_simp; done) | (go_simp; with_reducible rfl))
            (try simp only [Act.put, List.getElem_toArray, List.getElem_cons_succ, List.getElem_cons_zero, List.setIfInBounds_toArray, List.set_cons_zero, List.set_cons_succ])
            refine wpAnyF_take (i := 5) (oi := _) (v := ?_) rfl (by kernel_rfl) (by kernel_rfl) (by kernel_rfl) (by kernel_rfl) (fun _ _ _ h => h) (Or.inl ⟨by rfl, ?_⟩) (by assumption) ?_
            rotate_left 1
            · intro w hSw
              (try dsimp only at hSw)
              obtain ⟨y0, y1, y2, y3, y4, y5⟩ := HBC.out w (HB3.out.trans (hSw.mono HB3.out.size))
              obtain ⟨u0, u1⟩ := HO3.out w hSw
              (first | (go_simp; done) | (go_simp; with_reducible rfl))
            (try simp only [Act.put, List.getElem_toArray, List.getElem_cons_succ, List.getElem_cons_zero, List.setIfInBounds_toArray, List.set_cons_zero, List.set_cons_succ])
            refine wpAnyF_take (i := 6) (oi := _) (v := ?_) rfl (by kernel_rfl) (by kernel_rfl) (by kernel_rfl) (by kernel_rfl) (fun _ _ _ h => h) (Or.inl ⟨by rfl, ?_⟩) (by assumption) ?_
            rotate_left 1
            · intro w hSw
              (try dsimp only at hSw)
              obtain ⟨y0, y1, y2, y3, y4, y5⟩ := HBC.out w (HB3.out.trans (hSw.mono HB3.out.size))
              obtain ⟨u0, u1⟩ := HO3.out w hSw
              (first | (go_simp; done) | (go_simp; with_reducible rfl))
            (try simp only [Act.put, List.getElem_toArray, List.getElem_cons_succ, List.getElem_cons_zero, List.setIfInBounds_toArray, List.set_cons_zero, List.set_cons_succ])
            refine wpAnyF_take (i := 7) (oi := _) (v := ?_) rfl (by kernel_rfl) (by kernel_rfl) (by kernel_rfl) (by kernel_rfl) (fun _ _ _ h => h) (Or.inl ⟨by rfl, ?_⟩) (by assumption) ?_
            rotate_left 1
            · intro w hSw
              (try dsimp only at hSw)
              obtain ⟨y0, y1, y2, y3, y4, y5⟩ := HBC.out w (HB3.out.trans (hSw.mono HB3.out.size))
              obtain ⟨u0, u1⟩ := HO3.out w hSw
              (first | (go_simp; done) | (go_simp; with_reducible rfl))
            (try simp only [Act.put, List.getElem_toArray, List.getElem_cons_succ, List.getElem_cons_zero, List.setIfInBounds_toArray, List.set_cons_zero, List.set_cons_succ])
            refine wpAnyF_take (i := 8) (oi := _) (v := ?_) rfl (by kernel_rfl) (by kernel_rfl) (by kernel_rfl) (by kernel_rfl) (fun _ _ _ h => h) (Or.inl ⟨by rfl, ?_⟩) (by assumption) ?_
            rotate_left 1
            · intro w hSw
              (try dsimp only at hSw)
              obtain ⟨y0, y1, y2, y3, y4, y5⟩ := HBC.out w (HB3.out.trans (hSw.mono HB3.out.size))
              obtain ⟨u0, u1⟩ := HO3.out w hSw
              (first | (go_simp; done) | (go_simp; with_reducible rfl))
            (try simp only [Act.put, List.getElem_toArray, List.getElem_cons_succ, List.getElem_cons_zero, List.setIfInBounds_toArray, List.set_cons_zero, List.set_cons_succ])
            refine wpAnyF_take (i := 9) (oi := _) (v := ?_) rfl (by kernel_rfl) (by kernel_rfl) (by kernel_rfl) (by kernel_rfl) (fun _ _ _ h => h) (Or.inl ⟨by rfl, ?_⟩) (by assumption) ?_
            rotate_left 1
            · intro w hSw
              (try dsimp only at hSw)
              obtain ⟨y0, y1, y2, y3, y4, y5⟩ := HBC.out w (HB3.out.trans (hSw.mono HB3.out.size))
              obtain ⟨u0, u1⟩ := HO3.out w hSw
              (first | (go_simp; done) | (go_simp; with_reducible rfl))
            (try simp only [Act.put, List.getElem_toArray, List.getElem_cons_succ, List.getElem_cons_zero, List.setIfInBounds_toArray, List.set_cons_zero, List.set_cons_succ])
            refine wpAnyF_take (i := 10) (oi := _) (v := ?_) rfl (by kernel_rfl) (by kernel_rfl) (by kernel_rfl) (by kernel_rfl) (fun _ _ _ h => h) (Or.inl ⟨by rfl, ?_⟩) (by assumption) ?_
            rotate_left 1
            · intro w hSw
              (try dsimp only at hSw)
              obtain ⟨y0, y1, y2, y3, y4, y5⟩ := HBC.out w (HB3.out.trans (hSw.mono HB3.out.size))
              obtain ⟨u0, u1⟩ := HO3.out w hSw
              (first | (go_simp; done) | (go_simp; with_reducible rfl))
            (try simp only [Act.put, List.getElem_toArray, List.getElem_cons_succ, List.getElem_cons_zero, List.setIfInBounds_toArray, List.set_cons_zero, List.set_cons_succ])
            refine wpAnyF_take (i := 11) (oi := _) (v := ?_) rfl (by kernel_rfl) (by kernel_rfl) (by kernel_rfl) (by kernel_rfl) (fun _ _ _ h => h) (Or.inl ⟨by rfl, ?_⟩) (by assumption) ?_
            rotate_left 1
            · intro w hSw
              (try dsimp only at hSw)
              obtain ⟨y0, y1, y2, y3, y4, y5⟩ := HBC.out w (HB3.out.trans (hSw.mono HB3.out.size))
              obtain ⟨u0, u1⟩ := HO3.out w hSw
              (first | (go_simp; done) | (go_simp; with_reducible rfl))
            (try simp only [Act.put, List.getElem_toArray, List.getElem_cons_succ, List.getElem_cons_zero, List.setIfInBounds_toArray, List.set_cons_zero, List.set_cons_succ])
            refine wpAnyF_take (i := 12) (oi := _) (v := ?_) rfl (by kernel_rfl) (by kernel_rfl) (by kernel_rfl) (by kernel_rfl) (fun _ _ _ h => h) (Or.inl ⟨by rfl, ?_⟩) (by assumption) ?_
            rotate_left 1
            · intro w hSw
              (try dsimp only at hSw)
              obtain ⟨y0, y1, y2, y3, y4, y5⟩ := HBC.out w (HB3.out.trans (hSw.mono HB3.out.size))
              obtain ⟨u0, u1⟩ := HO3.out w hSw
              (first | (go_simp; done) | (go_simp; with_reducible rfl))
            (try simp only [Act.put, List.getElem_toArray, List.getElem_cons_succ, List.getElem_cons_zero, List.setIfInBounds_toArray, List.set_cons_zero, List.set_cons_succ])
            refine wpAnyF_take (i := 13) (oi := _) (v := ?_) rfl (by kernel_rfl) (by kernel_rfl) (by kernel_rfl) (by kernel_rfl) (fun _ _ _ h => h) (Or.inl ⟨by rfl, ?_⟩) (by assumption) ?_
            rotate_left 1
            · intro w hSw
              (try dsimp only at hSw)
              obtain ⟨y0, y1, y2, y3, y4, y5⟩ := HBC.out w (HB3.out.trans (hSw.mono HB3.out.size))
              obtain ⟨u0, u1⟩ := HO3.out w hSw
              (first | (go_simp; done) | (go_simp; with_reducible rfl))
            (try simp only [Act.put, List.getElem_toArray, List.getElem_cons_succ, List.getElem_cons_zero, List.setIfInBounds_toArray, List.set_cons_zero, List.set_cons_succ])
            refine wpAnyF_take (i := 14) (oi := _) (v := ?_) rfl (by kernel_rfl) (by kernel_rfl) (by kernel_rfl) (by kernel_rfl) (fun _ _ _ h => h) (Or.inl ⟨by rfl, ?_⟩) (by assumption) ?_
            rotate_left 1
            · intro w hSw
              (try dsimp only at hSw)
              obtain ⟨y0, y1, y2, y3, y4, y5⟩ := HBC.out w (HB3.out.trans (hSw.mono HB3.out.size))
              obtain ⟨u0, u1⟩ := HO3.out w hSw
              (first | (go_simp; done) | (go_simp; with_reducible rfl))
            (try simp only [Act.put, List.getElem_toArray, List.getElem_cons_succ, List.getElem_cons_zero, List.setIfInBounds_toArray, List.set_cons_zero, List.set_cons_succ])
            refine wpAnyF_take (i := 15) (oi := _) (v := ?_) rfl (by kernel_rfl) (by kernel_rfl) (by kernel_rfl) (by kernel_rfl) (fun _ _ _ h => h) (Or.inl ⟨by rfl, ?_⟩) (by assumption) ?_
            rotate_left 1
            · intro w hSw
              (try dsimp only at hSw)
              obtain ⟨y0, y1, y2, y3, y4, y5⟩ := HBC.out w (HB3.out.trans (hSw.mono HB3.out.size))
              obtain ⟨u0, u1⟩ := HO3.out w hSw
              (first | (go_simp; done) | (go_simp; with_reducible rfl))
            (try simp only [Act.put, List.getElem_toArray, List.getElem_cons_succ, List.getElem_cons_zero, List.setIfInBounds_toArray, List.set_cons_zero, List.set_cons_succ])
            refine wpAnyF_take (i := 16) (oi := _) (v := ?_) rfl (by kernel_rfl) (by kernel_rfl) (by kernel_rfl) (by kernel_rfl) (fun _ _ _ h => h) (Or.inl ⟨by rfl, ?_⟩) (by assumption) ?_
            rotate_left 1
            · intro w hSw
              (try dsimp only at hSw)
              obtain ⟨y0, y1, y2, y3, y4, y5⟩ := HBC.out w (HB3.out.trans (hSw.mono HB3.out.size))
              obtain ⟨u0, u1⟩ := HO3.out w hSw
              (first | (go_simp; done) | (go_simp; with_reducible rfl))
            (try simp only [Act.put, List.getElem_toArray, List.getElem_cons_succ, List.getElem_cons_zero, List.setIfInBounds_toArray, List.set_cons_zero, List.set_cons_succ])
            refine wpAnyF_ready (rs := [17]) (by kernel_rfl) (by simp) ?_
            refine AllReadyF.cons (o := _) rfl (fun K hK => ?_) AllReadyF.nil
            go_simp
            (go_at_call 25)
            ((with_reducible refine (HPD.out _ (HB3.out.trans (hHeld.mono HB3.out.size)) _ _ _ dv ((HQD.out.below (HB3.out.trans (hHeld.mono HB3.out.size))).more (HB3.out.trans (hHeld.mono HB3.out.size)).size) HL9.out nn hnn1 (by omega)).mono ?_))
            rintro e w5 ⟨A5, c5, rfl, hb5, hx5, hz5⟩
            have HB5w := Lib.hid (hHeld.trans (hb5.mono hHeld.size))
            have HX5 := Lib.hid hx5
            have HZ5 := Lib.hid hz5
            clear hb5 hx5 hz5
            refine hK.out _ _ (HB5w.out) (fun hHeld17 => ?_)
            clear hK K
            (try simp only [Act.put, List.getElem_toArray, List.getElem_cons_succ, List.getElem_cons_zero, List.setIfInBounds_toArray, List.set_cons_zero, List.set_cons_succ])
            refine wpAnyF_take (i := 18) (oi := _) (v := ?_) rfl (by kernel_rfl) (by kernel_rfl) (by kernel_rfl) (by kernel_rfl) (fun _ _ _ h => h) (Or.inl ⟨by rfl, ?_⟩) (by assumption) ?_
            rotate_left 1
            · intro w hSw
              (try dsimp only at hSw)
              obtain ⟨y0, y1, y2, y3, y4, y5⟩ := HBC.out w (HB3.out.trans (hSw.mono HB3.out.size))
              (first | (go_simp; done) | (go_simp; with_reducible rfl))
            (try simp only [Act.put, List.getElem_toArray, List.getElem_cons_succ, List.getElem_cons_zero, List.setIfInBounds_toArray, List.set_cons_zero, List.set_cons_succ])
            refine wpAnyF_ready (rs := [19]) (by kernel_rfl) (by simp) ?_
            refine AllReadyF.cons (o := _) rfl (fun K hK => ?_) AllReadyF.nil
            go_simp
            (go_at_call 24)
            ((with_reducible refine (HWI.out _ (HB3.out.trans (HB5w.out.mono HB3.out.size)) kk sv (padL dv nn) nn c5 HKK.out A5 HX5.out HZ5.out).mono ?_))
            rintro e w4 ⟨g, cap, rfl, hov, hb4⟩
            have HB4w := Lib.hid (HB5w.out.trans (hb4.mono HB5w.out.size))
            have HM := Lib.hid hov
            clear hov hb4
            refine hK.out _ _ (HB4w.out) (fun hHeld19 => ?_)
            clear hK K
            (try simp only [Act.put, List.getElem_toArray, List.getElem_cons_succ, List.getElem_cons_zero, List.setIfInBounds_toArray, List.set_cons_zero, List.set_cons_succ])
            refine wpAnyF_take (i := 20) (oi := _) (v := ?_) rfl (by kernel_rfl) (by kernel_rfl) (by kernel_rfl) (by kernel_rfl) (fun _ _ _ h => h) (Or.inl ⟨by rfl, ?_⟩) (by assumption) ?_
            rotate_left 1
            · intro w hSw
              (try dsimp only at hSw)
              obtain ⟨y0, y1, y2, y3, y4, y5⟩ := HBC.out w (HB3.out.trans (hSw.mono HB3.out.size))
              (first | (go_simp; done) | (go_simp; with_reducible rfl))
            (try simp only [Act.put, List.getElem_toArray, List.getElem_cons_succ, List.getElem_cons_zero, List.setIfInBounds_toArray, List.set_cons_zero, List.set_cons_succ])
            refine wpAnyF_done (by kernel_rfl) ?_ _
            have HB4 := Lib.hid (HB3.out.trans (HB4w.out.mono HB3.out.size))
            have HQ4 := Lib.hid ((HQ3.out.below HB4w.out).more HB4w.out.size)
            clear HB3 HQ3 HB4w HSZ HWI HPD
            have HF : Hid (∀ w', Below w4.heap.size w4 w' → StTo w z S (.returned (.tuple #[.slice (some ⟨h, 0, none⟩) 256 cc, .slice (some ⟨g, 0, none⟩) S cap, .bool true])) w') := Lib.hid (fun w' h => HSN.out w' _ _ _ _ _ _ (HB4.out.trans (h.mono HB4.out.size)) ⟨HOK.out, HM.out.below h, (HQ4.out.below h).more h.size⟩)
            have HPG2 := Lib.hid (fun w' (h : Below w4.heap.size w4 w') => HPG.out w' (HB4.out.trans (h.mono HB4.out.size)) (some ⟨g, 0, none⟩) cap _ (HM.out.below h) HOK.out)
            have hc3 := HCV.out w4 HB4.out
            have HCQ := Lib.hid (fun w' (h : Below w4.heap.size w4 w') => conv_at (HQ4.out.below h))
            try clear HST
            clear HSN HPG HEQ HCV
            generalize pageO z (l.set kk (sv, padL dv nn)) = pg2 at *
            go_upto_region 50 with (fail)
            refine wp_region_F (S := (fun w' => Below w4.heap.size w4 w')) [] (by kernel_rfl) ((Below.refl _ _).drew) (fun hHeld => ?_)
            (try simp only [Act.put, List.getElem_toArray, List.getElem_cons_succ, List.getElem_cons_zero, List.setIfInBounds_toArray, List.set_cons_zero, List.set_cons_succ])
            refine wpAnyF_take (i := 0) (oi := _) (v := ?_) rfl (by kernel_rfl) (by kernel_rfl) (by kernel_rfl) (by kernel_rfl) (fun _ _ _ h => h) (Or.inl ⟨by rfl, ?_⟩) (by assumption) ?_
            rotate_left 1
            · intro w hSw
              (try dsimp only at hSw)
              have hCQ := HCQ.out w hSw
              (first | (go_simp; done) | (go_simp; with_reducible rfl))
            (try simp only [Act.put, List.getElem_toArray, List.getElem_cons_succ, List.getElem_cons_zero, List.setIfInBounds_toArray, List.set_cons_zero, List.set_cons_succ])
            refine wpAnyF_take (i := 1) (oi := _) (v := ?_) rfl (by kernel_rfl) (by kernel_rfl) (by kernel_rfl) (by kernel_rfl) (fun _ _ _ h => h) (Or.inl ⟨by rfl, ?_⟩) (by assumption) ?_
            rotate_left 1
            · intro w hSw
              (try dsimp only at hSw)
              have hCQ := HCQ.out w hSw
              (first | (go_simp; done) | (go_simp; with_reducible rfl))
            (try simp only [Act.put, List.getElem_toArray, List.getElem_cons_succ, List.getElem_cons_zero, List.setIfInBounds_toArray, List.set_cons_zero, List.set_cons_succ])
            refine wpAnyF_take (i := 2) (oi := _) (v := ?_) rfl (by kernel_rfl) (by kernel_rfl) (by kernel_rfl) (by kernel_rfl) (fun _ _ _ h => h) (Or.inl ⟨by rfl, ?_⟩) (by assumption) ?_
            rotate_left 1
            · intro w hSw
              (try dsimp only at hSw)
              have hCQ := HCQ.out w hSw
              (first | (go_simp; done) | (go_simp; with_reducible rfl))
            (try simp only [Act.put, List.getElem_toArray, List.getElem_cons_succ, List.getElem_cons_zero, List.setIfInBounds_toArray, List.set_cons_zero, List.set_cons_succ])
            refine wpAnyF_take (i := 3) (oi := _) (v := ?_) rfl (by kernel_rfl) (by kernel_rfl) (by kernel_rfl) (by kernel_rfl) (fun _ _ _ h => h) (Or.inl ⟨by rfl, ?_⟩) (by assumption) ?_
            rotate_left 1
            · intro w hSw
              (try dsimp only at hSw)
              have hCQ := HCQ.out w hSw
              (first | (go_simp; done) | (go_simp; with_reducible rfl))
            (try simp only [Act.put, List.getElem_toArray, List.getElem_cons_succ, List.getElem_cons_zero, List.setIfInBounds_toArray, List.set_cons_zero, List.set_cons_succ])
            refine wpAnyF_take (i := 4) (oi := _) (v := ?_) rfl (by kernel_rfl) (by kernel_rfl) (by kernel_rfl) (by kernel_rfl) (fun _ _ _ h => h) (Or.inl ⟨by rfl, ?_⟩) (by assumption) ?_
            rotate_left 1
            · intro w hSw
              (try dsimp only at hSw)
              have hCQ := HCQ.out w hSw
              (first | (go_simp; done) | (go_simp; with_reducible rfl))
            (try simp only [Act.put, List.getElem_toArray, List.getElem_cons_succ, List.getElem_cons_zero, List.setIfInBounds_toArray, List.set_cons_zero, List.set_cons_succ])
            refine wpAnyF_take (i := 5) (oi := _) (v := ?_) rfl (by kernel_rfl) (by kernel_rfl) (by kernel_rfl) (by kernel_rfl) (fun _ _ _ h => h) (Or.inl ⟨by rfl, ?_⟩) (by assumption) ?_
            rotate_left 1
            · intro w hSw
              (try dsimp only at hSw)
              have hCQ := HCQ.out w hSw
              (first | (go_simp; done) | (go_simp; with_reducible rfl))
            (try simp only [Act.put, List.getElem_toArray, List.getElem_cons_succ, List.getElem_cons_zero, List.setIfInBounds_toArray, List.set_cons_zero, List.set_cons_succ])
            refine wpAnyF_ready (rs := [6]) (by kernel_rfl) (by simp) ?_
            refine AllReadyF.cons (o := _) rfl (fun K hK => ?_) AllReadyF.nil
            go_simp
            (go_at_call 23)
            ((with_reducible refine (HPG2.out _ hHeld).mono ?_))
            rintro e w7 ⟨A7, c7, rfl, hb7, hx7, hz7⟩
            have HX := Lib.hid hx7
            have HB7 := Lib.hid (hHeld.trans (hb7.mono hHeld.size))
            clear hx7 hb7 hz7
            refine hK.out _ _ (HB7.out) (fun hHeld6 => ?_)
            clear hK K
            (try simp only [Act.put, List.getElem_toArray, List.getElem_cons_succ, List.getElem_cons_zero, List.setIfInBounds_toArray, List.set_cons_zero, List.set_cons_succ])
            refine wpAnyF_take (i := 9) (oi := _) (v := ?_) rfl (by kernel_rfl) (by kernel_rfl) (by kernel_rfl) (by kernel_rfl) (fun _ _ _ h => h) (Or.inl ⟨by rfl, ?_⟩) (by assumption) ?_
            rotate_left 1
            · intro w hSw
              (try dsimp only at hSw)
              have hCQ := HCQ.out w hSw
              (first | (go_simp; done) | (go_simp; with_reducible rfl))
            (try simp only [Act.put, List.getElem_toArray, List.getElem_cons_succ, List.getElem_cons_zero, List.setIfInBounds_toArray, List.set_cons_zero, List.set_cons_succ])
            refine wpAnyF_take (i := 10) (oi := _) (v := ?_) rfl (by kernel_rfl) (by kernel_rfl) (by kernel_rfl) (by kernel_rfl) (fun _ _ _ h => h) (Or.inl ⟨by rfl, ?_⟩) (by assumption) ?_
            rotate_left 1
            · intro w hSw
              (try dsimp only at hSw)
              have hCQ := HCQ.out w hSw
              (first | (go_simp; done) | (go_simp; with_reducible rfl))
            (try simp only [Act.put, List.getElem_toArray, List.getElem_cons_succ, List.getElem_cons_zero, List.setIfInBounds_toArray, List.set_cons_zero, List.set_cons_succ])
            refine wpAnyF_ready (rs := [7]) (by kernel_rfl) (by simp) ?_
            refine AllReadyF.cons (o := _) rfl (fun K hK => ?_) AllReadyF.nil
            have hC7 := conv_at HX.out
            go_simp
            refine hK.out _ _ (HB7.out) (fun hHeld7 => ?_)
            clear hK K
            (try simp only [Act.put, List.getElem_toArray, List.getElem_cons_succ, List.getElem_cons_zero, List.setIfInBounds_toArray, List.set_cons_zero, List.set_cons_succ])
            refine wpAnyF_take (i := 8) (oi := _) (v := ?_) rfl (by kernel_rfl) (by kernel_rfl) (by kernel_rfl) (by kernel_rfl) (fun _ _ _ h => h) (Or.inl ⟨by rfl, ?_⟩) (by assumption) ?_
            rotate_left 1
            · intro w hSw
              (try dsimp only at hSw)
              have hCQ := HCQ.out w hSw
              (first | (go_simp; done) | (go_simp; with_reducible rfl))
            (try simp only [Act.put, List.getElem_toArray, List.getElem_cons_succ, List.getElem_cons_zero, List.setIfInBounds_toArray, List.set_cons_zero, List.set_cons_succ])
            refine wpAnyF_take (i := 11) (oi := _) (v := ?_) rfl (by kernel_rfl) (by kernel_rfl) (by kernel_rfl) (by kernel_rfl) (fun _ _ _ h => h) (Or.inl ⟨by rfl, ?_⟩) (by assumption) ?_
            rotate_left 1
            · intro w hSw
              (try dsimp only at hSw)
              have hCQ := HCQ.out w hSw
              (first | (go_simp; done) | (go_simp; with_reducible rfl))
            (try simp only [Act.put, List.getElem_toArray, List.getElem_cons_succ, List.getElem_cons_zero, List.setIfInBounds_toArray, List.set_cons_zero, List.set_cons_succ])
            refine wpAnyF_done (by kernel_rfl) ?_ _
            go_wp2_with fail
            go_ret3
            exact HF.out _ HB7.out
  · have h1I : (130 : Int) < (nb : Int) := by omega
    have h130c : 130 ≤ cb := by omega
    cases hh : hasO l K
    · skip
      go_enter Tryd.func8, Tryd.ntmps8
      go_wp2_with fail
      refine HRZ.out.mono ?_
      rintro e w1 ⟨hb1, (⟨hx, rfl⟩ | ⟨h, _⟩ | ⟨h, _⟩)⟩
      · have HB1 := Lib.hid hb1
        have HTQ : Hid (∀ m, Calls Tryd.prog 18 #[.slice A S cl, .int .i64 K] (w1.drewN m) fun e w' => e = .returned (.bool (hasO l K)) ∧ w' = w1.drewN m) := Lib.hid (fun m => (HTH.out (w1.drewN m) (below_drewN HB1.out m)).mono fun _ _ h => ⟨h.1, h.2.symm⟩)
        have HSQ : Hid (∀ m, Calls Tryd.prog 20 #[.int .i64 (k : Int)] (w1.drewN m) fun e w' => e = .returned (.int .i64 (zz : Int)) ∧ w' = w1.drewN m) := Lib.hid (fun m => (HSZ.out (w1.drewN m) (below_drewN HB1.out m)).mono fun _ _ h => ⟨h.1, h.2.symm⟩)
        have hcm : ∀ m, (convert 23 9 (.slice (some ⟨b, q, none⟩) 256 c)).run Tryd.prog (w1.drewN m) = .ok (.string sp) (w1.drewN m) := fun m => HCV.out _ (below_drewN HB1.out m)
        have HT3 := Lib.hid (fun m => HTH.out (w1.drewN m) (below_drewN HB1.out m))
        have HF := Lib.hid (fun m => HST.out (w1.drewN m) (below_drewN HB1.out m))
        obtain ⟨y0, y1, y2, y3, y4, y5⟩ := HBC.out w1 hb1
        rw [hh] at HTQ HT3
        clear HTH HWI HPD HSN HPG HEQ HCV hb1 HRZ HST hx hh
        go_upto_region 31 with (fail)
        go_quiet (first | with_reducible exact Calls.quiet_of_same (HTQ.out _) | with_reducible exact Calls.quiet_of_same (HSQ.out _))
        go_wp2_with fail
        refine (HT3.out _).mono ?_
        rintro e w2 ⟨rfl, rfl⟩
        go_wp2_with fail
        go_ret3
        exact HF.out _
      · rw [hh] at h; cases h
      · rw [hh] at h; cases h
    · by_cases c3 : N < 1
      · skip
        have hft : holdsB z N = false := by
          have := HZ6.out
          unfold holdsB; rw [decide_eq_false_iff_not]; omega
        go_enter Tryd.func8, Tryd.ntmps8
        go_wp2_with fail
        refine HRZ.out.mono ?_
        rintro e w1 ⟨hb1, (⟨h, _⟩ | ⟨hx, hy, rfl⟩ | ⟨_, h, _⟩)⟩
        · rw [hh] at h; cases h
        · have HB1 := Lib.hid hb1
          have HTQ : Hid (∀ m, Calls Tryd.prog 18 #[.slice A S cl, .int .i64 K] (w1.drewN m) fun e w' => e = .returned (.bool (hasO l K)) ∧ w' = w1.drewN m) := Lib.hid (fun m => (HTH.out (w1.drewN m) (below_drewN HB1.out m)).mono fun _ _ h => ⟨h.1, h.2.symm⟩)
          have HSQ : Hid (∀ m, Calls Tryd.prog 20 #[.int .i64 (k : Int)] (w1.drewN m) fun e w' => e = .returned (.int .i64 (zz : Int)) ∧ w' = w1.drewN m) := Lib.hid (fun m => (HSZ.out (w1.drewN m) (below_drewN HB1.out m)).mono fun _ _ h => ⟨h.1, h.2.symm⟩)
          have hcm : ∀ m, (convert 23 9 (.slice (some ⟨b, q, none⟩) 256 c)).run Tryd.prog (w1.drewN m) = .ok (.string sp) (w1.drewN m) := fun m => HCV.out _ (below_drewN HB1.out m)
          have HF := Lib.hid (fun m => HST.out (w1.drewN m) (below_drewN HB1.out m))
          obtain ⟨y0, y1, y2, y3, y4, y5⟩ := HBC.out w1 hb1
          rw [hh] at HTQ
          clear HTH HWI HPD HSN HPG HEQ HCV hb1 HRZ HST hx hy hh hft
          go_upto_region 31 with (fail)
          go_quiet (first | with_reducible exact Calls.quiet_of_same (HTQ.out _) | with_reducible exact Calls.quiet_of_same (HSQ.out _))
          go_wp2_with fail
          go_ret3
          exact HF.out _
        · rw [hft] at h; cases h
      · by_cases c4 : (zz : Int) < N
        · skip
          have hft : holdsB z N = false := by
            have := HZ6.out
            unfold holdsB; rw [decide_eq_false_iff_not]; omega
          go_enter Tryd.func8, Tryd.ntmps8
          go_wp2_with fail
          refine HRZ.out.mono ?_
          rintro e w1 ⟨hb1, (⟨h, _⟩ | ⟨hx, hy, rfl⟩ | ⟨_, h, _⟩)⟩
          · rw [hh] at h; cases h
          · have HB1 := Lib.hid hb1
            have HTQ : Hid (∀ m, Calls Tryd.prog 18 #[.slice A S cl, .int .i64 K] (w1.drewN m) fun e w' => e = .returned (.bool (hasO l K)) ∧ w' = w1.drewN m) := Lib.hid (fun m => (HTH.out (w1.drewN m) (below_drewN HB1.out m)).mono fun _ _ h => ⟨h.1, h.2.symm⟩)
            have HSQ : Hid (∀ m, Calls Tryd.prog 20 #[.int .i64 (k : Int)] (w1.drewN m) fun e w' => e = .returned (.int .i64 (zz : Int)) ∧ w' = w1.drewN m) := Lib.hid (fun m => (HSZ.out (w1.drewN m) (below_drewN HB1.out m)).mono fun _ _ h => ⟨h.1, h.2.symm⟩)
            have hcm : ∀ m, (convert 23 9 (.slice (some ⟨b, q, none⟩) 256 c)).run Tryd.prog (w1.drewN m) = .ok (.string sp) (w1.drewN m) := fun m => HCV.out _ (below_drewN HB1.out m)
            have HF := Lib.hid (fun m => HST.out (w1.drewN m) (below_drewN HB1.out m))
            obtain ⟨y0, y1, y2, y3, y4, y5⟩ := HBC.out w1 hb1
            rw [hh] at HTQ
            clear HTH HWI HPD HSN HPG HEQ HCV hb1 HRZ HST hx hy hh hft
            go_upto_region 31 with (fail)
            go_quiet (first | with_reducible exact Calls.quiet_of_same (HTQ.out _) | with_reducible exact Calls.quiet_of_same (HSQ.out _))
            go_wp2_with fail
            go_ret3
            exact HF.out _
          · rw [hft] at h; cases h
        · skip
          have hft : holdsB z N = true := by
            have := HZ6.out
            unfold holdsB; rw [decide_eq_true_iff]; omega
          have hat2 := hasO_at hh
          obtain ⟨kk, rfl⟩ : ∃ kk : Nat, K = (kk : Int) := ⟨K.toNat, by omega⟩
          obtain ⟨nn, rfl⟩ : ∃ nn : Nat, N = (nn : Int) := ⟨N.toNat, by omega⟩
          have HKK : Hid (kk < S) := Lib.hid (by have := HLEN.out; omega)
          have hnn1 : 1 ≤ nn := by omega
          have hnn2 : nn ≤ 120 := by omega
          have HD3 : Hid (decide (((nn : Nat) : Int) < 1) = false) := Lib.hid (decide_eq_false (by omega))
          have HD4 : Hid (decide (zz < nn) = false) := Lib.hid (decide_eq_false (by omega))
          clear hat2
          go_enter Tryd.func8, Tryd.ntmps8
          go_wp2_with fail
          refine HRZ.out.mono ?_
          rintro e w1 ⟨hb1, (⟨h, _⟩ | ⟨_, h, _⟩ | ⟨hx, hy, h, cc, rfl, hbs, hok⟩)⟩
          · rw [hh] at h; cases h
          · rw [hft] at h; cases h
          · rw [Int.toNat_natCast] at hbs hok
            rw [Int.toNat_natCast] at hbs hok
            have HB1 := Lib.hid hb1
            have HTQ : Hid (∀ m, Calls Tryd.prog 18 #[.slice A S cl, .int .i64 (kk : Int)] (w1.drewN m) fun e w' => e = .returned (.bool (hasO l (kk : Int))) ∧ w' = w1.drewN m) := Lib.hid (fun m => (HTH.out (w1.drewN m) (below_drewN HB1.out m)).mono fun _ _ h => ⟨h.1, h.2.symm⟩)
            have HSQ : Hid (∀ m, Calls Tryd.prog 20 #[.int .i64 (k : Int)] (w1.drewN m) fun e w' => e = .returned (.int .i64 (zz : Int)) ∧ w' = w1.drewN m) := Lib.hid (fun m => (HSZ.out (w1.drewN m) (below_drewN HB1.out m)).mono fun _ _ h => ⟨h.1, h.2.symm⟩)
            have hcm : ∀ m, (convert 23 9 (.slice (some ⟨b, q, none⟩) 256 c)).run Tryd.prog (w1.drewN m) = .ok (.string sp) (w1.drewN m) := fun m => HCV.out _ (below_drewN HB1.out m)
            have HT3 := Lib.hid (fun m => HTH.out (w1.drewN m) (below_drewN HB1.out m))
            have HBM := Lib.hid (fun m => below_drewN HB1.out m)
            have HQ2 := Lib.hid (fun m => (hbs.below (below_drewN (Below.refl w1.heap.size w1) m)).more (below_drewN (Below.refl w1.heap.size w1) m).size)
            have HOK := Lib.hid hok
            obtain ⟨y0, y1, y2, y3, y4, y5⟩ := HBC.out w1 hb1
            rw [hh] at HTQ HT3
            clear HTH hcm hb1 HRZ hx hy hh hft hbs hok HST
            go_upto_region 31 with (fail)
            go_quiet (first | with_reducible exact Calls.quiet_of_same (HTQ.out _) | with_reducible exact Calls.quiet_of_same (HSQ.out _))
            simp only [HD3.out, HD4.out, Bool.or_false, Bool.true_and, Bool.and_false]
            clear c3 c4
            go_wp2_with fail
            refine (HT3.out _).mono ?_
            rintro e w2 ⟨rfl, rfl⟩
            have HB3 := Lib.hid (HBM.out nq)
            have HQ3 := Lib.hid (HQ2.out nq)
            clear HBM HQ2 HSQ HTQ HT3
            generalize w1.drewN nq = w3 at *
            clear y0 y1 y2 y3 y4 y5
            obtain ⟨bo, o, A1, c1, rfl, hb0, q0, q1, q2, q3⟩ := HP.out.ob.at_ HKK.out
            have HO3 : Hid (∀ w', Below w3.heap.size w3 w' → w'.cell? ⟨bo, o + kk * 2, none⟩ = some (.int .u64 (((oAt l kk).1 : Nat) : Int)) ∧ w'.cell? ⟨bo, o + kk * 2 + 1, none⟩ = some (.slice A1 (oAt l kk).2.length c1)) := Lib.hid (fun w' h => by
              have hbw := HB3.out.trans (h.mono HB3.out.size)
              exact ⟨(hbw.cell (p := ⟨bo, o + kk * 2, none⟩) hb0).trans q0, (hbw.cell (p := ⟨bo, o + kk * 2 + 1, none⟩) hb0).trans q1⟩)
            have HQD := Lib.hid q2
            have HL9 : Hid ((oAt l kk).2.length ≤ 1000) := Lib.hid (by have := HLG.out kk; omega)
            have HKS := HKK.out
            clear q0 q1 q2 q3 hb0
            generalize (oAt l kk).1 = sv at *
            generalize (oAt l kk).2 = dv at *
            generalize dv.length = dn at *
            go_upto_region 35 with (fail)
            refine wp_region_F (S := (fun w' => Below w3.heap.size w3 w')) [] (by kernel_rfl) ((Below.refl _ _).drew) (fun hHeld => ?_)
            (try simp only [Act.put, List.getElem_toArray, List.getElem_cons_succ, List.getElem_cons_zero, List.setIfInBounds_toArray, List.set_cons_zero, List.set_cons_succ])
            refine wpAnyF_take (i := 0) (oi := _) (v := ?_) rfl (by kernel_rfl) (by kernel_rfl) (by kernel_rfl) (by kernel_rfl) (fun _ _ _ h => h) (Or.inl ⟨by rfl, ?_⟩) (by assumption) ?_
            rotate_left 1
            · intro w hSw
              (try dsimp only at hSw)
              obtain ⟨y0, y1, y2, y3, y4, y5⟩ := HBC.out w (HB3.out.trans (hSw.mono HB3.out.size))
              obtain ⟨u0, u1⟩ := HO3.out w hSw
              (first | (go_simp; done) | (go_simp; with_reducible rfl))
            (try simp only [Act.put, List.getElem_toArray, List.getElem_cons_succ, List.getElem_cons_zero, List.setIfInBounds_toArray, List.set_cons_zero, List.set_cons_succ])
            refine wpAnyF_take (i := 1) (oi := _) (v := ?_) rfl (by kernel_rfl) (by kernel_rfl) (by kernel_rfl) (by kernel_rfl) (fun _ _ _ h => h) (Or.inl ⟨by rfl, ?_⟩) (by assumption) ?_
            rotate_left 1
            · intro w hSw
              (try dsimp only at hSw)
              obtain ⟨y0, y1, y2, y3, y4, y5⟩ := HBC.out w (HB3.out.trans (hSw.mono HB3.out.size))
              obtain ⟨u0, u1⟩ := HO3.out w hSw
              (first | (go_simp; done) | (go_simp; with_reducible rfl))
            (try simp only [Act.put, List.getElem_toArray, List.getElem_cons_succ, List.getElem_cons_zero, List.setIfInBounds_toArray, List.set_cons_zero, List.set_cons_succ])
            refine wpAnyF_take (i := 2) (oi := _) (v := ?_) rfl (by kernel_rfl) (by kernel_rfl) (by kernel_rfl) (by kernel_rfl) (fun _ _ _ h => h) (Or.inl ⟨by rfl, ?_⟩) (by assumption) ?_
            rotate_left 1
            · intro w hSw
              (try dsimp only at hSw)
              obtain ⟨y0, y1, y2, y3, y4, y5⟩ := HBC.out w (HB3.out.trans (hSw.mono HB3.out.size))
              obtain ⟨u0, u1⟩ := HO3.out w hSw
              (first | (go_simp; done) | (go_simp; with_reducible rfl))
            (try simp only [Act.put, List.getElem_toArray, List.getElem_cons_succ, List.getElem_cons_zero, List.setIfInBounds_toArray, List.set_cons_zero, List.set_cons_succ])
            refine wpAnyF_take (i := 3) (oi := _) (v := ?_) rfl (by kernel_rfl) (by kernel_rfl) (by kernel_rfl) (by kernel_rfl) (fun _ _ _ h => h) (Or.inl ⟨by rfl, ?_⟩) (by assumption) ?_
            rotate_left 1
            · intro w hSw
              (try dsimp only at hSw)
              obtain ⟨y0, y1, y2, y3, y4, y5⟩ := HBC.out w (HB3.out.trans (hSw.mono HB3.out.size))
              obtain ⟨u0, u1⟩ := HO3.out w hSw
              (first | (go_simp; done) | (go_simp; with_reducible rfl))
            (try simp only [Act.put, List.getElem_toArray, List.getElem_cons_succ, List.getElem_cons_zero, List.setIfInBounds_toArray, List.set_cons_zero, List.set_cons_succ])
            refine wpAnyF_take (i := 4) (oi := _) (v := ?_) rfl (by kernel_rfl) (by kernel_rfl) (by kernel_rfl) (by kernel_rfl) (fun _ _ _ h => h) (Or.inl ⟨by rfl, ?_⟩) (by assumption) ?_
            rotate_left 1
            · intro w hSw
              (try dsimp only at hSw)
              obtain ⟨y0, y1, y2, y3, y4, y5⟩ := HBC.out w (HB3.out.trans (hSw.mono HB3.out.size))
              obtain ⟨u0, u1⟩ := HO3.out w hSw
              (first | (go_simp; done) | (go_simp; with_reducible rfl))
            (try simp only [Act.put, List.getElem_toArray, List.getElem_cons_succ, List.getElem_cons_zero, List.setIfInBounds_toArray, List.set_cons_zero, List.set_cons_succ])
            refine wpAnyF_take (i := 5) (oi := _) (v := ?_) rfl (by kernel_rfl) (by kernel_rfl) (by kernel_rfl) (by kernel_rfl) (fun _ _ _ h => h) (Or.inl ⟨by rfl, ?_⟩) (by assumption) ?_
            rotate_left 1
            · intro w hSw
              (try dsimp only at hSw)
              obtain ⟨y0, y1, y2, y3, y4, y5⟩ := HBC.out w (HB3.out.trans (hSw.mono HB3.out.size))
              obtain ⟨u0, u1⟩ := HO3.out w hSw
              (first | (go_simp; done) | (go_simp; with_reducible rfl))
            (try simp only [Act.put, List.getElem_toArray, List.getElem_cons_succ, List.getElem_cons_zero, List.setIfInBounds_toArray, List.set_cons_zero, List.set_cons_succ])
            refine wpAnyF_take (i := 6) (oi := _) (v := ?_) rfl (by kernel_rfl) (by kernel_rfl) (by kernel_rfl) (by kernel_rfl) (fun _ _ _ h => h) (Or.inl ⟨by rfl, ?_⟩) (by assumption) ?_
            rotate_left 1
            · intro w hSw
              (try dsimp only at hSw)
              obtain ⟨y0, y1, y2, y3, y4, y5⟩ := HBC.out w (HB3.out.trans (hSw.mono HB3.out.size))
              obtain ⟨u0, u1⟩ := HO3.out w hSw
              (first | (go_simp; done) | (go_simp; with_reducible rfl))
            (try simp only [Act.put, List.getElem_toArray, List.getElem_cons_succ, List.getElem_cons_zero, List.setIfInBounds_toArray, List.set_cons_zero, List.set_cons_succ])
            refine wpAnyF_take (i := 7) (oi := _) (v := ?_) rfl (by kernel_rfl) (by kernel_rfl) (by kernel_rfl) (by kernel_rfl) (fun _ _ _ h => h) (Or.inl ⟨by rfl, ?_⟩) (by assumption) ?_
            rotate_left 1
            · intro w hSw
              (try dsimp only at hSw)
              obtain ⟨y0, y1, y2, y3, y4, y5⟩ := HBC.out w (HB3.out.trans (hSw.mono HB3.out.size))
              obtain ⟨u0, u1⟩ := HO3.out w hSw
              (first | (go_simp; done) | (go_simp; with_reducible rfl))
            (try simp only [Act.put, List.getElem_toArray, List.getElem_cons_succ, List.getElem_cons_zero, List.setIfInBounds_toArray, List.set_cons_zero, List.set_cons_succ])
            refine wpAnyF_take (i := 8) (oi := _) (v := ?_) rfl (by kernel_rfl) (by kernel_rfl) (by kernel_rfl) (by kernel_rfl) (fun _ _ _ h => h) (Or.inl ⟨by rfl, ?_⟩) (by assumption) ?_
            rotate_left 1
            · intro w hSw
              (try dsimp only at hSw)
              obtain ⟨y0, y1, y2, y3, y4, y5⟩ := HBC.out w (HB3.out.trans (hSw.mono HB3.out.size))
              obtain ⟨u0, u1⟩ := HO3.out w hSw
              (first | (go_simp; done) | (go_simp; with_reducible rfl))
            (try simp only [Act.put, List.getElem_toArray, List.getElem_cons_succ, List.getElem_cons_zero, List.setIfInBounds_toArray, List.set_cons_zero, List.set_cons_succ])
            refine wpAnyF_take (i := 9) (oi := _) (v := ?_) rfl (by kernel_rfl) (by kernel_rfl) (by kernel_rfl) (by kernel_rfl) (fun _ _ _ h => h) (Or.inl ⟨by rfl, ?_⟩) (by assumption) ?_
            rotate_left 1
            · intro w hSw
              (try dsimp only at hSw)
              obtain ⟨y0, y1, y2, y3, y4, y5⟩ := HBC.out w (HB3.out.trans (hSw.mono HB3.out.size))
              obtain ⟨u0, u1⟩ := HO3.out w hSw
              (first | (go_simp; done) | (go_simp; with_reducible rfl))
            (try simp only [Act.put, List.getElem_toArray, List.getElem_cons_succ, List.getElem_cons_zero, List.setIfInBounds_toArray, List.set_cons_zero, List.set_cons_succ])
            refine wpAnyF_take (i := 10) (oi := _) (v := ?_) rfl (by kernel_rfl) (by kernel_rfl) (by kernel_rfl) (by kernel_rfl) (fun _ _ _ h => h) (Or.inl ⟨by rfl, ?_⟩) (by assumption) ?_
            rotate_left 1
            · intro w hSw
              (try dsimp only at hSw)
              obtain ⟨y0, y1, y2, y3, y4, y5⟩ := HBC.out w (HB3.out.trans (hSw.mono HB3.out.size))
              obtain ⟨u0, u1⟩ := HO3.out w hSw
              (first | (go_simp; done) | (go_simp; with_reducible rfl))
            (try simp only [Act.put, List.getElem_toArray, List.getElem_cons_succ, List.getElem_cons_zero, List.setIfInBounds_toArray, List.set_cons_zero, List.set_cons_succ])
            refine wpAnyF_take (i := 11) (oi := _) (v := ?_) rfl (by kernel_rfl) (by kernel_rfl) (by kernel_rfl) (by kernel_rfl) (fun _ _ _ h => h) (Or.inl ⟨by rfl, ?_⟩) (by assumption) ?_
            rotate_left 1
            · intro w hSw
              (try dsimp only at hSw)
              obtain ⟨y0, y1, y2, y3, y4, y5⟩ := HBC.out w (HB3.out.trans (hSw.mono HB3.out.size))
              obtain ⟨u0, u1⟩ := HO3.out w hSw
              (first | (go_simp; done) | (go_simp; with_reducible rfl))
            (try simp only [Act.put, List.getElem_toArray, List.getElem_cons_succ, List.getElem_cons_zero, List.setIfInBounds_toArray, List.set_cons_zero, List.set_cons_succ])
            refine wpAnyF_take (i := 12) (oi := _) (v := ?_) rfl (by kernel_rfl) (by kernel_rfl) (by kernel_rfl) (by kernel_rfl) (fun _ _ _ h => h) (Or.inl ⟨by rfl, ?_⟩) (by assumption) ?_
            rotate_left 1
            · intro w hSw
              (try dsimp only at hSw)
              obtain ⟨y0, y1, y2, y3, y4, y5⟩ := HBC.out w (HB3.out.trans (hSw.mono HB3.out.size))
              obtain ⟨u0, u1⟩ := HO3.out w hSw
              (first | (go_simp; done) | (go_simp; with_reducible rfl))
            (try simp only [Act.put, List.getElem_toArray, List.getElem_cons_succ, List.getElem_cons_zero, List.setIfInBounds_toArray, List.set_cons_zero, List.set_cons_succ])
            refine wpAnyF_take (i := 13) (oi := _) (v := ?_) rfl (by kernel_rfl) (by kernel_rfl) (by kernel_rfl) (by kernel_rfl) (fun _ _ _ h => h) (Or.inl ⟨by rfl, ?_⟩) (by assumption) ?_
            rotate_left 1
            · intro w hSw
              (try dsimp only at hSw)
              obtain ⟨y0, y1, y2, y3, y4, y5⟩ := HBC.out w (HB3.out.trans (hSw.mono HB3.out.size))
              obtain ⟨u0, u1⟩ := HO3.out w hSw
              (first | (go_simp; done) | (go_simp; with_reducible rfl))
            (try simp only [Act.put, List.getElem_toArray, List.getElem_cons_succ, List.getElem_cons_zero, List.setIfInBounds_toArray, List.set_cons_zero, List.set_cons_succ])
            refine wpAnyF_take (i := 14) (oi := _) (v := ?_) rfl (by kernel_rfl) (by kernel_rfl) (by kernel_rfl) (by kernel_rfl) (fun _ _ _ h => h) (Or.inl ⟨by rfl, ?_⟩) (by assumption) ?_
            rotate_left 1
            · intro w hSw
              (try dsimp only at hSw)
              obtain ⟨y0, y1, y2, y3, y4, y5⟩ := HBC.out w (HB3.out.trans (hSw.mono HB3.out.size))
              obtain ⟨u0, u1⟩ := HO3.out w hSw
              (first | (go_simp; done) | (go_simp; with_reducible rfl))
            (try simp only [Act.put, List.getElem_toArray, List.getElem_cons_succ, List.getElem_cons_zero, List.setIfInBounds_toArray, List.set_cons_zero, List.set_cons_succ])
            refine wpAnyF_take (i := 15) (oi := _) (v := ?_) rfl (by kernel_rfl) (by kernel_rfl) (by kernel_rfl) (by kernel_rfl) (fun _ _ _ h => h) (Or.inl ⟨by rfl, ?_⟩) (by assumption) ?_
            rotate_left 1
            · intro w hSw
              (try dsimp only at hSw)
              obtain ⟨y0, y1, y2, y3, y4, y5⟩ := HBC.out w (HB3.out.trans (hSw.mono HB3.out.size))
              obtain ⟨u0, u1⟩ := HO3.out w hSw
              (first | (go_simp; done) | (go_simp; with_reducible rfl))
            (try simp only [Act.put, List.getElem_toArray, List.getElem_cons_succ, List.getElem_cons_zero, List.setIfInBounds_toArray, List.set_cons_zero, List.set_cons_succ])
            refine wpAnyF_take (i := 16) (oi := _) (v := ?_) rfl (by kernel_rfl) (by kernel_rfl) (by kernel_rfl) (by kernel_rfl) (fun _ _ _ h => h) (Or.inl ⟨by rfl, ?_⟩) (by assumption) ?_
            rotate_left 1
            · intro w hSw
              (try dsimp only at hSw)
              obtain ⟨y0, y1, y2, y3, y4, y5⟩ := HBC.out w (HB3.out.trans (hSw.mono HB3.out.size))
              obtain ⟨u0, u1⟩ := HO3.out w hSw
              (first | (go_simp; done) | (go_simp; with_reducible rfl))
            (try simp only [Act.put, List.getElem_toArray, List.getElem_cons_succ, List.getElem_cons_zero, List.setIfInBounds_toArray, List.set_cons_zero, List.set_cons_succ])
            refine wpAnyF_ready (rs := [17]) (by kernel_rfl) (by simp) ?_
            refine AllReadyF.cons (o := _) rfl (fun K hK => ?_) AllReadyF.nil
            go_simp
            (go_at_call 25)
            ((with_reducible refine (HPD.out _ (HB3.out.trans (hHeld.mono HB3.out.size)) _ _ _ dv ((HQD.out.below (HB3.out.trans (hHeld.mono HB3.out.size))).more (HB3.out.trans (hHeld.mono HB3.out.size)).size) HL9.out nn hnn1 (by omega)).mono ?_))
            rintro e w5 ⟨A5, c5, rfl, hb5, hx5, hz5⟩
            have HB5w := Lib.hid (hHeld.trans (hb5.mono hHeld.size))
            have HX5 := Lib.hid hx5
            have HZ5 := Lib.hid hz5
            clear hb5 hx5 hz5
            refine hK.out _ _ (HB5w.out) (fun hHeld17 => ?_)
            clear hK K
            (try simp only [Act.put, List.getElem_toArray, List.getElem_cons_succ, List.getElem_cons_zero, List.setIfInBounds_toArray, List.set_cons_zero, List.set_cons_succ])
            refine wpAnyF_take (i := 18) (oi := _) (v := ?_) rfl (by kernel_rfl) (by kernel_rfl) (by kernel_rfl) (by kernel_rfl) (fun _ _ _ h => h) (Or.inl ⟨by rfl, ?_⟩) (by assumption) ?_
            rotate_left 1
            · intro w hSw
              (try dsimp only at hSw)
              obtain ⟨y0, y1, y2, y3, y4, y5⟩ := HBC.out w (HB3.out.trans (hSw.mono HB3.out.size))
              (first | (go_simp; done) | (go_simp; with_reducible rfl))
            (try simp only [Act.put, List.getElem_toArray, List.getElem_cons_succ, List.getElem_cons_zero, List.setIfInBounds_toArray, List.set_cons_zero, List.set_cons_succ])
            refine wpAnyF_ready (rs := [19]) (by kernel_rfl) (by simp) ?_
            refine AllReadyF.cons (o := _) rfl (fun K hK => ?_) AllReadyF.nil
            go_simp
            (go_at_call 24)
            ((with_reducible refine (HWI.out _ (HB3.out.trans (HB5w.out.mono HB3.out.size)) kk sv (padL dv nn) nn c5 HKK.out A5 HX5.out HZ5.out).mono ?_))
            rintro e w4 ⟨g, cap, rfl, hov, hb4⟩
            have HB4w := Lib.hid (HB5w.out.trans (hb4.mono HB5w.out.size))
            have HM := Lib.hid hov
            clear hov hb4
            refine hK.out _ _ (HB4w.out) (fun hHeld19 => ?_)
            clear hK K
            (try simp only [Act.put, List.getElem_toArray, List.getElem_cons_succ, List.getElem_cons_zero, List.setIfInBounds_toArray, List.set_cons_zero, List.set_cons_succ])
            refine wpAnyF_take (i := 20) (oi := _) (v := ?_) rfl (by kernel_rfl) (by kernel_rfl) (by kernel_rfl) (by kernel_rfl) (fun _ _ _ h => h) (Or.inl ⟨by rfl, ?_⟩) (by assumption) ?_
            rotate_left 1
            · intro w hSw
              (try dsimp only at hSw)
              obtain ⟨y0, y1, y2, y3, y4, y5⟩ := HBC.out w (HB3.out.trans (hSw.mono HB3.out.size))
              (first | (go_simp; done) | (go_simp; with_reducible rfl))
            (try simp only [Act.put, List.getElem_toArray, List.getElem_cons_succ, List.getElem_cons_zero, List.setIfInBounds_toArray, List.set_cons_zero, List.set_cons_succ])
            refine wpAnyF_done (by kernel_rfl) ?_ _
            have HB4 := Lib.hid (HB3.out.trans (HB4w.out.mono HB3.out.size))
            have HQ4 := Lib.hid ((HQ3.out.below HB4w.out).more HB4w.out.size)
            clear HB3 HQ3 HB4w HSZ HWI HPD
            have HF : Hid (∀ w', Below w4.heap.size w4 w' → StTo w z S (.returned (.tuple #[.slice (some ⟨h, 0, none⟩) 256 cc, .slice (some ⟨g, 0, none⟩) S cap, .bool true])) w') := Lib.hid (fun w' h => HSN.out w' _ _ _ _ _ _ (HB4.out.trans (h.mono HB4.out.size)) ⟨HOK.out, HM.out.below h, (HQ4.out.below h).more h.size⟩)
            have HPG2 := Lib.hid (fun w' (h : Below w4.heap.size w4 w') => HPG.out w' (HB4.out.trans (h.mono HB4.out.size)) (some ⟨g, 0, none⟩) cap _ (HM.out.below h) HOK.out)
            have hc3 := HCV.out w4 HB4.out
            have HCQ := Lib.hid (fun w' (h : Below w4.heap.size w4 w') => conv_at (HQ4.out.below h))
            try clear HST
            clear HSN HPG HEQ HCV
            generalize pageO z (l.set kk (sv, padL dv nn)) = pg2 at *
            go_upto_region 50 with (fail)
            refine wp_region_F (S := (fun w' => Below w4.heap.size w4 w')) [] (by kernel_rfl) ((Below.refl _ _).drew) (fun hHeld => ?_)
            (try simp only [Act.put, List.getElem_toArray, List.getElem_cons_succ, List.getElem_cons_zero, List.setIfInBounds_toArray, List.set_cons_zero, List.set_cons_succ])
            refine wpAnyF_take (i := 0) (oi := _) (v := ?_) rfl (by kernel_rfl) (by kernel_rfl) (by kernel_rfl) (by kernel_rfl) (fun _ _ _ h => h) (Or.inl ⟨by rfl, ?_⟩) (by assumption) ?_
            rotate_left 1
            · intro w hSw
              (try dsimp only at hSw)
              have hCQ := HCQ.out w hSw
              (first | (go_simp; done) | (go_simp; with_reducible rfl))
            (try simp only [Act.put, List.getElem_toArray, List.getElem_cons_succ, List.getElem_cons_zero, List.setIfInBounds_toArray, List.set_cons_zero, List.set_cons_succ])
            refine wpAnyF_take (i := 1) (oi := _) (v := ?_) rfl (by kernel_rfl) (by kernel_rfl) (by kernel_rfl) (by kernel_rfl) (fun _ _ _ h => h) (Or.inl ⟨by rfl, ?_⟩) (by assumption) ?_
            rotate_left 1
            · intro w hSw
              (try dsimp only at hSw)
              have hCQ := HCQ.out w hSw
              (first | (go_simp; done) | (go_simp; with_reducible rfl))
            (try simp only [Act.put, List.getElem_toArray, List.getElem_cons_succ, List.getElem_cons_zero, List.setIfInBounds_toArray, List.set_cons_zero, List.set_cons_succ])
            refine wpAnyF_take (i := 2) (oi := _) (v := ?_) rfl (by kernel_rfl) (by kernel_rfl) (by kernel_rfl) (by kernel_rfl) (fun _ _ _ h => h) (Or.inl ⟨by rfl, ?_⟩) (by assumption) ?_
            rotate_left 1
            · intro w hSw
              (try dsimp only at hSw)
              have hCQ := HCQ.out w hSw
              (first | (go_simp; done) | (go_simp; with_reducible rfl))
            (try simp only [Act.put, List.getElem_toArray, List.getElem_cons_succ, List.getElem_cons_zero, List.setIfInBounds_toArray, List.set_cons_zero, List.set_cons_succ])
            refine wpAnyF_take (i := 3) (oi := _) (v := ?_) rfl (by kernel_rfl) (by kernel_rfl) (by kernel_rfl) (by kernel_rfl) (fun _ _ _ h => h) (Or.inl ⟨by rfl, ?_⟩) (by assumption) ?_
            rotate_left 1
            · intro w hSw
              (try dsimp only at hSw)
              have hCQ := HCQ.out w hSw
              (first | (go_simp; done) | (go_simp; with_reducible rfl))
            (try simp only [Act.put, List.getElem_toArray, List.getElem_cons_succ, List.getElem_cons_zero, List.setIfInBounds_toArray, List.set_cons_zero, List.set_cons_succ])
            refine wpAnyF_take (i := 4) (oi := _) (v := ?_) rfl (by kernel_rfl) (by kernel_rfl) (by kernel_rfl) (by kernel_rfl) (fun _ _ _ h => h) (Or.inl ⟨by rfl, ?_⟩) (by assumption) ?_
            rotate_left 1
            · intro w hSw
              (try dsimp only at hSw)
              have hCQ := HCQ.out w hSw
              (first | (go_simp; done) | (go_simp; with_reducible rfl))
            (try simp only [Act.put, List.getElem_toArray, List.getElem_cons_succ, List.getElem_cons_zero, List.setIfInBounds_toArray, List.set_cons_zero, List.set_cons_succ])
            refine wpAnyF_take (i := 5) (oi := _) (v := ?_) rfl (by kernel_rfl) (by kernel_rfl) (by kernel_rfl) (by kernel_rfl) (fun _ _ _ h => h) (Or.inl ⟨by rfl, ?_⟩) (by assumption) ?_
            rotate_left 1
            · intro w hSw
              (try dsimp only at hSw)
              have hCQ := HCQ.out w hSw
              (first | (go_simp; done) | (go_simp; with_reducible rfl))
            (try simp only [Act.put, List.getElem_toArray, List.getElem_cons_succ, List.getElem_cons_zero, List.setIfInBounds_toArray, List.set_cons_zero, List.set_cons_succ])
            refine wpAnyF_ready (rs := [6]) (by kernel_rfl) (by simp) ?_
            refine AllReadyF.cons (o := _) rfl (fun K hK => ?_) AllReadyF.nil
            go_simp
            (go_at_call 23)
            ((with_reducible refine (HPG2.out _ hHeld).mono ?_))
            rintro e w7 ⟨A7, c7, rfl, hb7, hx7, hz7⟩
            have HX := Lib.hid hx7
            have HB7 := Lib.hid (hHeld.trans (hb7.mono hHeld.size))
            clear hx7 hb7 hz7
            refine hK.out _ _ (HB7.out) (fun hHeld6 => ?_)
            clear hK K
            (try simp only [Act.put, List.getElem_toArray, List.getElem_cons_succ, List.getElem_cons_zero, List.setIfInBounds_toArray, List.set_cons_zero, List.set_cons_succ])
            refine wpAnyF_take (i := 9) (oi := _) (v := ?_) rfl (by kernel_rfl) (by kernel_rfl) (by kernel_rfl) (by kernel_rfl) (fun _ _ _ h => h) (Or.inl ⟨by rfl, ?_⟩) (by assumption) ?_
            rotate_left 1
            · intro w hSw
              (try dsimp only at hSw)
              have hCQ := HCQ.out w hSw
              (first | (go_simp; done) | (go_simp; with_reducible rfl))
            (try simp only [Act.put, List.getElem_toArray, List.getElem_cons_succ, List.getElem_cons_zero, List.setIfInBounds_toArray, List.set_cons_zero, List.set_cons_succ])
            refine wpAnyF_take (i := 10) (oi := _) (v := ?_) rfl (by kernel_rfl) (by kernel_rfl) (by kernel_rfl) (by kernel_rfl) (fun _ _ _ h => h) (Or.inl ⟨by rfl, ?_⟩) (by assumption) ?_
            rotate_left 1
            · intro w hSw
              (try dsimp only at hSw)
              have hCQ := HCQ.out w hSw
              (first | (go_simp; done) | (go_simp; with_reducible rfl))
            (try simp only [Act.put, List.getElem_toArray, List.getElem_cons_succ, List.getElem_cons_zero, List.setIfInBounds_toArray, List.set_cons_zero, List.set_cons_succ])
            refine wpAnyF_ready (rs := [7]) (by kernel_rfl) (by simp) ?_
            refine AllReadyF.cons (o := _) rfl (fun K hK => ?_) AllReadyF.nil
            have hC7 := conv_at HX.out
            go_simp
            refine hK.out _ _ (HB7.out) (fun hHeld7 => ?_)
            clear hK K
            (try simp only [Act.put, List.getElem_toArray, List.getElem_cons_succ, List.getElem_cons_zero, List.setIfInBounds_toArray, List.set_cons_zero, List.set_cons_succ])
            refine wpAnyF_take (i := 8) (oi := _) (v := ?_) rfl (by kernel_rfl) (by kernel_rfl) (by kernel_rfl) (by kernel_rfl) (fun _ _ _ h => h) (Or.inl ⟨by rfl, ?_⟩) (by assumption) ?_
            rotate_left 1
            · intro w hSw
              (try dsimp only at hSw)
              have hCQ := HCQ.out w hSw
              (first | (go_simp; done) | (go_simp; with_reducible rfl))
            (try simp only [Act.put, List.getElem_toArray, List.getElem_cons_succ, List.getElem_cons_zero, List.setIfInBounds_toArray, List.set_cons_zero, List.set_cons_succ])
            refine wpAnyF_take (i := 11) (oi := _) (v := ?_) rfl (by kernel_rfl) (by kernel_rfl) (by kernel_rfl) (by kernel_rfl) (fun _ _ _ h => h) (Or.inl ⟨by rfl, ?_⟩) (by assumption) ?_
            rotate_left 1
            · intro w hSw
              (try dsimp only at hSw)
              have hCQ := HCQ.out w hSw
              (first | (go_simp; done) | (go_simp; with_reducible rfl))
            (try simp only [Act.put, List.getElem_toArray, List.getElem_cons_succ, List.getElem_cons_zero, List.setIfInBounds_toArray, List.set_cons_zero, List.set_cons_succ])
            refine wpAnyF_done (by kernel_rfl) ?_ _
            go_wp2_with fail
            go_ret3
            exact HF.out _ HB7.out

end Go.Proofs.YtflgcddgocojpaaDoor
