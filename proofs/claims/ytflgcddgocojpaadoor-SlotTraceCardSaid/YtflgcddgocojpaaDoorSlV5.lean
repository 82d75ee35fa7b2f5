/-
  Layer 18: one call, of both: Write (5).
-/
import Derived.Test.YtflgcddgocojpaaDoorSlY
namespace Go.Proofs.YtflgcddgocojpaaDoor
open Go.RowKit Go
set_option linter.unusedVariables false
set_option linter.unusedSimpArgs false
set_option maxHeartbeats 40000000
set_option maxRecDepth 100000

theorem step_5 (k b q c cl nb cb : Nat) (kd K N at_ : Int) (hkd : kd = 5) (s : Nat) (A Ab : Option Addr) (l : List Ob) (pb : List Nat) (w : World) (hs64 : s < 2 ^ 64) (hat : at_ ≤ 9223372036854775807) (hS : SZ w) (hk : k < 8) (hp : PSt w (clZ k) (clS k) b q c A cl l) (hb : BS w w.heap.size Ab nb cb pb) (hbz : Ab = none → cb = 0) :
    Calls Tryd.prog 8 #[.slice (some ⟨b, q, none⟩) 256 c, .slice A (clS k) cl, .int .i64 (k : Int), .agg #[.int .i64 kd, .int .i64 K, .int .i64 N, .int .i64 at_, .int .u64 (s : Int), .slice Ab nb cb]] w (StTo w (clZ k) (clS k)) := by
  obtain ⟨z1, z2, z3, z4, z5, z6⟩ := cl_fits k hk
  have hbl := hb.len
  have hbc := hb.cap
  have hlen := hp.ok.len
  obtain ⟨m, pm, hcut, hbm⟩ : ∃ m pm, ((nb ≤ 130 ∧ m = nb) ∨ (130 < nb ∧ m = 130)) ∧ BS w w.heap.size Ab m cb pm := by
    by_cases h : nb ≤ 130
    · exact ⟨nb, pb, .inl ⟨h, rfl⟩, hb⟩
    · exact ⟨130, _, .inr ⟨by omega, rfl⟩, hb.take (by omega)⟩
  have HB5 : Hid (Below w.heap.size w (w.alloc (.cells #[.int .i64 kd, .int .i64 K, .int .i64 N, .int .i64 at_, .int .u64 (s : Int), .slice Ab m cb] 29))) := Lib.hid ((Below.refl _ _).alloc (Nat.le_refl _) _)
  have HXX : Hid (w.heap.size < (w.alloc (.cells #[.int .i64 kd, .int .i64 K, .int .i64 N, .int .i64 at_, .int .u64 (s : Int), .slice Ab m cb] 29)).heap.size) := Lib.hid (by simp)
  have HBC : Hid (∀ w', Below (w.alloc (.cells #[.int .i64 kd, .int .i64 K, .int .i64 N, .int .i64 at_, .int .u64 (s : Int), .slice Ab m cb] 29)).heap.size (w.alloc (.cells #[.int .i64 kd, .int .i64 K, .int .i64 N, .int .i64 at_, .int .u64 (s : Int), .slice Ab m cb] 29)) w' → w'.cell? ⟨w.heap.size, 0, none⟩ = some (.int .i64 kd) ∧ w'.cell? ⟨w.heap.size, 1, none⟩ = some (.int .i64 K) ∧ w'.cell? ⟨w.heap.size, 2, none⟩ = some (.int .i64 N) ∧ w'.cell? ⟨w.heap.size, 3, none⟩ = some (.int .i64 at_) ∧ w'.cell? ⟨w.heap.size, 4, none⟩ = some (.int .u64 (s : Int)) ∧ w'.cell? ⟨w.heap.size, 5, none⟩ = some (.slice Ab m cb)) := Lib.hid (fun w' h => by
    have e := heap_alloc_new w (.cells #[.int .i64 kd, .int .i64 K, .int .i64 N, .int .i64 at_, .int .u64 (s : Int), .slice Ab m cb] 29)
    exact ⟨(h.cell (p := ⟨w.heap.size, 0, none⟩) HXX.out).trans (blk_cell e 0), (h.cell (p := ⟨w.heap.size, 1, none⟩) HXX.out).trans (blk_cell e 1), (h.cell (p := ⟨w.heap.size, 2, none⟩) HXX.out).trans (blk_cell e 2), (h.cell (p := ⟨w.heap.size, 3, none⟩) HXX.out).trans (blk_cell e 3), (h.cell (p := ⟨w.heap.size, 4, none⟩) HXX.out).trans (blk_cell e 4), (h.cell (p := ⟨w.heap.size, 5, none⟩) HXX.out).trans (blk_cell e 5)⟩)
  have HP := Lib.hid (hp.below HB5.out)
  have hc0 : (convert 23 9 (.slice (some ⟨b, q, none⟩) 256 c)).run Tryd.prog (w.alloc (.cells #[.int .i64 kd, .int .i64 K, .int .i64 N, .int .i64 at_, .int .u64 (s : Int), .slice Ab m cb] 29)) = .ok (.string (str (pageO (clZ k) l))) (w.alloc (.cells #[.int .i64 kd, .int .i64 K, .int .i64 N, .int .i64 at_, .int .u64 (s : Int), .slice Ab m cb] 29)) := conv_at HP.out.pg
  have HCV : Hid (∀ w', Below (w.alloc (.cells #[.int .i64 kd, .int .i64 K, .int .i64 N, .int .i64 at_, .int .u64 (s : Int), .slice Ab m cb] 29)).heap.size (w.alloc (.cells #[.int .i64 kd, .int .i64 K, .int .i64 N, .int .i64 at_, .int .u64 (s : Int), .slice Ab m cb] 29)) w' → (convert 23 9 (.slice (some ⟨b, q, none⟩) 256 c)).run Tryd.prog w' = .ok (.string (str (pageO (clZ k) l))) w') := Lib.hid (fun w' h => conv_at (HP.out.pg.below h))
  have HSZ := Lib.hid (fun W (h : Below (w.alloc (.cells #[.int .i64 kd, .int .i64 K, .int .i64 N, .int .i64 at_, .int .u64 (s : Int), .slice Ab m cb] 29)).heap.size (w.alloc (.cells #[.int .i64 kd, .int .i64 K, .int .i64 N, .int .i64 at_, .int .u64 (s : Int), .slice Ab m cb] 29)) W) => rsize_n k hk W (hS.below (HB5.out.trans (h.mono HB5.out.size))))
  have HST : Hid (∀ w', Below (w.alloc (.cells #[.int .i64 kd, .int .i64 K, .int .i64 N, .int .i64 at_, .int .u64 (s : Int), .slice Ab m cb] 29)).heap.size (w.alloc (.cells #[.int .i64 kd, .int .i64 K, .int .i64 N, .int .i64 at_, .int .u64 (s : Int), .slice Ab m cb] 29)) w' → StTo w (clZ k) (clS k) (.returned (.tuple #[.slice (some ⟨b, q, none⟩) 256 c, .slice A (clS k) cl, .bool true])) w') := Lib.hid (fun w' h => ⟨HB5.out.trans (h.mono HB5.out.size), b, q, c, A, cl, l, rfl, HP.out.below h⟩)
  have HSN : Hid (∀ w' b' q' c' A' cl' l', Below (w.alloc (.cells #[.int .i64 kd, .int .i64 K, .int .i64 N, .int .i64 at_, .int .u64 (s : Int), .slice Ab m cb] 29)).heap.size (w.alloc (.cells #[.int .i64 kd, .int .i64 K, .int .i64 N, .int .i64 at_, .int .u64 (s : Int), .slice Ab m cb] 29)) w' → PSt w' (clZ k) (clS k) b' q' c' A' cl' l' → StTo w (clZ k) (clS k) (.returned (.tuple #[.slice (some ⟨b', q', none⟩) 256 c', .slice A' (clS k) cl', .bool true])) w') := Lib.hid (fun w' b' q' c' A' cl' l' h hp => ⟨HB5.out.trans (h.mono HB5.out.size), b', q', c', A', cl', l', rfl, hp⟩)
  have HPG := Lib.hid (fun W (h : Below (w.alloc (.cells #[.int .i64 kd, .int .i64 K, .int .i64 N, .int .i64 at_, .int .u64 (s : Int), .slice Ab m cb] 29)).heap.size (w.alloc (.cells #[.int .i64 kd, .int .i64 K, .int .i64 N, .int .i64 at_, .int .u64 (s : Int), .slice Ab m cb] 29)) W) A cc l' (hv : ObV W A (clS k) l') (hok : OkL (clZ k) (clS k) l') => page18_any k A (clS k) cc l' W (hS.below (HB5.out.trans (h.mono HB5.out.size))) hk hv z3 (fun i => by have := (hok.at_ i).long; omega) (fun i => by have := (hok.at_ i).ser; omega))
  have HEQ : Hid (∀ l', OkL (clZ k) (clS k) l' → ∀ i, (pageO (clZ k) l').getD i 0 < 256) := Lib.hid (fun l' h => page_byte (by omega) (fun j => (h.at_ j).byte))
  subst hkd
  have HSB := Lib.hid ((hbm.below HB5.out).more HB5.out.size)
  have HWR := Lib.hid (write_o k b q c K at_ Ab m cb pm l _ hat (hS.below HB5.out) hk HP.out.ok HP.out.pg HSB.out)
  have HTH := Lib.hid (fun W (h : Below (w.alloc (.cells #[.int .i64 5, .int .i64 K, .int .i64 N, .int .i64 at_, .int .u64 (s : Int), .slice Ab m cb] 29)).heap.size (w.alloc (.cells #[.int .i64 5, .int .i64 K, .int .i64 N, .int .i64 at_, .int .u64 (s : Int), .slice Ab m cb] 29)) W) => there_any A (clS k) cl K l W (HP.out.ob.below h) (by omega))
  have HWI := Lib.hid (fun W (h : Below (w.alloc (.cells #[.int .i64 5, .int .i64 K, .int .i64 N, .int .i64 at_, .int .u64 (s : Int), .slice Ab m cb] 29)).heap.size (w.alloc (.cells #[.int .i64 5, .int .i64 K, .int .i64 N, .int .i64 at_, .int .u64 (s : Int), .slice Ab m cb] 29)) W) kk s' d n1 c1 (hkk : kk < clS k) A1 (hs : BS W W.heap.size A1 n1 c1 d) (hz : A1 = none → c1 = 0) => with_o A A1 (clS k) cl kk s' n1 c1 l d W hlen (HP.out.ob.below h) (by omega) hkk hs hz)
  have HLG := Lib.hid (fun i => (HP.out.ok.at_ i).long)
  have HLI := Lib.hid (fun i => len_iff (HP.out.ok.at_ i))
  have HPL := Lib.hid hbm.len
  clear hbz
  have HLEN := Lib.hid hlen
  have HRF := Lib.hid (Below.refl (w.alloc (.cells #[.int .i64 5, .int .i64 K, .int .i64 N, .int .i64 at_, .int .u64 (s : Int), .slice Ab m cb] 29)).heap.size (w.alloc (.cells #[.int .i64 5, .int .i64 K, .int .i64 N, .int .i64 at_, .int .u64 (s : Int), .slice Ab m cb] 29)))
  have hbc1 := hbc.1
  clear hp hb hbl hbc hbm hS hlen
  have HZ6 := Lib.hid z6
  have hz120 : szN k ≤ 120 := by omega
  clear z6
  generalize str (pageO (clZ k) l) = sp at *
  generalize szN k = zz at *
  generalize clZ k = z at *
  generalize clS k = S at *
  unfold WtTo at HWR
  rw [HPL.out] at HWR
  rcases hcut with ⟨h130, rfl⟩ | ⟨h130, rfl⟩
  · have h1I : ¬ (130 : Int) < (m : Int) := by omega
    cases hh : hasO l K
    · skip
      go_enter Tryd.func8, Tryd.ntmps8
      go_wp2_with fail
      refine HWR.out.mono ?_
      rintro e w1 ⟨hb1, (⟨hx, rfl⟩ | ⟨h, _⟩ | ⟨h, _⟩)⟩
      · have HB1 := Lib.hid hb1
        have HTQ : Hid (∀ m, Calls Tryd.prog 18 #[.slice A S cl, .int .i64 K] (w1.drewN m) fun e w' => e = .returned (.bool (hasO l K)) ∧ w' = w1.drewN m) := Lib.hid (fun m => (HTH.out (w1.drewN m) (below_drewN HB1.out m)).mono fun _ _ h => ⟨h.1, h.2.symm⟩)
        have hcm : ∀ m, (convert 23 9 (.slice (some ⟨b, q, none⟩) 256 c)).run Tryd.prog (w1.drewN m) = .ok (.string sp) (w1.drewN m) := fun m => HCV.out _ (below_drewN HB1.out m)
        have HT3 := Lib.hid (fun m => HTH.out (w1.drewN m) (below_drewN HB1.out m))
        have HF := Lib.hid (fun m => HST.out (w1.drewN m) (below_drewN HB1.out m))
        obtain ⟨y0, y1, y2, y3, y4, y5⟩ := HBC.out w1 hb1
        rw [hh] at HTQ HT3
        clear HTH HWI HSN HPG HEQ HCV hb1 HWR HST hx hh
        go_upto_region 39 with (fail)
        go_big_quiet (with_reducible exact Calls.quiet_of_same (HTQ.out _))
        go_wp2_with fail
        refine (HT3.out _).mono ?_
        rintro e w2 ⟨rfl, rfl⟩
        go_wp2_with fail
        go_ret3
        exact HF.out _
      · rw [hh] at h; cases h
      · rw [hh] at h; cases h
    · by_cases c1 : at_ < 0
      · skip
        have hat2 := hasO_at hh
        obtain ⟨kk, rfl⟩ : ∃ kk : Nat, K = (kk : Int) := ⟨K.toNat, by omega⟩
        have HKK : Hid (kk < S) := Lib.hid (by have := HLEN.out; omega)
        rw [Int.toNat_natCast] at hat2
        obtain ⟨bo, o, A1, ca1, rfl, hb0, q0, q1, q2, q3⟩ := HP.out.ob.at_ HKK.out
        have HO3 : Hid (∀ w', Below (w.alloc (.cells #[.int .i64 5, .int .i64 (kk : Int), .int .i64 N, .int .i64 at_, .int .u64 (s : Int), .slice Ab m cb] 29)).heap.size (w.alloc (.cells #[.int .i64 5, .int .i64 (kk : Int), .int .i64 N, .int .i64 at_, .int .u64 (s : Int), .slice Ab m cb] 29)) w' → w'.cell? ⟨bo, o + kk * 2, none⟩ = some (.int .u64 (((oAt l kk).1 : Nat) : Int)) ∧ w'.cell? ⟨bo, o + kk * 2 + 1, none⟩ = some (.slice A1 (oAt l kk).2.length ca1) ∧ bo < w'.heap.size) := Lib.hid (fun w' h => ⟨(h.cell (p := ⟨bo, o + kk * 2, none⟩) hb0).trans q0, (h.cell (p := ⟨bo, o + kk * 2 + 1, none⟩) hb0).trans q1, Nat.lt_of_lt_of_le hb0 h.size⟩)
        have HQD := Lib.hid q2
        have HL9 : Hid ((oAt l kk).2.length ≤ 120) := Lib.hid (by have := HLG.out kk; have := HZ6.out; omega)
        have HL1 : Hid (1 ≤ (oAt l kk).2.length) := Lib.hid (by have := HLI.out kk; omega)
        have hL9 := HL9.out
        have hL1 := HL1.out
        have HWRB : Hid (wrB l (kk : Int) at_ m = decide (0 ≤ at_ ∧ at_ + (m : Int) ≤ (((oAt l kk).2.length : Nat) : Int))) := Lib.hid (by unfold wrB; rw [Int.toNat_natCast]; try rfl)
        rw [HWRB.out, Int.toNat_natCast] at HWR
        have HKS := HKK.out
        clear q0 q1 q2 q3 hb0 hat2
        generalize (oAt l kk).1 = sv at *
        generalize (oAt l kk).2 = dv at *
        generalize dv.length = dn at *
        have hft : (decide (0 ≤ at_ ∧ at_ + (m : Int) ≤ (dn : Int))) = false := decide_eq_false (by omega)
        rw [hft] at HWR
        go_enter Tryd.func8, Tryd.ntmps8
        go_wp2_with fail
        refine HWR.out.mono ?_
        rintro e w1 ⟨hb1, (⟨h, _⟩ | ⟨hx, hy, rfl⟩ | ⟨_, h, _⟩)⟩
        · rw [hh] at h; cases h
        · have HB1 := Lib.hid hb1
          have HTQ : Hid (∀ m, Calls Tryd.prog 18 #[.slice (some ⟨bo, o, none⟩) S cl, .int .i64 (kk : Int)] (w1.drewN m) fun e w' => e = .returned (.bool (hasO l (kk : Int))) ∧ w' = w1.drewN m) := Lib.hid (fun m => (HTH.out (w1.drewN m) (below_drewN HB1.out m)).mono fun _ _ h => ⟨h.1, h.2.symm⟩)
          have hcm : ∀ m, (convert 23 9 (.slice (some ⟨b, q, none⟩) 256 c)).run Tryd.prog (w1.drewN m) = .ok (.string sp) (w1.drewN m) := fun m => HCV.out _ (below_drewN HB1.out m)
          have HF := Lib.hid (fun m => HST.out (w1.drewN m) (below_drewN HB1.out m))
          obtain ⟨y0, y1, y2, y3, y4, y5⟩ := HBC.out w1 hb1
          obtain ⟨u0, u1, hbo⟩ := HO3.out w1 hb1
          rw [hh] at HTQ
          clear HTH HWI HSN HPG HEQ HCV hb1 HWR HST hx hy hh hft
          go_upto_region 39 with (fail)
          go_big_quiet (with_reducible exact Calls.quiet_of_same (HTQ.out _))
          skip
          go_wp2_with fail
          go_ret3
          exact HF.out _
        · cases h
      · by_cases c2 : (((oAt l K.toNat).2.length : Nat) : Int) < at_
        · skip
          have hat2 := hasO_at hh
          obtain ⟨kk, rfl⟩ : ∃ kk : Nat, K = (kk : Int) := ⟨K.toNat, by omega⟩
          have HKK : Hid (kk < S) := Lib.hid (by have := HLEN.out; omega)
          rw [Int.toNat_natCast] at hat2 c2
          obtain ⟨bo, o, A1, ca1, rfl, hb0, q0, q1, q2, q3⟩ := HP.out.ob.at_ HKK.out
          have HO3 : Hid (∀ w', Below (w.alloc (.cells #[.int .i64 5, .int .i64 (kk : Int), .int .i64 N, .int .i64 at_, .int .u64 (s : Int), .slice Ab m cb] 29)).heap.size (w.alloc (.cells #[.int .i64 5, .int .i64 (kk : Int), .int .i64 N, .int .i64 at_, .int .u64 (s : Int), .slice Ab m cb] 29)) w' → w'.cell? ⟨bo, o + kk * 2, none⟩ = some (.int .u64 (((oAt l kk).1 : Nat) : Int)) ∧ w'.cell? ⟨bo, o + kk * 2 + 1, none⟩ = some (.slice A1 (oAt l kk).2.length ca1) ∧ bo < w'.heap.size) := Lib.hid (fun w' h => ⟨(h.cell (p := ⟨bo, o + kk * 2, none⟩) hb0).trans q0, (h.cell (p := ⟨bo, o + kk * 2 + 1, none⟩) hb0).trans q1, Nat.lt_of_lt_of_le hb0 h.size⟩)
          have HQD := Lib.hid q2
          have HL9 : Hid ((oAt l kk).2.length ≤ 120) := Lib.hid (by have := HLG.out kk; have := HZ6.out; omega)
          have HL1 : Hid (1 ≤ (oAt l kk).2.length) := Lib.hid (by have := HLI.out kk; omega)
          have hL9 := HL9.out
          have hL1 := HL1.out
          have HWRB : Hid (wrB l (kk : Int) at_ m = decide (0 ≤ at_ ∧ at_ + (m : Int) ≤ (((oAt l kk).2.length : Nat) : Int))) := Lib.hid (by unfold wrB; rw [Int.toNat_natCast]; try rfl)
          rw [HWRB.out, Int.toNat_natCast] at HWR
          have HKS := HKK.out
          clear q0 q1 q2 q3 hb0 hat2
          generalize (oAt l kk).1 = sv at *
          generalize (oAt l kk).2 = dv at *
          generalize dv.length = dn at *
          obtain ⟨a, rfl⟩ : ∃ a : Nat, at_ = (a : Int) := ⟨at_.toNat, by omega⟩
          have hN1 : dn < a := by omega
          have hd0 : decide ((a : Int) < 0) = false := decide_eq_false (by omega)
          have hd1 : decide (dn < a) = true := decide_eq_true hN1
          clear c1 c2
          have hft : (decide (0 ≤ (a : Int) ∧ (a : Int) + (m : Int) ≤ (dn : Int))) = false := decide_eq_false (by omega)
          rw [hft] at HWR
          go_enter Tryd.func8, Tryd.ntmps8
          go_wp2_with fail
          refine HWR.out.mono ?_
          rintro e w1 ⟨hb1, (⟨h, _⟩ | ⟨hx, hy, rfl⟩ | ⟨_, h, _⟩)⟩
          · rw [hh] at h; cases h
          · have HB1 := Lib.hid hb1
            have HTQ : Hid (∀ m, Calls Tryd.prog 18 #[.slice (some ⟨bo, o, none⟩) S cl, .int .i64 (kk : Int)] (w1.drewN m) fun e w' => e = .returned (.bool (hasO l (kk : Int))) ∧ w' = w1.drewN m) := Lib.hid (fun m => (HTH.out (w1.drewN m) (below_drewN HB1.out m)).mono fun _ _ h => ⟨h.1, h.2.symm⟩)
            have hcm : ∀ m, (convert 23 9 (.slice (some ⟨b, q, none⟩) 256 c)).run Tryd.prog (w1.drewN m) = .ok (.string sp) (w1.drewN m) := fun m => HCV.out _ (below_drewN HB1.out m)
            have HF := Lib.hid (fun m => HST.out (w1.drewN m) (below_drewN HB1.out m))
            obtain ⟨y0, y1, y2, y3, y4, y5⟩ := HBC.out w1 hb1
            obtain ⟨u0, u1, hbo⟩ := HO3.out w1 hb1
            rw [hh] at HTQ
            clear HTH HWI HSN HPG HEQ HCV hb1 HWR HST hx hy hh hft
            go_upto_region 39 with (fail)
            go_big_quiet (with_reducible exact Calls.quiet_of_same (HTQ.out _))
            skip
            go_wp2_with fail
            go_ret3
            exact HF.out _
          · cases h
        · by_cases c3 : (((oAt l K.toNat).2.length : Nat) : Int) - at_ < (m : Int)
          · skip
            have hat2 := hasO_at hh
            obtain ⟨kk, rfl⟩ : ∃ kk : Nat, K = (kk : Int) := ⟨K.toNat, by omega⟩
            have HKK : Hid (kk < S) := Lib.hid (by have := HLEN.out; omega)
            rw [Int.toNat_natCast] at hat2 c2 c3
            obtain ⟨bo, o, A1, ca1, rfl, hb0, q0, q1, q2, q3⟩ := HP.out.ob.at_ HKK.out
            have HO3 : Hid (∀ w', Below (w.alloc (.cells #[.int .i64 5, .int .i64 (kk : Int), .int .i64 N, .int .i64 at_, .int .u64 (s : Int), .slice Ab m cb] 29)).heap.size (w.alloc (.cells #[.int .i64 5, .int .i64 (kk : Int), .int .i64 N, .int .i64 at_, .int .u64 (s : Int), .slice Ab m cb] 29)) w' → w'.cell? ⟨bo, o + kk * 2, none⟩ = some (.int .u64 (((oAt l kk).1 : Nat) : Int)) ∧ w'.cell? ⟨bo, o + kk * 2 + 1, none⟩ = some (.slice A1 (oAt l kk).2.length ca1) ∧ bo < w'.heap.size) := Lib.hid (fun w' h => ⟨(h.cell (p := ⟨bo, o + kk * 2, none⟩) hb0).trans q0, (h.cell (p := ⟨bo, o + kk * 2 + 1, none⟩) hb0).trans q1, Nat.lt_of_lt_of_le hb0 h.size⟩)
            have HQD := Lib.hid q2
            have HL9 : Hid ((oAt l kk).2.length ≤ 120) := Lib.hid (by have := HLG.out kk; have := HZ6.out; omega)
            have HL1 : Hid (1 ≤ (oAt l kk).2.length) := Lib.hid (by have := HLI.out kk; omega)
            have hL9 := HL9.out
            have hL1 := HL1.out
            have HWRB : Hid (wrB l (kk : Int) at_ m = decide (0 ≤ at_ ∧ at_ + (m : Int) ≤ (((oAt l kk).2.length : Nat) : Int))) := Lib.hid (by unfold wrB; rw [Int.toNat_natCast]; try rfl)
            rw [HWRB.out, Int.toNat_natCast] at HWR
            have HKS := HKK.out
            clear q0 q1 q2 q3 hb0 hat2
            generalize (oAt l kk).1 = sv at *
            generalize (oAt l kk).2 = dv at *
            generalize dv.length = dn at *
            obtain ⟨a, rfl⟩ : ∃ a : Nat, at_ = (a : Int) := ⟨at_.toNat, by omega⟩
            have hwd : IntKind.i64.wrap ((dn : Int) - (a : Int)) = (dn : Int) - (a : Int) := IntWalk.i64_in _ (by omega)
            have hd0 : decide ((a : Int) < 0) = false := decide_eq_false (by omega)
            have hd1 : decide (dn < a) = false := decide_eq_false (by omega)
            have hd2 : decide ((dn : Int) - (a : Int) < (m : Int)) = true := decide_eq_true c3
            have hft : (decide (0 ≤ (a : Int) ∧ (a : Int) + (m : Int) ≤ (dn : Int))) = false := decide_eq_false (by omega)
            rw [hft] at HWR
            clear c1 c2 c3
            go_enter Tryd.func8, Tryd.ntmps8
            go_wp2_with fail
            refine HWR.out.mono ?_
            rintro e w1 ⟨hb1, (⟨h, _⟩ | ⟨hx, hy, rfl⟩ | ⟨_, h, _⟩)⟩
            · rw [hh] at h; cases h
            · have HB1 := Lib.hid hb1
              have HTQ : Hid (∀ m, Calls Tryd.prog 18 #[.slice (some ⟨bo, o, none⟩) S cl, .int .i64 (kk : Int)] (w1.drewN m) fun e w' => e = .returned (.bool (hasO l (kk : Int))) ∧ w' = w1.drewN m) := Lib.hid (fun m => (HTH.out (w1.drewN m) (below_drewN HB1.out m)).mono fun _ _ h => ⟨h.1, h.2.symm⟩)
              have hcm : ∀ m, (convert 23 9 (.slice (some ⟨b, q, none⟩) 256 c)).run Tryd.prog (w1.drewN m) = .ok (.string sp) (w1.drewN m) := fun m => HCV.out _ (below_drewN HB1.out m)
              have HF := Lib.hid (fun m => HST.out (w1.drewN m) (below_drewN HB1.out m))
              obtain ⟨y0, y1, y2, y3, y4, y5⟩ := HBC.out w1 hb1
              obtain ⟨u0, u1, hbo⟩ := HO3.out w1 hb1
              rw [hh] at HTQ
              clear HTH HWI HSN HPG HEQ HCV hb1 HWR HST hx hy hh hft
              go_upto_region 39 with (fail)
              go_big_quiet (with_reducible exact Calls.quiet_of_same (HTQ.out _))
              skip
              go_wp2_with fail
              go_ret3
              exact HF.out _
            · cases h
          · skip
            have hat2 := hasO_at hh
            obtain ⟨kk, rfl⟩ : ∃ kk : Nat, K = (kk : Int) := ⟨K.toNat, by omega⟩
            have HKK : Hid (kk < S) := Lib.hid (by have := HLEN.out; omega)
            rw [Int.toNat_natCast] at hat2 c2 c3
            obtain ⟨bo, o, A1, ca1, rfl, hb0, q0, q1, q2, q3⟩ := HP.out.ob.at_ HKK.out
            have HO3 : Hid (∀ w', Below (w.alloc (.cells #[.int .i64 5, .int .i64 (kk : Int), .int .i64 N, .int .i64 at_, .int .u64 (s : Int), .slice Ab m cb] 29)).heap.size (w.alloc (.cells #[.int .i64 5, .int .i64 (kk : Int), .int .i64 N, .int .i64 at_, .int .u64 (s : Int), .slice Ab m cb] 29)) w' → w'.cell? ⟨bo, o + kk * 2, none⟩ = some (.int .u64 (((oAt l kk).1 : Nat) : Int)) ∧ w'.cell? ⟨bo, o + kk * 2 + 1, none⟩ = some (.slice A1 (oAt l kk).2.length ca1) ∧ bo < w'.heap.size) := Lib.hid (fun w' h => ⟨(h.cell (p := ⟨bo, o + kk * 2, none⟩) hb0).trans q0, (h.cell (p := ⟨bo, o + kk * 2 + 1, none⟩) hb0).trans q1, Nat.lt_of_lt_of_le hb0 h.size⟩)
            have HQD := Lib.hid q2
            have HL9 : Hid ((oAt l kk).2.length ≤ 120) := Lib.hid (by have := HLG.out kk; have := HZ6.out; omega)
            have HL1 : Hid (1 ≤ (oAt l kk).2.length) := Lib.hid (by have := HLI.out kk; omega)
            have hL9 := HL9.out
            have hL1 := HL1.out
            have HWRB : Hid (wrB l (kk : Int) at_ m = decide (0 ≤ at_ ∧ at_ + (m : Int) ≤ (((oAt l kk).2.length : Nat) : Int))) := Lib.hid (by unfold wrB; rw [Int.toNat_natCast]; try rfl)
            rw [HWRB.out, Int.toNat_natCast] at HWR
            have HKS := HKK.out
            clear q0 q1 q2 q3 hb0 hat2
            generalize (oAt l kk).1 = sv at *
            generalize (oAt l kk).2 = dv at *
            generalize dv.length = dn at *
            have hft : (decide (0 ≤ at_ ∧ at_ + (m : Int) ≤ (dn : Int))) = true := decide_eq_true (by omega)
            rw [hft] at HWR
            obtain ⟨a, rfl⟩ : ∃ a : Nat, at_ = (a : Int) := ⟨at_.toNat, by omega⟩
            rw [Int.toNat_natCast] at HWR
            have ham : a + m ≤ dn := by omega
            have hN2 : a ≤ dn := by omega
            have hd0 : decide ((a : Int) < 0) = false := decide_eq_false (by omega)
            have hd1 : decide (dn < a) = false := decide_eq_false (by omega)
            have hd2 : decide ((dn : Int) - (a : Int) < (m : Int)) = false := decide_eq_false (by omega)
            clear c1 c2 c3
            have hwd : IntKind.i64.wrap ((dn : Int) - (a : Int)) = (dn : Int) - (a : Int) := IntWalk.i64_in _ (by omega)
            go_enter Tryd.func8, Tryd.ntmps8
            go_wp2_with fail
            refine HWR.out.mono ?_
            rintro e w1 ⟨hb1, (⟨h, _⟩ | ⟨_, h, _⟩ | ⟨hx, hy, h, cc, rfl, hbs, hok⟩)⟩
            · rw [hh] at h; cases h
            · cases h
            · have HB1 := Lib.hid hb1
              have HTQ : Hid (∀ m, Calls Tryd.prog 18 #[.slice (some ⟨bo, o, none⟩) S cl, .int .i64 (kk : Int)] (w1.drewN m) fun e w' => e = .returned (.bool (hasO l (kk : Int))) ∧ w' = w1.drewN m) := Lib.hid (fun m => (HTH.out (w1.drewN m) (below_drewN HB1.out m)).mono fun _ _ h => ⟨h.1, h.2.symm⟩)
              have hcm : ∀ m, (convert 23 9 (.slice (some ⟨b, q, none⟩) 256 c)).run Tryd.prog (w1.drewN m) = .ok (.string sp) (w1.drewN m) := fun m => HCV.out _ (below_drewN HB1.out m)
              have HT3 := Lib.hid (fun m => HTH.out (w1.drewN m) (below_drewN HB1.out m))
              have HBM := Lib.hid (fun m => below_drewN HB1.out m)
              have HQ2 := Lib.hid (fun m => (hbs.below (below_drewN (Below.refl w1.heap.size w1) m)).more (below_drewN (Below.refl w1.heap.size w1) m).size)
              have HOK := Lib.hid hok
              obtain ⟨y0, y1, y2, y3, y4, y5⟩ := HBC.out w1 hb1
              obtain ⟨u0, u1, hbo⟩ := HO3.out w1 hb1
              rw [hh] at HTQ HT3
              clear HTH hcm hb1 HWR hx hy hh hft hbs hok HST
              go_upto_region 39 with (fail)
              go_big_quiet (with_reducible exact Calls.quiet_of_same (HTQ.out _))
              skip
              go_wp2_with fail
              refine (HT3.out _).mono ?_
              rintro e w2 ⟨rfl, rfl⟩
              have HB3 := Lib.hid (HBM.out nq)
              have HQ3 := Lib.hid (HQ2.out nq)
              clear HBM HQ2 HTQ HT3 y0 y1 y2 y3 y4 y5 u0 u1 hbo
              generalize w1.drewN nq = w3 at *
              obtain ⟨y0, y1, y2, y3, y4, y5⟩ := HBC.out w3 HB3.out
              obtain ⟨u0, u1, hbo⟩ := HO3.out w3 HB3.out
              have hbx : w.heap.size < w3.heap.size := Nat.lt_of_lt_of_le HXX.out HB3.out.size
              have HSD := Lib.hid ((HQD.out.below HB3.out).more HB3.out.size)
              obtain ⟨bd, od, rfl, -, -⟩ := HSD.out.at_ (by omega)
              have HDL := Lib.hid HSD.out.len
              go_upto_region 44 with (at_builtin; refine wp_app_all w3 rfl (.tmp 214) (.tmp 220) rfl ⟨bd, od, none⟩ dn ca1 dv rfl rfl HSD.out (by omega) ?_; intro v4 w4 ho4 hb4; have HOW4 := Lib.hid ho4; have HB4w := Lib.hid hb4; clear ho4 hb4)
              have HB4 := Lib.hid (HB3.out.trans (HB4w.out.mono HB3.out.size))
              obtain ⟨g4, cap4, cur4, hv4, hgb4, hg4, hnc4, hcm4, hcl4⟩ := own_cells HOW4.out (by rw [HDL.out]; omega)
              rw [HDL.out] at hv4 hnc4
              subst hv4
              have HG4 := Lib.hid hg4
              have HGB := Lib.hid hgb4
              have HC4 := Lib.hid hcl4
              clear y0 y1 y2 y3 y4 y5 u0 u1 hbo hbx hg4 hgb4 hcl4
              by_cases hca : cap4 = a
              · obtain rfl : dn = a := by omega
                subst hca
                refine wp_region_F (S := (fun w' => Below w4.heap.size w4 w')) [6] (by kernel_rfl) ((Below.refl _ _).drew) (fun hHeld => ?_)
                (try simp only [Act.put, List.getElem_toArray, List.getElem_cons_succ, List.getElem_cons_zero, List.setIfInBounds_toArray, List.set_cons_zero, List.set_cons_succ])
                refine wpAnyG_take (i := 0) (oi := _) (v := ?_) rfl (by kernel_rfl) (by kernel_rfl) (by kernel_rfl) (by kernel_rfl) (by kernel_rfl) (fun _ _ _ h => h) (Or.inl ⟨by rfl, ?_⟩) (by assumption) ?_
                rotate_left 1
                · intro w hSw
                  (try dsimp only at hSw)
                  obtain ⟨y0, y1, y2, y3, y4, y5⟩ := HBC.out w (HB4.out.trans (hSw.mono HB4.out.size))
                  (first | (go_simp; done) | (go_simp; with_reducible rfl))
                (try simp only [Act.put, List.getElem_toArray, List.getElem_cons_succ, List.getElem_cons_zero, List.setIfInBounds_toArray, List.set_cons_zero, List.set_cons_succ])
                refine wpAnyG_take (i := 1) (oi := _) (v := ?_) rfl (by kernel_rfl) (by kernel_rfl) (by kernel_rfl) (by kernel_rfl) (by kernel_rfl) (fun _ _ _ h => h) (Or.inl ⟨by rfl, ?_⟩) (by assumption) ?_
                rotate_left 1
                · intro w hSw
                  (try dsimp only at hSw)
                  obtain ⟨y0, y1, y2, y3, y4, y5⟩ := HBC.out w (HB4.out.trans (hSw.mono HB4.out.size))
                  (first | (go_simp; done) | (go_simp; with_reducible rfl))
                (try simp only [Act.put, List.getElem_toArray, List.getElem_cons_succ, List.getElem_cons_zero, List.setIfInBounds_toArray, List.set_cons_zero, List.set_cons_succ])
                refine wpAnyG_take (i := 2) (oi := _) (v := ?_) rfl (by kernel_rfl) (by kernel_rfl) (by kernel_rfl) (by kernel_rfl) (by kernel_rfl) (fun _ _ _ h => h) (Or.inl ⟨by rfl, ?_⟩) (by assumption) ?_
                rotate_left 1
                · intro w hSw
                  (try dsimp only at hSw)
                  obtain ⟨y0, y1, y2, y3, y4, y5⟩ := HBC.out w (HB4.out.trans (hSw.mono HB4.out.size))
                  (first | (go_simp; done) | (go_simp; with_reducible rfl))
                (try simp only [Act.put, List.getElem_toArray, List.getElem_cons_succ, List.getElem_cons_zero, List.setIfInBounds_toArray, List.set_cons_zero, List.set_cons_succ])
                refine wpAnyG_take (i := 3) (oi := _) (v := ?_) rfl (by kernel_rfl) (by kernel_rfl) (by kernel_rfl) (by kernel_rfl) (by kernel_rfl) (fun _ _ _ h => h) (Or.inl ⟨by rfl, ?_⟩) (by assumption) ?_
                rotate_left 1
                · intro w hSw
                  (try dsimp only at hSw)
                  obtain ⟨y0, y1, y2, y3, y4, y5⟩ := HBC.out w (HB4.out.trans (hSw.mono HB4.out.size))
                  (first | (go_simp; done) | (go_simp; with_reducible rfl))
                (try simp only [Act.put, List.getElem_toArray, List.getElem_cons_succ, List.getElem_cons_zero, List.setIfInBounds_toArray, List.set_cons_zero, List.set_cons_succ])
                refine wpAnyG_take (i := 4) (oi := _) (v := ?_) rfl (by kernel_rfl) (by kernel_rfl) (by kernel_rfl) (by kernel_rfl) (by kernel_rfl) (fun _ _ _ h => h) (Or.inl ⟨by rfl, ?_⟩) (by assumption) ?_
                rotate_left 1
                · intro w hSw
                  (try dsimp only at hSw)
                  obtain ⟨y0, y1, y2, y3, y4, y5⟩ := HBC.out w (HB4.out.trans (hSw.mono HB4.out.size))
                  (first | (go_simp; done) | (go_simp; with_reducible rfl))
                (try simp only [Act.put, List.getElem_toArray, List.getElem_cons_succ, List.getElem_cons_zero, List.setIfInBounds_toArray, List.set_cons_zero, List.set_cons_succ])
                refine wpAnyG_take (i := 5) (oi := _) (v := ?_) rfl (by kernel_rfl) (by kernel_rfl) (by kernel_rfl) (by kernel_rfl) (by kernel_rfl) (fun _ _ _ h => h) (Or.inl ⟨by rfl, ?_⟩) (by assumption) ?_
                rotate_left 1
                · intro w hSw
                  (try dsimp only at hSw)
                  obtain ⟨y0, y1, y2, y3, y4, y5⟩ := HBC.out w (HB4.out.trans (hSw.mono HB4.out.size))
                  (first | (go_simp; done) | (go_simp; with_reducible rfl))
                (try simp only [Act.put, List.getElem_toArray, List.getElem_cons_succ, List.getElem_cons_zero, List.setIfInBounds_toArray, List.set_cons_zero, List.set_cons_succ])
                refine wpAnyF_ready (rs := [6]) (by kernel_rfl) (by simp) ?_
                refine AllReadyF.last (o := _) rfl (by rfl) (fun K hK => ?_) AllReadyF.nil
                have HG5 := Lib.hid ((hHeld.block _ (blk_lt HG4.out)).trans HG4.out)
                have HX := Lib.hid (HSB.out.below (HB4.out.trans (hHeld.mono HB4.out.size)))
                have HRD : Hid (0 < (bvals pm).length → some (⟨g4, 0, none⟩ : Addr) = some ⟨g4, cap4, none⟩ ∧ ∃ ad, Ab = some ad ∧ ∀ j v, (bvals pm)[j]? = some v → w4.drew.cell? (ad.add j) = some v) := Lib.hid (fun hl => ⟨by first | rfl | (rw [bvals_len, HPL.out] at hl; omega), by
                  rw [bvals_len, HPL.out] at hl
                  have := bs_reads HX.out (k := m) (Nat.le_refl _) hl
                  rwa [List.take_of_length_le (by rw [HPL.out]; omega)] at this⟩)
                have HLN : Hid ((bvals pm).length = Nat.min m 0) := Lib.hid (by rw [bvals_len, HPL.out]; exact (Nat.min_eq_left (by omega)).symm)
                have HFT : Hid (cap4 + (bvals pm).length ≤ cur4.length) := Lib.hid (by rw [bvals_len, HPL.out, HC4.out]; omega)
                refine step_copy_only rfl (.tmp 225) (.tmp 227) 23 23 rfl 5 Tryd.underlying23 size_u8 (some (⟨g4, 0, none⟩ : Addr)) Ab 0 0 m cb rfl rfl g4 cap4 cur4 5 HG5.out (bvals pm) HLN.out HRD.out HFT.out (bvals_one _) ?_
                intro w6 hq hg6
                have HO6 : Hid (Own w6 w3.heap.size (.slice (some ⟨g4, 0, none⟩) cap4 cap4) (splL dv cap4 pm)) := Lib.hid (own_spl HOW4.out HDL.out HG4.out hq.out (by rw [HPL.out]; omega))
                have HB6 : Hid (Below w3.heap.size w3 w6) := Lib.hid (below_own (HB4w.out.trans (hHeld.mono HB4w.out.size)) HGB.out hg6)
                clear hq hg6
                refine hK.out _ _ ?_
                clear hK K
                (try simp only [Act.put, List.getElem_toArray, List.getElem_cons_succ, List.getElem_cons_zero, List.setIfInBounds_toArray, List.set_cons_zero, List.set_cons_succ])
                refine wpAnyF_done (by kernel_rfl) ?_ _
                have HB6a := Lib.hid (HB3.out.trans (HB6.out.mono HB3.out.size))
                have HQ6 := Lib.hid ((HQ3.out.below HB6.out).more HB6.out.size)
                have HBS6 : Hid (BS w6 w6.heap.size (some ⟨g4, 0, none⟩) cap4 cap4 (splL dv cap4 pm)) := Lib.hid (own_bs HO6.out (splL_byte (by rw [HPL.out, HDL.out]; omega) HSD.out.byte HSB.out.byte) (by rw [splL_len (by rw [HPL.out, HDL.out]; omega)]; exact HDL.out))
                have HSNZ : Hid ((some (⟨g4, 0, none⟩ : Addr)) = none → cap4 = 0) := Lib.hid (by intro e; cases e)
                go_upto_region 45 with (fail)
                refine wp_region_F (S := (fun w' => Below w6.heap.size w6 w')) [] (by kernel_rfl) ((Below.refl _ _).drew) (fun hHeld => ?_)
                (try simp only [Act.put, List.getElem_toArray, List.getElem_cons_succ, List.getElem_cons_zero, List.setIfInBounds_toArray, List.set_cons_zero, List.set_cons_succ])
                refine wpAnyF_take (i := 0) (oi := _) (v := ?_) rfl (by kernel_rfl) (by kernel_rfl) (by kernel_rfl) (by kernel_rfl) (fun _ _ _ h => h) (Or.inl ⟨by rfl, ?_⟩) (by assumption) ?_
                rotate_left 1
                · intro w hSw
                  (try dsimp only at hSw)
                  obtain ⟨y0, y1, y2, y3, y4, y5⟩ := HBC.out w (HB6a.out.trans (hSw.mono HB6a.out.size))
                  obtain ⟨u0, u1, hbo⟩ := HO3.out w (HB6a.out.trans (hSw.mono HB6a.out.size))
                  (first | (go_simp; done) | (go_simp; with_reducible rfl))
                (try simp only [Act.put, List.getElem_toArray, List.getElem_cons_succ, List.getElem_cons_zero, List.setIfInBounds_toArray, List.set_cons_zero, List.set_cons_succ])
                refine wpAnyF_take (i := 1) (oi := _) (v := ?_) rfl (by kernel_rfl) (by kernel_rfl) (by kernel_rfl) (by kernel_rfl) (fun _ _ _ h => h) (Or.inl ⟨by rfl, ?_⟩) (by assumption) ?_
                rotate_left 1
                · intro w hSw
                  (try dsimp only at hSw)
                  obtain ⟨y0, y1, y2, y3, y4, y5⟩ := HBC.out w (HB6a.out.trans (hSw.mono HB6a.out.size))
                  obtain ⟨u0, u1, hbo⟩ := HO3.out w (HB6a.out.trans (hSw.mono HB6a.out.size))
                  (first | (go_simp; done) | (go_simp; with_reducible rfl))
                (try simp only [Act.put, List.getElem_toArray, List.getElem_cons_succ, List.getElem_cons_zero, List.setIfInBounds_toArray, List.set_cons_zero, List.set_cons_succ])
                refine wpAnyF_take (i := 2) (oi := _) (v := ?_) rfl (by kernel_rfl) (by kernel_rfl) (by kernel_rfl) (by kernel_rfl) (fun _ _ _ h => h) (Or.inl ⟨by rfl, ?_⟩) (by assumption) ?_
                rotate_left 1
                · intro w hSw
                  (try dsimp only at hSw)
                  obtain ⟨y0, y1, y2, y3, y4, y5⟩ := HBC.out w (HB6a.out.trans (hSw.mono HB6a.out.size))
                  obtain ⟨u0, u1, hbo⟩ := HO3.out w (HB6a.out.trans (hSw.mono HB6a.out.size))
                  (first | (go_simp; done) | (go_simp; with_reducible rfl))
                (try simp only [Act.put, List.getElem_toArray, List.getElem_cons_succ, List.getElem_cons_zero, List.setIfInBounds_toArray, List.set_cons_zero, List.set_cons_succ])
                refine wpAnyF_take (i := 3) (oi := _) (v := ?_) rfl (by kernel_rfl) (by kernel_rfl) (by kernel_rfl) (by kernel_rfl) (fun _ _ _ h => h) (Or.inl ⟨by rfl, ?_⟩) (by assumption) ?_
                rotate_left 1
                · intro w hSw
                  (try dsimp only at hSw)
                  obtain ⟨y0, y1, y2, y3, y4, y5⟩ := HBC.out w (HB6a.out.trans (hSw.mono HB6a.out.size))
                  obtain ⟨u0, u1, hbo⟩ := HO3.out w (HB6a.out.trans (hSw.mono HB6a.out.size))
                  (first | (go_simp; done) | (go_simp; with_reducible rfl))
                (try simp only [Act.put, List.getElem_toArray, List.getElem_cons_succ, List.getElem_cons_zero, List.setIfInBounds_toArray, List.set_cons_zero, List.set_cons_succ])
                refine wpAnyF_take (i := 4) (oi := _) (v := ?_) rfl (by kernel_rfl) (by kernel_rfl) (by kernel_rfl) (by kernel_rfl) (fun _ _ _ h => h) (Or.inl ⟨by rfl, ?_⟩) (by assumption) ?_
                rotate_left 1
                · intro w hSw
                  (try dsimp only at hSw)
                  obtain ⟨y0, y1, y2, y3, y4, y5⟩ := HBC.out w (HB6a.out.trans (hSw.mono HB6a.out.size))
                  obtain ⟨u0, u1, hbo⟩ := HO3.out w (HB6a.out.trans (hSw.mono HB6a.out.size))
                  (first | (go_simp; done) | (go_simp; with_reducible rfl))
                (try simp only [Act.put, List.getElem_toArray, List.getElem_cons_succ, List.getElem_cons_zero, List.setIfInBounds_toArray, List.set_cons_zero, List.set_cons_succ])
                refine wpAnyF_take (i := 5) (oi := _) (v := ?_) rfl (by kernel_rfl) (by kernel_rfl) (by kernel_rfl) (by kernel_rfl) (fun _ _ _ h => h) (Or.inl ⟨by rfl, ?_⟩) (by assumption) ?_
                rotate_left 1
                · intro w hSw
                  (try dsimp only at hSw)
                  obtain ⟨y0, y1, y2, y3, y4, y5⟩ := HBC.out w (HB6a.out.trans (hSw.mono HB6a.out.size))
                  obtain ⟨u0, u1, hbo⟩ := HO3.out w (HB6a.out.trans (hSw.mono HB6a.out.size))
                  (first | (go_simp; done) | (go_simp; with_reducible rfl))
                (try simp only [Act.put, List.getElem_toArray, List.getElem_cons_succ, List.getElem_cons_zero, List.setIfInBounds_toArray, List.set_cons_zero, List.set_cons_succ])
                refine wpAnyF_take (i := 6) (oi := _) (v := ?_) rfl (by kernel_rfl) (by kernel_rfl) (by kernel_rfl) (by kernel_rfl) (fun _ _ _ h => h) (Or.inl ⟨by rfl, ?_⟩) (by assumption) ?_
                rotate_left 1
                · intro w hSw
                  (try dsimp only at hSw)
                  obtain ⟨y0, y1, y2, y3, y4, y5⟩ := HBC.out w (HB6a.out.trans (hSw.mono HB6a.out.size))
                  obtain ⟨u0, u1, hbo⟩ := HO3.out w (HB6a.out.trans (hSw.mono HB6a.out.size))
                  (first | (go_simp; done) | (go_simp; with_reducible rfl))
                (try simp only [Act.put, List.getElem_toArray, List.getElem_cons_succ, List.getElem_cons_zero, List.setIfInBounds_toArray, List.set_cons_zero, List.set_cons_succ])
                refine wpAnyF_take (i := 7) (oi := _) (v := ?_) rfl (by kernel_rfl) (by kernel_rfl) (by kernel_rfl) (by kernel_rfl) (fun _ _ _ h => h) (Or.inl ⟨by rfl, ?_⟩) (by assumption) ?_
                rotate_left 1
                · intro w hSw
                  (try dsimp only at hSw)
                  obtain ⟨y0, y1, y2, y3, y4, y5⟩ := HBC.out w (HB6a.out.trans (hSw.mono HB6a.out.size))
                  obtain ⟨u0, u1, hbo⟩ := HO3.out w (HB6a.out.trans (hSw.mono HB6a.out.size))
                  (first | (go_simp; done) | (go_simp; with_reducible rfl))
                (try simp only [Act.put, List.getElem_toArray, List.getElem_cons_succ, List.getElem_cons_zero, List.setIfInBounds_toArray, List.set_cons_zero, List.set_cons_succ])
                refine wpAnyF_take (i := 8) (oi := _) (v := ?_) rfl (by kernel_rfl) (by kernel_rfl) (by kernel_rfl) (by kernel_rfl) (fun _ _ _ h => h) (Or.inl ⟨by rfl, ?_⟩) (by assumption) ?_
                rotate_left 1
                · intro w hSw
                  (try dsimp only at hSw)
                  obtain ⟨y0, y1, y2, y3, y4, y5⟩ := HBC.out w (HB6a.out.trans (hSw.mono HB6a.out.size))
                  obtain ⟨u0, u1, hbo⟩ := HO3.out w (HB6a.out.trans (hSw.mono HB6a.out.size))
                  (first | (go_simp; done) | (go_simp; with_reducible rfl))
                (try simp only [Act.put, List.getElem_toArray, List.getElem_cons_succ, List.getElem_cons_zero, List.setIfInBounds_toArray, List.set_cons_zero, List.set_cons_succ])
                refine wpAnyF_take (i := 9) (oi := _) (v := ?_) rfl (by kernel_rfl) (by kernel_rfl) (by kernel_rfl) (by kernel_rfl) (fun _ _ _ h => h) (Or.inl ⟨by rfl, ?_⟩) (by assumption) ?_
                rotate_left 1
                · intro w hSw
                  (try dsimp only at hSw)
                  obtain ⟨y0, y1, y2, y3, y4, y5⟩ := HBC.out w (HB6a.out.trans (hSw.mono HB6a.out.size))
                  obtain ⟨u0, u1, hbo⟩ := HO3.out w (HB6a.out.trans (hSw.mono HB6a.out.size))
                  (first | (go_simp; done) | (go_simp; with_reducible rfl))
                (try simp only [Act.put, List.getElem_toArray, List.getElem_cons_succ, List.getElem_cons_zero, List.setIfInBounds_toArray, List.set_cons_zero, List.set_cons_succ])
                refine wpAnyF_take (i := 10) (oi := _) (v := ?_) rfl (by kernel_rfl) (by kernel_rfl) (by kernel_rfl) (by kernel_rfl) (fun _ _ _ h => h) (Or.inl ⟨by rfl, ?_⟩) (by assumption) ?_
                rotate_left 1
                · intro w hSw
                  (try dsimp only at hSw)
                  obtain ⟨y0, y1, y2, y3, y4, y5⟩ := HBC.out w (HB6a.out.trans (hSw.mono HB6a.out.size))
                  obtain ⟨u0, u1, hbo⟩ := HO3.out w (HB6a.out.trans (hSw.mono HB6a.out.size))
                  (first | (go_simp; done) | (go_simp; with_reducible rfl))
                (try simp only [Act.put, List.getElem_toArray, List.getElem_cons_succ, List.getElem_cons_zero, List.setIfInBounds_toArray, List.set_cons_zero, List.set_cons_succ])
                refine wpAnyF_ready (rs := [11]) (by kernel_rfl) (by simp) ?_
                refine AllReadyF.cons (o := _) rfl (fun K hK => ?_) AllReadyF.nil
                go_simp
                (go_at_call 24)
                ((with_reducible refine (HWI.out _ (HB6a.out.trans (hHeld.mono HB6a.out.size)) kk sv (splL dv cap4 pm) cap4 cap4 HKK.out _ ((HBS6.out.below hHeld).more hHeld.size) HSNZ.out).mono ?_))
                rintro e w7 ⟨g, cap, rfl, hov, hb7⟩
                have HB7w := Lib.hid (hHeld.trans (hb7.mono hHeld.size))
                have HM := Lib.hid hov
                clear hov hb7
                refine hK.out _ _ (HB7w.out) (fun hHeld11 => ?_)
                clear hK K
                (try simp only [Act.put, List.getElem_toArray, List.getElem_cons_succ, List.getElem_cons_zero, List.setIfInBounds_toArray, List.set_cons_zero, List.set_cons_succ])
                refine wpAnyF_take (i := 12) (oi := _) (v := ?_) rfl (by kernel_rfl) (by kernel_rfl) (by kernel_rfl) (by kernel_rfl) (fun _ _ _ h => h) (Or.inl ⟨by rfl, ?_⟩) (by assumption) ?_
                rotate_left 1
                · intro w hSw
                  (try dsimp only at hSw)
                  obtain ⟨y0, y1, y2, y3, y4, y5⟩ := HBC.out w (HB6a.out.trans (hSw.mono HB6a.out.size))
                  (first | (go_simp; done) | (go_simp; with_reducible rfl))
                (try simp only [Act.put, List.getElem_toArray, List.getElem_cons_succ, List.getElem_cons_zero, List.setIfInBounds_toArray, List.set_cons_zero, List.set_cons_succ])
                refine wpAnyF_done (by kernel_rfl) ?_ _
                have HB8 := Lib.hid (HB6a.out.trans (HB7w.out.mono HB6a.out.size))
                have HQ8 := Lib.hid ((HQ6.out.below HB7w.out).more HB7w.out.size)
                clear HB3 HQ3 HB7w HSZ HWI HB6 HB6a HQ6 HBS6
                have HF : Hid (∀ w', Below w7.heap.size w7 w' → StTo w z S (.returned (.tuple #[.slice (some ⟨h, 0, none⟩) 256 cc, .slice (some ⟨g, 0, none⟩) S cap, .bool true])) w') := Lib.hid (fun w' h => HSN.out w' _ _ _ _ _ _ (HB8.out.trans (h.mono HB8.out.size)) ⟨HOK.out, HM.out.below h, (HQ8.out.below h).more h.size⟩)
                have HPG2 := Lib.hid (fun w' (h : Below w7.heap.size w7 w') => HPG.out w' (HB8.out.trans (h.mono HB8.out.size)) (some ⟨g, 0, none⟩) cap _ (HM.out.below h) HOK.out)
                have hc3 := HCV.out w7 HB8.out
                have HCQ := Lib.hid (fun w' (h : Below w7.heap.size w7 w') => conv_at (HQ8.out.below h))
                try clear HST
                clear HSN HPG HEQ HCV
                generalize pageO z (l.set kk (sv, splL dv cap4 pm)) = pg2 at *
                go_upto_region 50 with (fail)
                refine wp_region_F (S := (fun w' => Below w7.heap.size w7 w')) [] (by kernel_rfl) ((Below.refl _ _).drew) (fun hHeld => ?_)
                (try simp only [Act.put, List.getElem_toArray, List.getElem_cons_succ, List.getElem_cons_zero, List.setIfInBounds_toArray, List.set_cons_zero, List.set_cons_succ])
                refine wpAnyF_take (i := 0) (oi := _) (v := ?_) rfl (by kernel_rfl) (by kernel_rfl) (by kernel_rfl) (by kernel_rfl) (fun _ _ _ h => h) (Or.inl ⟨by rfl, ?_⟩) (by assumption) ?_
                rotate_left 1
                · intro w hSw
                  (try dsimp only at hSw)
                  have hCQ := HCQ.out w hSw
                  (first | (go_simp; done) | (go_simp; with_reducible rfl))
                (try simp only [Act.put, List.getElem_toArray, List.getElem_cons_succ, List.getElem_cons_zero, List.setIfInBounds_toArray, List.set_cons_zero, List.set_cons_succ])
                refine wpAnyF_take (i := 1) (oi := _) (v := ?_) rfl (by kernel_rfl) (by kernel_rfl) (by kernel_rfl) (by kernel_rfl) (fun _ _ _ h => h) (Or.inl ⟨by rfl, ?_⟩) (by assumption) ?_
                rotate_left 1
                · intro w hSw
                  (try dsimp only at hSw)
                  have hCQ := HCQ.out w hSw
                  (first | (go_simp; done) | (go_simp; with_reducible rfl))
                (try simp only [Act.put, List.getElem_toArray, List.getElem_cons_succ, List.getElem_cons_zero, List.setIfInBounds_toArray, List.set_cons_zero, List.set_cons_succ])
                refine wpAnyF_take (i := 2) (oi := _) (v := ?_) rfl (by kernel_rfl) (by kernel_rfl) (by kernel_rfl) (by kernel_rfl) (fun _ _ _ h => h) (Or.inl ⟨by rfl, ?_⟩) (by assumption) ?_
                rotate_left 1
                · intro w hSw
                  (try dsimp only at hSw)
                  have hCQ := HCQ.out w hSw
                  (first | (go_simp; done) | (go_simp; with_reducible rfl))
                (try simp only [Act.put, List.getElem_toArray, List.getElem_cons_succ, List.getElem_cons_zero, List.setIfInBounds_toArray, List.set_cons_zero, List.set_cons_succ])
                refine wpAnyF_take (i := 3) (oi := _) (v := ?_) rfl (by kernel_rfl) (by kernel_rfl) (by kernel_rfl) (by kernel_rfl) (fun _ _ _ h => h) (Or.inl ⟨by rfl, ?_⟩) (by assumption) ?_
                rotate_left 1
                · intro w hSw
                  (try dsimp only at hSw)
                  have hCQ := HCQ.out w hSw
                  (first | (go_simp; done) | (go_simp; with_reducible rfl))
                (try simp only [Act.put, List.getElem_toArray, List.getElem_cons_succ, List.getElem_cons_zero, List.setIfInBounds_toArray, List.set_cons_zero, List.set_cons_succ])
                refine wpAnyF_take (i := 4) (oi := _) (v := ?_) rfl (by kernel_rfl) (by kernel_rfl) (by kernel_rfl) (by kernel_rfl) (fun _ _ _ h => h) (Or.inl ⟨by rfl, ?_⟩) (by assumption) ?_
                rotate_left 1
                · intro w hSw
                  (try dsimp only at hSw)
                  have hCQ := HCQ.out w hSw
                  (first | (go_simp; done) | (go_simp; with_reducible rfl))
                (try simp only [Act.put, List.getElem_toArray, List.getElem_cons_succ, List.getElem_cons_zero, List.setIfInBounds_toArray, List.set_cons_zero, List.set_cons_succ])
                refine wpAnyF_take (i := 5) (oi := _) (v := ?_) rfl (by kernel_rfl) (by kernel_rfl) (by kernel_rfl) (by kernel_rfl) (fun _ _ _ h => h) (Or.inl ⟨by rfl, ?_⟩) (by assumption) ?_
                rotate_left 1
                · intro w hSw
                  (try dsimp only at hSw)
                  have hCQ := HCQ.out w hSw
                  (first | (go_simp; done) | (go_simp; with_reducible rfl))
                (try simp only [Act.put, List.getElem_toArray, List.getElem_cons_succ, List.getElem_cons_zero, List.setIfInBounds_toArray, List.set_cons_zero, List.set_cons_succ])
                refine wpAnyF_ready (rs := [6]) (by kernel_rfl) (by simp) ?_
                refine AllReadyF.cons (o := _) rfl (fun K hK => ?_) AllReadyF.nil
                go_simp
                (go_at_call 23)
                ((with_reducible refine (HPG2.out _ hHeld).mono ?_))
                rintro e w7 ⟨A7, c7, rfl, hb7, hx7, hz7⟩
                have HX := Lib.hid hx7
                have HB7 := Lib.hid (hHeld.trans (hb7.mono hHeld.size))
                clear hx7 hb7 hz7
                refine hK.out _ _ (HB7.out) (fun hHeld6 => ?_)
                clear hK K
                (try simp only [Act.put, List.getElem_toArray, List.getElem_cons_succ, List.getElem_cons_zero, List.setIfInBounds_toArray, List.set_cons_zero, List.set_cons_succ])
                refine wpAnyF_take (i := 9) (oi := _) (v := ?_) rfl (by kernel_rfl) (by kernel_rfl) (by kernel_rfl) (by kernel_rfl) (fun _ _ _ h => h) (Or.inl ⟨by rfl, ?_⟩) (by assumption) ?_
                rotate_left 1
                · intro w hSw
                  (try dsimp only at hSw)
                  have hCQ := HCQ.out w hSw
                  (first | (go_simp; done) | (go_simp; with_reducible rfl))
                (try simp only [Act.put, List.getElem_toArray, List.getElem_cons_succ, List.getElem_cons_zero, List.setIfInBounds_toArray, List.set_cons_zero, List.set_cons_succ])
                refine wpAnyF_take (i := 10) (oi := _) (v := ?_) rfl (by kernel_rfl) (by kernel_rfl) (by kernel_rfl) (by kernel_rfl) (fun _ _ _ h => h) (Or.inl ⟨by rfl, ?_⟩) (by assumption) ?_
                rotate_left 1
                · intro w hSw
                  (try dsimp only at hSw)
                  have hCQ := HCQ.out w hSw
                  (first | (go_simp; done) | (go_simp; with_reducible rfl))
                (try simp only [Act.put, List.getElem_toArray, List.getElem_cons_succ, List.getElem_cons_zero, List.setIfInBounds_toArray, List.set_cons_zero, List.set_cons_succ])
                refine wpAnyF_ready (rs := [7]) (by kernel_rfl) (by simp) ?_
                refine AllReadyF.cons (o := _) rfl (fun K hK => ?_) AllReadyF.nil
                have hC7 := conv_at HX.out
                go_simp
                refine hK.out _ _ (HB7.out) (fun hHeld7 => ?_)
                clear hK K
                (try simp only [Act.put, List.getElem_toArray, List.getElem_cons_succ, List.getElem_cons_zero, List.setIfInBounds_toArray, List.set_cons_zero, List.set_cons_succ])
                refine wpAnyF_take (i := 8) (oi := _) (v := ?_) rfl (by kernel_rfl) (by kernel_rfl) (by kernel_rfl) (by kernel_rfl) (fun _ _ _ h => h) (Or.inl ⟨by rfl, ?_⟩) (by assumption) ?_
                rotate_left 1
                · intro w hSw
                  (try dsimp only at hSw)
                  have hCQ := HCQ.out w hSw
                  (first | (go_simp; done) | (go_simp; with_reducible rfl))
                (try simp only [Act.put, List.getElem_toArray, List.getElem_cons_succ, List.getElem_cons_zero, List.setIfInBounds_toArray, List.set_cons_zero, List.set_cons_succ])
                refine wpAnyF_take (i := 11) (oi := _) (v := ?_) rfl (by kernel_rfl) (by kernel_rfl) (by kernel_rfl) (by kernel_rfl) (fun _ _ _ h => h) (Or.inl ⟨by rfl, ?_⟩) (by assumption) ?_
                rotate_left 1
                · intro w hSw
                  (try dsimp only at hSw)
                  have hCQ := HCQ.out w hSw
                  (first | (go_simp; done) | (go_simp; with_reducible rfl))
                (try simp only [Act.put, List.getElem_toArray, List.getElem_cons_succ, List.getElem_cons_zero, List.setIfInBounds_toArray, List.set_cons_zero, List.set_cons_succ])
                refine wpAnyF_done (by kernel_rfl) ?_ _
                go_wp2_with fail
                go_ret3
                exact HF.out _ HB7.out
              · skip
                refine wp_region_F (S := (fun w' => Below w4.heap.size w4 w')) [6] (by kernel_rfl) ((Below.refl _ _).drew) (fun hHeld => ?_)
                (try simp only [Act.put, List.getElem_toArray, List.getElem_cons_succ, List.getElem_cons_zero, List.setIfInBounds_toArray, List.set_cons_zero, List.set_cons_succ])
                refine wpAnyG_take (i := 0) (oi := _) (v := ?_) rfl (by kernel_rfl) (by kernel_rfl) (by kernel_rfl) (by kernel_rfl) (by kernel_rfl) (fun _ _ _ h => h) (Or.inl ⟨by rfl, ?_⟩) (by assumption) ?_
                rotate_left 1
                · intro w hSw
                  (try dsimp only at hSw)
                  obtain ⟨y0, y1, y2, y3, y4, y5⟩ := HBC.out w (HB4.out.trans (hSw.mono HB4.out.size))
                  (first | (go_simp; done) | (go_simp; with_reducible rfl))
                (try simp only [Act.put, List.getElem_toArray, List.getElem_cons_succ, List.getElem_cons_zero, List.setIfInBounds_toArray, List.set_cons_zero, List.set_cons_succ])
                refine wpAnyG_take (i := 1) (oi := _) (v := ?_) rfl (by kernel_rfl) (by kernel_rfl) (by kernel_rfl) (by kernel_rfl) (by kernel_rfl) (fun _ _ _ h => h) (Or.inl ⟨by rfl, ?_⟩) (by assumption) ?_
                rotate_left 1
                · intro w hSw
                  (try dsimp only at hSw)
                  obtain ⟨y0, y1, y2, y3, y4, y5⟩ := HBC.out w (HB4.out.trans (hSw.mono HB4.out.size))
                  (first | (go_simp; done) | (go_simp; with_reducible rfl))
                (try simp only [Act.put, List.getElem_toArray, List.getElem_cons_succ, List.getElem_cons_zero, List.setIfInBounds_toArray, List.set_cons_zero, List.set_cons_succ])
                refine wpAnyG_take (i := 2) (oi := _) (v := ?_) rfl (by kernel_rfl) (by kernel_rfl) (by kernel_rfl) (by kernel_rfl) (by kernel_rfl) (fun _ _ _ h => h) (Or.inl ⟨by rfl, ?_⟩) (by assumption) ?_
                rotate_left 1
                · intro w hSw
                  (try dsimp only at hSw)
                  obtain ⟨y0, y1, y2, y3, y4, y5⟩ := HBC.out w (HB4.out.trans (hSw.mono HB4.out.size))
                  (first | (go_simp; done) | (go_simp; with_reducible rfl))
                (try simp only [Act.put, List.getElem_toArray, List.getElem_cons_succ, List.getElem_cons_zero, List.setIfInBounds_toArray, List.set_cons_zero, List.set_cons_succ])
                refine wpAnyG_take (i := 3) (oi := _) (v := ?_) rfl (by kernel_rfl) (by kernel_rfl) (by kernel_rfl) (by kernel_rfl) (by kernel_rfl) (fun _ _ _ h => h) (Or.inl ⟨by rfl, ?_⟩) (by assumption) ?_
                rotate_left 1
                · intro w hSw
                  (try dsimp only at hSw)
                  obtain ⟨y0, y1, y2, y3, y4, y5⟩ := HBC.out w (HB4.out.trans (hSw.mono HB4.out.size))
                  (first | (go_simp; done) | (go_simp; with_reducible rfl))
                (try simp only [Act.put, List.getElem_toArray, List.getElem_cons_succ, List.getElem_cons_zero, List.setIfInBounds_toArray, List.set_cons_zero, List.set_cons_succ])
                refine wpAnyG_take (i := 4) (oi := _) (v := ?_) rfl (by kernel_rfl) (by kernel_rfl) (by kernel_rfl) (by kernel_rfl) (by kernel_rfl) (fun _ _ _ h => h) (Or.inl ⟨by rfl, ?_⟩) (by assumption) ?_
                rotate_left 1
                · intro w hSw
                  (try dsimp only at hSw)
                  obtain ⟨y0, y1, y2, y3, y4, y5⟩ := HBC.out w (HB4.out.trans (hSw.mono HB4.out.size))
                  (first | (go_simp; done) | (go_simp; with_reducible rfl))
                (try simp only [Act.put, List.getElem_toArray, List.getElem_cons_succ, List.getElem_cons_zero, List.setIfInBounds_toArray, List.set_cons_zero, List.set_cons_succ])
                refine wpAnyG_take (i := 5) (oi := _) (v := ?_) rfl (by kernel_rfl) (by kernel_rfl) (by kernel_rfl) (by kernel_rfl) (by kernel_rfl) (fun _ _ _ h => h) (Or.inl ⟨by rfl, ?_⟩) (by assumption) ?_
                rotate_left 1
                · intro w hSw
                  (try dsimp only at hSw)
                  obtain ⟨y0, y1, y2, y3, y4, y5⟩ := HBC.out w (HB4.out.trans (hSw.mono HB4.out.size))
                  (first | (go_simp; done) | (go_simp; with_reducible rfl))
                (try simp only [Act.put, List.getElem_toArray, List.getElem_cons_succ, List.getElem_cons_zero, List.setIfInBounds_toArray, List.set_cons_zero, List.set_cons_succ])
                refine wpAnyF_ready (rs := [6]) (by kernel_rfl) (by simp) ?_
                refine AllReadyF.last (o := _) rfl (by rfl) (fun K hK => ?_) AllReadyF.nil
                have HG5 := Lib.hid ((hHeld.block _ (blk_lt HG4.out)).trans HG4.out)
                have HX := Lib.hid (HSB.out.below (HB4.out.trans (hHeld.mono HB4.out.size)))
                have HRD : Hid (0 < (bvals pm).length → some (⟨g4, a, none⟩ : Addr) = some ⟨g4, a, none⟩ ∧ ∃ ad, Ab = some ad ∧ ∀ j v, (bvals pm)[j]? = some v → w4.drew.cell? (ad.add j) = some v) := Lib.hid (fun hl => ⟨by first | rfl | (rw [bvals_len, HPL.out] at hl; omega), by
                  rw [bvals_len, HPL.out] at hl
                  have := bs_reads HX.out (k := m) (Nat.le_refl _) hl
                  rwa [List.take_of_length_le (by rw [HPL.out]; omega)] at this⟩)
                have HLN : Hid ((bvals pm).length = Nat.min m (dn - a)) := Lib.hid (by rw [bvals_len, HPL.out]; exact (Nat.min_eq_left (by omega)).symm)
                have HFT : Hid (a + (bvals pm).length ≤ cur4.length) := Lib.hid (by rw [bvals_len, HPL.out, HC4.out]; omega)
                refine step_copy_only rfl (.tmp 225) (.tmp 227) 23 23 rfl 5 Tryd.underlying23 size_u8 (some (⟨g4, a, none⟩ : Addr)) Ab (dn - a) (cap4 - a) m cb rfl rfl g4 a cur4 5 HG5.out (bvals pm) HLN.out HRD.out HFT.out (bvals_one _) ?_
                intro w6 hq hg6
                have HO6 : Hid (Own w6 w3.heap.size (.slice (some ⟨g4, 0, none⟩) dn cap4) (splL dv a pm)) := Lib.hid (own_spl HOW4.out HDL.out HG4.out hq.out (by rw [HPL.out]; omega))
                have HB6 : Hid (Below w3.heap.size w3 w6) := Lib.hid (below_own (HB4w.out.trans (hHeld.mono HB4w.out.size)) HGB.out hg6)
                clear hq hg6
                refine hK.out _ _ ?_
                clear hK K
                (try simp only [Act.put, List.getElem_toArray, List.getElem_cons_succ, List.getElem_cons_zero, List.setIfInBounds_toArray, List.set_cons_zero, List.set_cons_succ])
                refine wpAnyF_done (by kernel_rfl) ?_ _
                have HB6a := Lib.hid (HB3.out.trans (HB6.out.mono HB3.out.size))
                have HQ6 := Lib.hid ((HQ3.out.below HB6.out).more HB6.out.size)
                have HBS6 : Hid (BS w6 w6.heap.size (some ⟨g4, 0, none⟩) dn cap4 (splL dv a pm)) := Lib.hid (own_bs HO6.out (splL_byte (by rw [HPL.out, HDL.out]; omega) HSD.out.byte HSB.out.byte) (by rw [splL_len (by rw [HPL.out, HDL.out]; omega)]; exact HDL.out))
                have HSNZ : Hid ((some (⟨g4, 0, none⟩ : Addr)) = none → cap4 = 0) := Lib.hid (by intro e; cases e)
                go_upto_region 45 with (fail)
                refine wp_region_F (S := (fun w' => Below w6.heap.size w6 w')) [] (by kernel_rfl) ((Below.refl _ _).drew) (fun hHeld => ?_)
                (try simp only [Act.put, List.getElem_toArray, List.getElem_cons_succ, List.getElem_cons_zero, List.setIfInBounds_toArray, List.set_cons_zero, List.set_cons_succ])
                refine wpAnyF_take (i := 0) (oi := _) (v := ?_) rfl (by kernel_rfl) (by kernel_rfl) (by kernel_rfl) (by kernel_rfl) (fun _ _ _ h => h) (Or.inl ⟨by rfl, ?_⟩) (by assumption) ?_
                rotate_left 1
                · intro w hSw
                  (try dsimp only at hSw)
                  obtain ⟨y0, y1, y2, y3, y4, y5⟩ := HBC.out w (HB6a.out.trans (hSw.mono HB6a.out.size))
                  obtain ⟨u0, u1, hbo⟩ := HO3.out w (HB6a.out.trans (hSw.mono HB6a.out.size))
                  (first | (go_simp; done) | (go_simp; with_reducible rfl))
                (try simp only [Act.put, List.getElem_toArray, List.getElem_cons_succ, List.getElem_cons_zero, List.setIfInBounds_toArray, List.set_cons_zero, List.set_cons_succ])
                refine wpAnyF_take (i := 1) (oi := _) (v := ?_) rfl (by kernel_rfl) (by kernel_rfl) (by kernel_rfl) (by kernel_rfl) (fun _ _ _ h => h) (Or.inl ⟨by rfl, ?_⟩) (by assumption) ?_
                rotate_left 1
                · intro w hSw
                  (try dsimp only at hSw)
                  obtain ⟨y0, y1, y2, y3, y4, y5⟩ := HBC.out w (HB6a.out.trans (hSw.mono HB6a.out.size))
                  obtain ⟨u0, u1, hbo⟩ := HO3.out w (HB6a.out.trans (hSw.mono HB6a.out.size))
                  (first | (go_simp; done) | (go_simp; with_reducible rfl))
                (try simp only [Act.put, List.getElem_toArray, List.getElem_cons_succ, List.getElem_cons_zero, List.setIfInBounds_toArray, List.set_cons_zero, List.set_cons_succ])
                refine wpAnyF_take (i := 2) (oi := _) (v := ?_) rfl (by kernel_rfl) (by kernel_rfl) (by kernel_rfl) (by kernel_rfl) (fun _ _ _ h => h) (Or.inl ⟨by rfl, ?_⟩) (by assumption) ?_
                rotate_left 1
                · intro w hSw
                  (try dsimp only at hSw)
                  obtain ⟨y0, y1, y2, y3, y4, y5⟩ := HBC.out w (HB6a.out.trans (hSw.mono HB6a.out.size))
                  obtain ⟨u0, u1, hbo⟩ := HO3.out w (HB6a.out.trans (hSw.mono HB6a.out.size))
                  (first | (go_simp; done) | (go_simp; with_reducible rfl))
                (try simp only [Act.put, List.getElem_toArray, List.getElem_cons_succ, List.getElem_cons_zero, List.setIfInBounds_toArray, List.set_cons_zero, List.set_cons_succ])
                refine wpAnyF_take (i := 3) (oi := _) (v := ?_) rfl (by kernel_rfl) (by kernel_rfl) (by kernel_rfl) (by kernel_rfl) (fun _ _ _ h => h) (Or.inl ⟨by rfl, ?_⟩) (by assumption) ?_
                rotate_left 1
                · intro w hSw
                  (try dsimp only at hSw)
                  obtain ⟨y0, y1, y2, y3, y4, y5⟩ := HBC.out w (HB6a.out.trans (hSw.mono HB6a.out.size))
                  obtain ⟨u0, u1, hbo⟩ := HO3.out w (HB6a.out.trans (hSw.mono HB6a.out.size))
                  (first | (go_simp; done) | (go_simp; with_reducible rfl))
                (try simp only [Act.put, List.getElem_toArray, List.getElem_cons_succ, List.getElem_cons_zero, List.setIfInBounds_toArray, List.set_cons_zero, List.set_cons_succ])
                refine wpAnyF_take (i := 4) (oi := _) (v := ?_) rfl (by kernel_rfl) (by kernel_rfl) (by kernel_rfl) (by kernel_rfl) (fun _ _ _ h => h) (Or.inl ⟨by rfl, ?_⟩) (by assumption) ?_
                rotate_left 1
                · intro w hSw
                  (try dsimp only at hSw)
                  obtain ⟨y0, y1, y2, y3, y4, y5⟩ := HBC.out w (HB6a.out.trans (hSw.mono HB6a.out.size))
                  obtain ⟨u0, u1, hbo⟩ := HO3.out w (HB6a.out.trans (hSw.mono HB6a.out.size))
                  (first | (go_simp; done) | (go_simp; with_reducible rfl))
                (try simp only [Act.put, List.getElem_toArray, List.getElem_cons_succ, List.getElem_cons_zero, List.setIfInBounds_toArray, List.set_cons_zero, List.set_cons_succ])
                refine wpAnyF_take (i := 5) (oi := _) (v := ?_) rfl (by kernel_rfl) (by kernel_rfl) (by kernel_rfl) (by kernel_rfl) (fun _ _ _ h => h) (Or.inl ⟨by rfl, ?_⟩) (by assumption) ?_
                rotate_left 1
                · intro w hSw
                  (try dsimp only at hSw)
                  obtain ⟨y0, y1, y2, y3, y4, y5⟩ := HBC.out w (HB6a.out.trans (hSw.mono HB6a.out.size))
                  obtain ⟨u0, u1, hbo⟩ := HO3.out w (HB6a.out.trans (hSw.mono HB6a.out.size))
                  (first | (go_simp; done) | (go_simp; with_reducible rfl))
                (try simp only [Act.put, List.getElem_toArray, List.getElem_cons_succ, List.getElem_cons_zero, List.setIfInBounds_toArray, List.set_cons_zero, List.set_cons_succ])
                refine wpAnyF_take (i := 6) (oi := _) (v := ?_) rfl (by kernel_rfl) (by kernel_rfl) (by kernel_rfl) (by kernel_rfl) (fun _ _ _ h => h) (Or.inl ⟨by rfl, ?_⟩) (by assumption) ?_
                rotate_left 1
                · intro w hSw
                  (try dsimp only at hSw)
                  obtain ⟨y0, y1, y2, y3, y4, y5⟩ := HBC.out w (HB6a.out.trans (hSw.mono HB6a.out.size))
                  obtain ⟨u0, u1, hbo⟩ := HO3.out w (HB6a.out.trans (hSw.mono HB6a.out.size))
                  (first | (go_simp; done) | (go_simp; with_reducible rfl))
                (try simp only [Act.put, List.getElem_toArray, List.getElem_cons_succ, List.getElem_cons_zero, List.setIfInBounds_toArray, List.set_cons_zero, List.set_cons_succ])
                refine wpAnyF_take (i := 7) (oi := _) (v := ?_) rfl (by kernel_rfl) (by kernel_rfl) (by kernel_rfl) (by kernel_rfl) (fun _ _ _ h => h) (Or.inl ⟨by rfl, ?_⟩) (by assumption) ?_
                rotate_left 1
                · intro w hSw
                  (try dsimp only at hSw)
                  obtain ⟨y0, y1, y2, y3, y4, y5⟩ := HBC.out w (HB6a.out.trans (hSw.mono HB6a.out.size))
                  obtain ⟨u0, u1, hbo⟩ := HO3.out w (HB6a.out.trans (hSw.mono HB6a.out.size))
                  (first | (go_simp; done) | (go_simp; with_reducible rfl))
                (try simp only [Act.put, List.getElem_toArray, List.getElem_cons_succ, List.getElem_cons_zero, List.setIfInBounds_toArray, List.set_cons_zero, List.set_cons_succ])
                refine wpAnyF_take (i := 8) (oi := _) (v := ?_) rfl (by kernel_rfl) (by kernel_rfl) (by kernel_rfl) (by kernel_rfl) (fun _ _ _ h => h) (Or.inl ⟨by rfl, ?_⟩) (by assumption) ?_
                rotate_left 1
                · intro w hSw
                  (try dsimp only at hSw)
                  obtain ⟨y0, y1, y2, y3, y4, y5⟩ := HBC.out w (HB6a.out.trans (hSw.mono HB6a.out.size))
                  obtain ⟨u0, u1, hbo⟩ := HO3.out w (HB6a.out.trans (hSw.mono HB6a.out.size))
                  (first | (go_simp; done) | (go_simp; with_reducible rfl))
                (try simp only [Act.put, List.getElem_toArray, List.getElem_cons_succ, List.getElem_cons_zero, List.setIfInBounds_toArray, List.set_cons_zero, List.set_cons_succ])
                refine wpAnyF_take (i := 9) (oi := _) (v := ?_) rfl (by kernel_rfl) (by kernel_rfl) (by kernel_rfl) (by kernel_rfl) (fun _ _ _ h => h) (Or.inl ⟨by rfl, ?_⟩) (by assumption) ?_
                rotate_left 1
                · intro w hSw
                  (try dsimp only at hSw)
                  obtain ⟨y0, y1, y2, y3, y4, y5⟩ := HBC.out w (HB6a.out.trans (hSw.mono HB6a.out.size))
                  obtain ⟨u0, u1, hbo⟩ := HO3.out w (HB6a.out.trans (hSw.mono HB6a.out.size))
                  (first | (go_simp; done) | (go_simp; with_reducible rfl))
                (try simp only [Act.put, List.getElem_toArray, List.getElem_cons_succ, List.getElem_cons_zero, List.setIfInBounds_toArray, List.set_cons_zero, List.set_cons_succ])
                refine wpAnyF_take (i := 10) (oi := _) (v := ?_) rfl (by kernel_rfl) (by kernel_rfl) (by kernel_rfl) (by kernel_rfl) (fun _ _ _ h => h) (Or.inl ⟨by rfl, ?_⟩) (by assumption) ?_
                rotate_left 1
                · intro w hSw
                  (try dsimp only at hSw)
                  obtain ⟨y0, y1, y2, y3, y4, y5⟩ := HBC.out w (HB6a.out.trans (hSw.mono HB6a.out.size))
                  obtain ⟨u0, u1, hbo⟩ := HO3.out w (HB6a.out.trans (hSw.mono HB6a.out.size))
                  (first | (go_simp; done) | (go_simp; with_reducible rfl))
                (try simp only [Act.put, List.getElem_toArray, List.getElem_cons_succ, List.getElem_cons_zero, List.setIfInBounds_toArray, List.set_cons_zero, List.set_cons_succ])
                refine wpAnyF_ready (rs := [11]) (by kernel_rfl) (by simp) ?_
                refine AllReadyF.cons (o := _) rfl (fun K hK => ?_) AllReadyF.nil
                go_simp
                (go_at_call 24)
                ((with_reducible refine (HWI.out _ (HB6a.out.trans (hHeld.mono HB6a.out.size)) kk sv (splL dv a pm) dn cap4 HKK.out _ ((HBS6.out.below hHeld).more hHeld.size) HSNZ.out).mono ?_))
                rintro e w7 ⟨g, cap, rfl, hov, hb7⟩
                have HB7w := Lib.hid (hHeld.trans (hb7.mono hHeld.size))
                have HM := Lib.hid hov
                clear hov hb7
                refine hK.out _ _ (HB7w.out) (fun hHeld11 => ?_)
                clear hK K
                (try simp only [Act.put, List.getElem_toArray, List.getElem_cons_succ, List.getElem_cons_zero, List.setIfInBounds_toArray, List.set_cons_zero, List.set_cons_succ])
                refine wpAnyF_take (i := 12) (oi := _) (v := ?_) rfl (by kernel_rfl) (by kernel_rfl) (by kernel_rfl) (by kernel_rfl) (fun _ _ _ h => h) (Or.inl ⟨by rfl, ?_⟩) (by assumption) ?_
                rotate_left 1
                · intro w hSw
                  (try dsimp only at hSw)
                  obtain ⟨y0, y1, y2, y3, y4, y5⟩ := HBC.out w (HB6a.out.trans (hSw.mono HB6a.out.size))
                  (first | (go_simp; done) | (go_simp; with_reducible rfl))
                (try simp only [Act.put, List.getElem_toArray, List.getElem_cons_succ, List.getElem_cons_zero, List.setIfInBounds_toArray, List.set_cons_zero, List.set_cons_succ])
                refine wpAnyF_done (by kernel_rfl) ?_ _
                have HB8 := Lib.hid (HB6a.out.trans (HB7w.out.mono HB6a.out.size))
                have HQ8 := Lib.hid ((HQ6.out.below HB7w.out).more HB7w.out.size)
                clear HB3 HQ3 HB7w HSZ HWI HB6 HB6a HQ6 HBS6
                have HF : Hid (∀ w', Below w7.heap.size w7 w' → StTo w z S (.returned (.tuple #[.slice (some ⟨h, 0, none⟩) 256 cc, .slice (some ⟨g, 0, none⟩) S cap, .bool true])) w') := Lib.hid (fun w' h => HSN.out w' _ _ _ _ _ _ (HB8.out.trans (h.mono HB8.out.size)) ⟨HOK.out, HM.out.below h, (HQ8.out.below h).more h.size⟩)
                have HPG2 := Lib.hid (fun w' (h : Below w7.heap.size w7 w') => HPG.out w' (HB8.out.trans (h.mono HB8.out.size)) (some ⟨g, 0, none⟩) cap _ (HM.out.below h) HOK.out)
                have hc3 := HCV.out w7 HB8.out
                have HCQ := Lib.hid (fun w' (h : Below w7.heap.size w7 w') => conv_at (HQ8.out.below h))
                try clear HST
                clear HSN HPG HEQ HCV
                generalize pageO z (l.set kk (sv, splL dv a pm)) = pg2 at *
                go_upto_region 50 with (fail)
                refine wp_region_F (S := (fun w' => Below w7.heap.size w7 w')) [] (by kernel_rfl) ((Below.refl _ _).drew) (fun hHeld => ?_)
                (try simp only [Act.put, List.getElem_toArray, List.getElem_cons_succ, List.getElem_cons_zero, List.setIfInBounds_toArray, List.set_cons_zero, List.set_cons_succ])
                refine wpAnyF_take (i := 0) (oi := _) (v := ?_) rfl (by kernel_rfl) (by kernel_rfl) (by kernel_rfl) (by kernel_rfl) (fun _ _ _ h => h) (Or.inl ⟨by rfl, ?_⟩) (by assumption) ?_
                rotate_left 1
                · intro w hSw
                  (try dsimp only at hSw)
                  have hCQ := HCQ.out w hSw
                  (first | (go_simp; done) | (go_simp; with_reducible rfl))
                (try simp only [Act.put, List.getElem_toArray, List.getElem_cons_succ, List.getElem_cons_zero, List.setIfInBounds_toArray, List.set_cons_zero, List.set_cons_succ])
                refine wpAnyF_take (i := 1) (oi := _) (v := ?_) rfl (by kernel_rfl) (by kernel_rfl) (by kernel_rfl) (by kernel_rfl) (fun _ _ _ h => h) (Or.inl ⟨by rfl, ?_⟩) (by assumption) ?_
                rotate_left 1
                · intro w hSw
                  (try dsimp only at hSw)
                  have hCQ := HCQ.out w hSw
                  (first | (go_simp; done) | (go_simp; with_reducible rfl))
                (try simp only [Act.put, List.getElem_toArray, List.getElem_cons_succ, List.getElem_cons_zero, List.setIfInBounds_toArray, List.set_cons_zero, List.set_cons_succ])
                refine wpAnyF_take (i := 2) (oi := _) (v := ?_) rfl (by kernel_rfl) (by kernel_rfl) (by kernel_rfl) (by kernel_rfl) (fun _ _ _ h => h) (Or.inl ⟨by rfl, ?_⟩) (by assumption) ?_
                rotate_left 1
                · intro w hSw
                  (try dsimp only at hSw)
                  have hCQ := HCQ.out w hSw
                  (first | (go_simp; done) | (go_simp; with_reducible rfl))
                (try simp only [Act.put, List.getElem_toArray, List.getElem_cons_succ, List.getElem_cons_zero, List.setIfInBounds_toArray, List.set_cons_zero, List.set_cons_succ])
                refine wpAnyF_take (i := 3) (oi := _) (v := ?_) rfl (by kernel_rfl) (by kernel_rfl) (by kernel_rfl) (by kernel_rfl) (fun _ _ _ h => h) (Or.inl ⟨by rfl, ?_⟩) (by assumption) ?_
                rotate_left 1
                · intro w hSw
                  (try dsimp only at hSw)
                  have hCQ := HCQ.out w hSw
                  (first | (go_simp; done) | (go_simp; with_reducible rfl))
                (try simp only [Act.put, List.getElem_toArray, List.getElem_cons_succ, List.getElem_cons_zero, List.setIfInBounds_toArray, List.set_cons_zero, List.set_cons_succ])
                refine wpAnyF_take (i := 4) (oi := _) (v := ?_) rfl (by kernel_rfl) (by kernel_rfl) (by kernel_rfl) (by kernel_rfl) (fun _ _ _ h => h) (Or.inl ⟨by rfl, ?_⟩) (by assumption) ?_
                rotate_left 1
                · intro w hSw
                  (try dsimp only at hSw)
                  have hCQ := HCQ.out w hSw
                  (first | (go_simp; done) | (go_simp; with_reducible rfl))
                (try simp only [Act.put, List.getElem_toArray, List.getElem_cons_succ, List.getElem_cons_zero, List.setIfInBounds_toArray, List.set_cons_zero, List.set_cons_succ])
                refine wpAnyF_take (i := 5) (oi := _) (v := ?_) rfl (by kernel_rfl) (by kernel_rfl) (by kernel_rfl) (by kernel_rfl) (fun _ _ _ h => h) (Or.inl ⟨by rfl, ?_⟩) (by assumption) ?_
                rotate_left 1
                · intro w hSw
                  (try dsimp only at hSw)
                  have hCQ := HCQ.out w hSw
                  (first | (go_simp; done) | (go_simp; with_reducible rfl))
                (try simp only [Act.put, List.getElem_toArray, List.getElem_cons_succ, List.getElem_cons_zero, List.setIfInBounds_toArray, List.set_cons_zero, List.set_cons_succ])
                refine wpAnyF_ready (rs := [6]) (by kernel_rfl) (by simp) ?_
                refine AllReadyF.cons (o := _) rfl (fun K hK => ?_) AllReadyF.nil
                go_simp
                (go_at_call 23)
                ((with_reducible refine (HPG2.out _ hHeld).mono ?_))
                rintro e w7 ⟨A7, c7, rfl, hb7, hx7, hz7⟩
                have HX := Lib.hid hx7
                have HB7 := Lib.hid (hHeld.trans (hb7.mono hHeld.size))
                clear hx7 hb7 hz7
                refine hK.out _ _ (HB7.out) (fun hHeld6 => ?_)
                clear hK K
                (try simp only [Act.put, List.getElem_toArray, List.getElem_cons_succ, List.getElem_cons_zero, List.setIfInBounds_toArray, List.set_cons_zero, List.set_cons_succ])
                refine wpAnyF_take (i := 9) (oi := _) (v := ?_) rfl (by kernel_rfl) (by kernel_rfl) (by kernel_rfl) (by kernel_rfl) (fun _ _ _ h => h) (Or.inl ⟨by rfl, ?_⟩) (by assumption) ?_
                rotate_left 1
                · intro w hSw
                  (try dsimp only at hSw)
                  have hCQ := HCQ.out w hSw
                  (first | (go_simp; done) | (go_simp; with_reducible rfl))
                (try simp only [Act.put, List.getElem_toArray, List.getElem_cons_succ, List.getElem_cons_zero, List.setIfInBounds_toArray, List.set_cons_zero, List.set_cons_succ])
                refine wpAnyF_take (i := 10) (oi := _) (v := ?_) rfl (by kernel_rfl) (by kernel_rfl) (by kernel_rfl) (by kernel_rfl) (fun _ _ _ h => h) (Or.inl ⟨by rfl, ?_⟩) (by assumption) ?_
                rotate_left 1
                · intro w hSw
                  (try dsimp only at hSw)
                  have hCQ := HCQ.out w hSw
                  (first | (go_simp; done) | (go_simp; with_reducible rfl))
                (try simp only [Act.put, List.getElem_toArray, List.getElem_cons_succ, List.getElem_cons_zero, List.setIfInBounds_toArray, List.set_cons_zero, List.set_cons_succ])
                refine wpAnyF_ready (rs := [7]) (by kernel_rfl) (by simp) ?_
                refine AllReadyF.cons (o := _) rfl (fun K hK => ?_) AllReadyF.nil
                have hC7 := conv_at HX.out
                go_simp
                refine hK.out _ _ (HB7.out) (fun hHeld7 => ?_)
                clear hK K
                (try simp only [Act.put, List.getElem_toArray, List.getElem_cons_succ, List.getElem_cons_zero, List.setIfInBounds_toArray, List.set_cons_zero, List.set_cons_succ])
                refine wpAnyF_take (i := 8) (oi := _) (v := ?_) rfl (by kernel_rfl) (by kernel_rfl) (by kernel_rfl) (by kernel_rfl) (fun _ _ _ h => h) (Or.inl ⟨by rfl, ?_⟩) (by assumption) ?_
                rotate_left 1
                · intro w hSw
                  (try dsimp only at hSw)
                  have hCQ := HCQ.out w hSw
                  (first | (go_simp; done) | (go_simp; with_reducible rfl))
                (try simp only [Act.put, List.getElem_toArray, List.getElem_cons_succ, List.getElem_cons_zero, List.setIfInBounds_toArray, List.set_cons_zero, List.set_cons_succ])
                refine wpAnyF_take (i := 11) (oi := _) (v := ?_) rfl (by kernel_rfl) (by kernel_rfl) (by kernel_rfl) (by kernel_rfl) (fun _ _ _ h => h) (Or.inl ⟨by rfl, ?_⟩) (by assumption) ?_
                rotate_left 1
                · intro w hSw
                  (try dsimp only at hSw)
                  have hCQ := HCQ.out w hSw
                  (first | (go_simp; done) | (go_simp; with_reducible rfl))
                (try simp only [Act.put, List.getElem_toArray, List.getElem_cons_succ, List.getElem_cons_zero, List.setIfInBounds_toArray, List.set_cons_zero, List.set_cons_succ])
                refine wpAnyF_done (by kernel_rfl) ?_ _
                go_wp2_with fail
                go_ret3
                exact HF.out _ HB7.out
  · have h1I : (130 : Int) < (nb : Int) := by omega
    have h130c : 130 ≤ cb := by omega
    cases hh : hasO l K
    · skip
      go_enter Tryd.func8, Tryd.ntmps8
      go_wp2_with fail
      refine HWR.out.mono ?_
      rintro e w1 ⟨hb1, (⟨hx, rfl⟩ | ⟨h, _⟩ | ⟨h, _⟩)⟩
      · have HB1 := Lib.hid hb1
        have HTQ : Hid (∀ m, Calls Tryd.prog 18 #[.slice A S cl, .int .i64 K] (w1.drewN m) fun e w' => e = .returned (.bool (hasO l K)) ∧ w' = w1.drewN m) := Lib.hid (fun m => (HTH.out (w1.drewN m) (below_drewN HB1.out m)).mono fun _ _ h => ⟨h.1, h.2.symm⟩)
        have hcm : ∀ m, (convert 23 9 (.slice (some ⟨b, q, none⟩) 256 c)).run Tryd.prog (w1.drewN m) = .ok (.string sp) (w1.drewN m) := fun m => HCV.out _ (below_drewN HB1.out m)
        have HT3 := Lib.hid (fun m => HTH.out (w1.drewN m) (below_drewN HB1.out m))
        have HF := Lib.hid (fun m => HST.out (w1.drewN m) (below_drewN HB1.out m))
        obtain ⟨y0, y1, y2, y3, y4, y5⟩ := HBC.out w1 hb1
        rw [hh] at HTQ HT3
        clear HTH HWI HSN HPG HEQ HCV hb1 HWR HST hx hh
        go_upto_region 39 with (fail)
        go_big_quiet (with_reducible exact Calls.quiet_of_same (HTQ.out _))
        go_wp2_with fail
        refine (HT3.out _).mono ?_
        rintro e w2 ⟨rfl, rfl⟩
        go_wp2_with fail
        go_ret3
        exact HF.out _
      · rw [hh] at h; cases h
      · rw [hh] at h; cases h
    · by_cases c1 : at_ < 0
      · skip
        have hat2 := hasO_at hh
        obtain ⟨kk, rfl⟩ : ∃ kk : Nat, K = (kk : Int) := ⟨K.toNat, by omega⟩
        have HKK : Hid (kk < S) := Lib.hid (by have := HLEN.out; omega)
        rw [Int.toNat_natCast] at hat2
        obtain ⟨bo, o, A1, ca1, rfl, hb0, q0, q1, q2, q3⟩ := HP.out.ob.at_ HKK.out
        have HO3 : Hid (∀ w', Below (w.alloc (.cells #[.int .i64 5, .int .i64 (kk : Int), .int .i64 N, .int .i64 at_, .int .u64 (s : Int), .slice Ab 130 cb] 29)).heap.size (w.alloc (.cells #[.int .i64 5, .int .i64 (kk : Int), .int .i64 N, .int .i64 at_, .int .u64 (s : Int), .slice Ab 130 cb] 29)) w' → w'.cell? ⟨bo, o + kk * 2, none⟩ = some (.int .u64 (((oAt l kk).1 : Nat) : Int)) ∧ w'.cell? ⟨bo, o + kk * 2 + 1, none⟩ = some (.slice A1 (oAt l kk).2.length ca1) ∧ bo < w'.heap.size) := Lib.hid (fun w' h => ⟨(h.cell (p := ⟨bo, o + kk * 2, none⟩) hb0).trans q0, (h.cell (p := ⟨bo, o + kk * 2 + 1, none⟩) hb0).trans q1, Nat.lt_of_lt_of_le hb0 h.size⟩)
        have HQD := Lib.hid q2
        have HL9 : Hid ((oAt l kk).2.length ≤ 120) := Lib.hid (by have := HLG.out kk; have := HZ6.out; omega)
        have HL1 : Hid (1 ≤ (oAt l kk).2.length) := Lib.hid (by have := HLI.out kk; omega)
        have hL9 := HL9.out
        have hL1 := HL1.out
        have HWRB : Hid (wrB l (kk : Int) at_ 130 = decide (0 ≤ at_ ∧ at_ + (130 : Int) ≤ (((oAt l kk).2.length : Nat) : Int))) := Lib.hid (by unfold wrB; rw [Int.toNat_natCast]; try rfl)
        rw [HWRB.out, Int.toNat_natCast] at HWR
        have HKS := HKK.out
        clear q0 q1 q2 q3 hb0 hat2
        generalize (oAt l kk).1 = sv at *
        generalize (oAt l kk).2 = dv at *
        generalize dv.length = dn at *
        have hft : (decide (0 ≤ at_ ∧ at_ + (130 : Int) ≤ (dn : Int))) = false := decide_eq_false (by omega)
        rw [hft] at HWR
        go_enter Tryd.func8, Tryd.ntmps8
        go_wp2_with fail
        refine HWR.out.mono ?_
        rintro e w1 ⟨hb1, (⟨h, _⟩ | ⟨hx, hy, rfl⟩ | ⟨_, h, _⟩)⟩
        · rw [hh] at h; cases h
        · have HB1 := Lib.hid hb1
          have HTQ : Hid (∀ m, Calls Tryd.prog 18 #[.slice (some ⟨bo, o, none⟩) S cl, .int .i64 (kk : Int)] (w1.drewN m) fun e w' => e = .returned (.bool (hasO l (kk : Int))) ∧ w' = w1.drewN m) := Lib.hid (fun m => (HTH.out (w1.drewN m) (below_drewN HB1.out m)).mono fun _ _ h => ⟨h.1, h.2.symm⟩)
          have hcm : ∀ m, (convert 23 9 (.slice (some ⟨b, q, none⟩) 256 c)).run Tryd.prog (w1.drewN m) = .ok (.string sp) (w1.drewN m) := fun m => HCV.out _ (below_drewN HB1.out m)
          have HF := Lib.hid (fun m => HST.out (w1.drewN m) (below_drewN HB1.out m))
          obtain ⟨y0, y1, y2, y3, y4, y5⟩ := HBC.out w1 hb1
          obtain ⟨u0, u1, hbo⟩ := HO3.out w1 hb1
          rw [hh] at HTQ
          clear HTH HWI HSN HPG HEQ HCV hb1 HWR HST hx hy hh hft
          go_upto_region 39 with (fail)
          go_big_quiet (with_reducible exact Calls.quiet_of_same (HTQ.out _))
          skip
          go_wp2_with fail
          go_ret3
          exact HF.out _
        · cases h
      · by_cases c2 : (((oAt l K.toNat).2.length : Nat) : Int) < at_
        · skip
          have hat2 := hasO_at hh
          obtain ⟨kk, rfl⟩ : ∃ kk : Nat, K = (kk : Int) := ⟨K.toNat, by omega⟩
          have HKK : Hid (kk < S) := Lib.hid (by have := HLEN.out; omega)
          rw [Int.toNat_natCast] at hat2 c2
          obtain ⟨bo, o, A1, ca1, rfl, hb0, q0, q1, q2, q3⟩ := HP.out.ob.at_ HKK.out
          have HO3 : Hid (∀ w', Below (w.alloc (.cells #[.int .i64 5, .int .i64 (kk : Int), .int .i64 N, .int .i64 at_, .int .u64 (s : Int), .slice Ab 130 cb] 29)).heap.size (w.alloc (.cells #[.int .i64 5, .int .i64 (kk : Int), .int .i64 N, .int .i64 at_, .int .u64 (s : Int), .slice Ab 130 cb] 29)) w' → w'.cell? ⟨bo, o + kk * 2, none⟩ = some (.int .u64 (((oAt l kk).1 : Nat) : Int)) ∧ w'.cell? ⟨bo, o + kk * 2 + 1, none⟩ = some (.slice A1 (oAt l kk).2.length ca1) ∧ bo < w'.heap.size) := Lib.hid (fun w' h => ⟨(h.cell (p := ⟨bo, o + kk * 2, none⟩) hb0).trans q0, (h.cell (p := ⟨bo, o + kk * 2 + 1, none⟩) hb0).trans q1, Nat.lt_of_lt_of_le hb0 h.size⟩)
          have HQD := Lib.hid q2
          have HL9 : Hid ((oAt l kk).2.length ≤ 120) := Lib.hid (by have := HLG.out kk; have := HZ6.out; omega)
          have HL1 : Hid (1 ≤ (oAt l kk).2.length) := Lib.hid (by have := HLI.out kk; omega)
          have hL9 := HL9.out
          have hL1 := HL1.out
          have HWRB : Hid (wrB l (kk : Int) at_ 130 = decide (0 ≤ at_ ∧ at_ + (130 : Int) ≤ (((oAt l kk).2.length : Nat) : Int))) := Lib.hid (by unfold wrB; rw [Int.toNat_natCast]; try rfl)
          rw [HWRB.out, Int.toNat_natCast] at HWR
          have HKS := HKK.out
          clear q0 q1 q2 q3 hb0 hat2
          generalize (oAt l kk).1 = sv at *
          generalize (oAt l kk).2 = dv at *
          generalize dv.length = dn at *
          obtain ⟨a, rfl⟩ : ∃ a : Nat, at_ = (a : Int) := ⟨at_.toNat, by omega⟩
          have hN1 : dn < a := by omega
          have hd0 : decide ((a : Int) < 0) = false := decide_eq_false (by omega)
          have hd1 : decide (dn < a) = true := decide_eq_true hN1
          clear c1 c2
          have hft : (decide (0 ≤ (a : Int) ∧ (a : Int) + (130 : Int) ≤ (dn : Int))) = false := decide_eq_false (by omega)
          rw [hft] at HWR
          go_enter Tryd.func8, Tryd.ntmps8
          go_wp2_with fail
          refine HWR.out.mono ?_
          rintro e w1 ⟨hb1, (⟨h, _⟩ | ⟨hx, hy, rfl⟩ | ⟨_, h, _⟩)⟩
          · rw [hh] at h; cases h
          · have HB1 := Lib.hid hb1
            have HTQ : Hid (∀ m, Calls Tryd.prog 18 #[.slice (some ⟨bo, o, none⟩) S cl, .int .i64 (kk : Int)] (w1.drewN m) fun e w' => e = .returned (.bool (hasO l (kk : Int))) ∧ w' = w1.drewN m) := Lib.hid (fun m => (HTH.out (w1.drewN m) (below_drewN HB1.out m)).mono fun _ _ h => ⟨h.1, h.2.symm⟩)
            have hcm : ∀ m, (convert 23 9 (.slice (some ⟨b, q, none⟩) 256 c)).run Tryd.prog (w1.drewN m) = .ok (.string sp) (w1.drewN m) := fun m => HCV.out _ (below_drewN HB1.out m)
            have HF := Lib.hid (fun m => HST.out (w1.drewN m) (below_drewN HB1.out m))
            obtain ⟨y0, y1, y2, y3, y4, y5⟩ := HBC.out w1 hb1
            obtain ⟨u0, u1, hbo⟩ := HO3.out w1 hb1
            rw [hh] at HTQ
            clear HTH HWI HSN HPG HEQ HCV hb1 HWR HST hx hy hh hft
            go_upto_region 39 with (fail)
            go_big_quiet (with_reducible exact Calls.quiet_of_same (HTQ.out _))
            skip
            go_wp2_with fail
            go_ret3
            exact HF.out _
          · cases h
        · by_cases c3 : (((oAt l K.toNat).2.length : Nat) : Int) - at_ < (130 : Int)
          · skip
            have hat2 := hasO_at hh
            obtain ⟨kk, rfl⟩ : ∃ kk : Nat, K = (kk : Int) := ⟨K.toNat, by omega⟩
            have HKK : Hid (kk < S) := Lib.hid (by have := HLEN.out; omega)
            rw [Int.toNat_natCast] at hat2 c2 c3
            obtain ⟨bo, o, A1, ca1, rfl, hb0, q0, q1, q2, q3⟩ := HP.out.ob.at_ HKK.out
            have HO3 : Hid (∀ w', Below (w.alloc (.cells #[.int .i64 5, .int .i64 (kk : Int), .int .i64 N, .int .i64 at_, .int .u64 (s : Int), .slice Ab 130 cb] 29)).heap.size (w.alloc (.cells #[.int .i64 5, .int .i64 (kk : Int), .int .i64 N, .int .i64 at_, .int .u64 (s : Int), .slice Ab 130 cb] 29)) w' → w'.cell? ⟨bo, o + kk * 2, none⟩ = some (.int .u64 (((oAt l kk).1 : Nat) : Int)) ∧ w'.cell? ⟨bo, o + kk * 2 + 1, none⟩ = some (.slice A1 (oAt l kk).2.length ca1) ∧ bo < w'.heap.size) := Lib.hid (fun w' h => ⟨(h.cell (p := ⟨bo, o + kk * 2, none⟩) hb0).trans q0, (h.cell (p := ⟨bo, o + kk * 2 + 1, none⟩) hb0).trans q1, Nat.lt_of_lt_of_le hb0 h.size⟩)
            have HQD := Lib.hid q2
            have HL9 : Hid ((oAt l kk).2.length ≤ 120) := Lib.hid (by have := HLG.out kk; have := HZ6.out; omega)
            have HL1 : Hid (1 ≤ (oAt l kk).2.length) := Lib.hid (by have := HLI.out kk; omega)
            have hL9 := HL9.out
            have hL1 := HL1.out
            have HWRB : Hid (wrB l (kk : Int) at_ 130 = decide (0 ≤ at_ ∧ at_ + (130 : Int) ≤ (((oAt l kk).2.length : Nat) : Int))) := Lib.hid (by unfold wrB; rw [Int.toNat_natCast]; try rfl)
            rw [HWRB.out, Int.toNat_natCast] at HWR
            have HKS := HKK.out
            clear q0 q1 q2 q3 hb0 hat2
            generalize (oAt l kk).1 = sv at *
            generalize (oAt l kk).2 = dv at *
            generalize dv.length = dn at *
            obtain ⟨a, rfl⟩ : ∃ a : Nat, at_ = (a : Int) := ⟨at_.toNat, by omega⟩
            have hwd : IntKind.i64.wrap ((dn : Int) - (a : Int)) = (dn : Int) - (a : Int) := IntWalk.i64_in _ (by omega)
            have hd0 : decide ((a : Int) < 0) = false := decide_eq_false (by omega)
            have hd1 : decide (dn < a) = false := decide_eq_false (by omega)
            have hd2 : decide ((dn : Int) - (a : Int) < (130 : Int)) = true := decide_eq_true c3
            have hft : (decide (0 ≤ (a : Int) ∧ (a : Int) + (130 : Int) ≤ (dn : Int))) = false := decide_eq_false (by omega)
            rw [hft] at HWR
            clear c1 c2 c3
            go_enter Tryd.func8, Tryd.ntmps8
            go_wp2_with fail
            refine HWR.out.mono ?_
            rintro e w1 ⟨hb1, (⟨h, _⟩ | ⟨hx, hy, rfl⟩ | ⟨_, h, _⟩)⟩
            · rw [hh] at h; cases h
            · have HB1 := Lib.hid hb1
              have HTQ : Hid (∀ m, Calls Tryd.prog 18 #[.slice (some ⟨bo, o, none⟩) S cl, .int .i64 (kk : Int)] (w1.drewN m) fun e w' => e = .returned (.bool (hasO l (kk : Int))) ∧ w' = w1.drewN m) := Lib.hid (fun m => (HTH.out (w1.drewN m) (below_drewN HB1.out m)).mono fun _ _ h => ⟨h.1, h.2.symm⟩)
              have hcm : ∀ m, (convert 23 9 (.slice (some ⟨b, q, none⟩) 256 c)).run Tryd.prog (w1.drewN m) = .ok (.string sp) (w1.drewN m) := fun m => HCV.out _ (below_drewN HB1.out m)
              have HF := Lib.hid (fun m => HST.out (w1.drewN m) (below_drewN HB1.out m))
              obtain ⟨y0, y1, y2, y3, y4, y5⟩ := HBC.out w1 hb1
              obtain ⟨u0, u1, hbo⟩ := HO3.out w1 hb1
              rw [hh] at HTQ
              clear HTH HWI HSN HPG HEQ HCV hb1 HWR HST hx hy hh hft
              go_upto_region 39 with (fail)
              go_big_quiet (with_reducible exact Calls.quiet_of_same (HTQ.out _))
              skip
              go_wp2_with fail
              go_ret3
              exact HF.out _
            · cases h
          · skip
            have hat2 := hasO_at hh
            obtain ⟨kk, rfl⟩ : ∃ kk : Nat, K = (kk : Int) := ⟨K.toNat, by omega⟩
            have HKK : Hid (kk < S) := Lib.hid (by have := HLEN.out; omega)
            rw [Int.toNat_natCast] at hat2 c2 c3
            obtain ⟨bo, o, A1, ca1, rfl, hb0, q0, q1, q2, q3⟩ := HP.out.ob.at_ HKK.out
            have HO3 : Hid (∀ w', Below (w.alloc (.cells #[.int .i64 5, .int .i64 (kk : Int), .int .i64 N, .int .i64 at_, .int .u64 (s : Int), .slice Ab 130 cb] 29)).heap.size (w.alloc (.cells #[.int .i64 5, .int .i64 (kk : Int), .int .i64 N, .int .i64 at_, .int .u64 (s : Int), .slice Ab 130 cb] 29)) w' → w'.cell? ⟨bo, o + kk * 2, none⟩ = some (.int .u64 (((oAt l kk).1 : Nat) : Int)) ∧ w'.cell? ⟨bo, o + kk * 2 + 1, none⟩ = some (.slice A1 (oAt l kk).2.length ca1) ∧ bo < w'.heap.size) := Lib.hid (fun w' h => ⟨(h.cell (p := ⟨bo, o + kk * 2, none⟩) hb0).trans q0, (h.cell (p := ⟨bo, o + kk * 2 + 1, none⟩) hb0).trans q1, Nat.lt_of_lt_of_le hb0 h.size⟩)
            have HQD := Lib.hid q2
            have HL9 : Hid ((oAt l kk).2.length ≤ 120) := Lib.hid (by have := HLG.out kk; have := HZ6.out; omega)
            have HL1 : Hid (1 ≤ (oAt l kk).2.length) := Lib.hid (by have := HLI.out kk; omega)
            have hL9 := HL9.out
            have hL1 := HL1.out
            have HWRB : Hid (wrB l (kk : Int) at_ 130 = decide (0 ≤ at_ ∧ at_ + (130 : Int) ≤ (((oAt l kk).2.length : Nat) : Int))) := Lib.hid (by unfold wrB; rw [Int.toNat_natCast]; try rfl)
            rw [HWRB.out, Int.toNat_natCast] at HWR
            have HKS := HKK.out
            clear q0 q1 q2 q3 hb0 hat2
            generalize (oAt l kk).1 = sv at *
            generalize (oAt l kk).2 = dv at *
            generalize dv.length = dn at *
            exfalso
            omega

end Go.Proofs.YtflgcddgocojpaaDoor
