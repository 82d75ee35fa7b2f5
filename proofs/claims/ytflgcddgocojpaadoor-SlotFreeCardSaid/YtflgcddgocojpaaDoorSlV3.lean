/-
  Layer 18: one call, of both: Free.
-/
import Derived.Test.YtflgcddgocojpaaDoorSlW
namespace Go.Proofs.YtflgcddgocojpaaDoor
open Go.RowKit Go
set_option linter.unusedVariables false
set_option linter.unusedSimpArgs false
set_option maxHeartbeats 2000000
set_option maxRecDepth 100000

theorem step_3 (k b q c cl nb cb : Nat) (kd K N at_ : Int) (hkd : kd = 3) (s : Nat) (A Ab : Option Addr) (l : List Ob) (pb : List Nat) (w : World) (hs64 : s < 2 ^ 64) (hat : at_ ≤ 9223372036854775807) (hS : SZ w) (hk : k < 8) (hp : PSt w (clZ k) (clS k) b q c A cl l) (hb : BS w w.heap.size Ab nb cb pb) (hbz : Ab = none → cb = 0) :
    Calls Tryd.prog 8 #[.slice (some ⟨b, q, none⟩) 256 c, .slice A (clS k) cl, .int .i64 (k : Int), .agg #[.int .i64 kd, .int .i64 K, .int .i64 N, .int .i64 at_, .int .u64 (s : Int), .slice Ab nb cb]] w (StTo w (clZ k) (clS k)) := by
  obtain ⟨z1, z2, z3, z4, z5, z6⟩ := cl_fits k hk
  have hbl := hb.len
  have hbc := hb.cap
  have hlen := hp.ok.len
  obtain ⟨m, pm, hcut, hbm⟩ : ∃ m pm, ((nb ≤ 130 ∧ m = nb) ∨ (130 < nb ∧ m = 130)) ∧ BS w w.heap.size Ab m cb pm := by
    by_cases h : nb ≤ 130
    · exact ⟨nb, pb, .inl ⟨h, rfl⟩, hb⟩
    · exact ⟨130, _, .inr ⟨by omega, rfl⟩, hb.take (by omega)⟩
  have HB5 : Hid (Below w.heap.size w (w.alloc (.cells #[.int .i64 kd, .int .i64 K, .int .i64 N, .int .i64 at_, .int .u64 (s : Int), .slice Ab m cb] 29))) := Lib.hid ((Below.refl _ _).alloc (Nat.le_refl _) _)
  have HXX : Hid (w.heap.size < (w.alloc (.cells #[.int .i64 kd, .int .i64 K, .int .i64 N, .int .i64 at_, .int .u64 (s : Int), .slice Ab m cb] 29)).heap.size) := Lib.hid (by simp)
  have HBC : Hid (∀ w', Below (w.alloc (.cells #[.int .i64 kd, .int .i64 K, .int .i64 N, .int .i64 at_, .int .u64 (s : Int), .slice Ab m cb] 29)).heap.size (w.alloc (.cells #[.int .i64 kd, .int .i64 K, .int .i64 N, .int .i64 at_, .int .u64 (s : Int), .slice Ab m cb] 29)) w' → w'.cell? ⟨w.heap.size, 0, none⟩ = some (.int .i64 kd) ∧ w'.cell? ⟨w.heap.size, 1, none⟩ = some (.int .i64 K) ∧ w'.cell? ⟨w.heap.size, 2, none⟩ = some (.int .i64 N) ∧ w'.cell? ⟨w.heap.size, 3, none⟩ = some (.int .i64 at_) ∧ w'.cell? ⟨w.heap.size, 4, none⟩ = some (.int .u64 (s : Int)) ∧ w'.cell? ⟨w.heap.size, 5, none⟩ = some (.slice Ab m cb)) := Lib.hid (fun w' h => by
    have e := heap_alloc_new w (.cells #[.int .i64 kd, .int .i64 K, .int .i64 N, .int .i64 at_, .int .u64 (s : Int), .slice Ab m cb] 29)
    exact ⟨(h.cell (p := ⟨w.heap.size, 0, none⟩) HXX.out).trans (blk_cell e 0), (h.cell (p := ⟨w.heap.size, 1, none⟩) HXX.out).trans (blk_cell e 1), (h.cell (p := ⟨w.heap.size, 2, none⟩) HXX.out).trans (blk_cell e 2), (h.cell (p := ⟨w.heap.size, 3, none⟩) HXX.out).trans (blk_cell e 3), (h.cell (p := ⟨w.heap.size, 4, none⟩) HXX.out).trans (blk_cell e 4), (h.cell (p := ⟨w.heap.size, 5, none⟩) HXX.out).trans (blk_cell e 5)⟩)
  have HP := Lib.hid (hp.below HB5.out)
  have hc0 : (convert 23 9 (.slice (some ⟨b, q, none⟩) 256 c)).run Tryd.prog (w.alloc (.cells #[.int .i64 kd, .int .i64 K, .int .i64 N, .int .i64 at_, .int .u64 (s : Int), .slice Ab m cb] 29)) = .ok (.string (str (pageO (clZ k) l))) (w.alloc (.cells #[.int .i64 kd, .int .i64 K, .int .i64 N, .int .i64 at_, .int .u64 (s : Int), .slice Ab m cb] 29)) := conv_at HP.out.pg
  have HCV : Hid (∀ w', Below (w.alloc (.cells #[.int .i64 kd, .int .i64 K, .int .i64 N, .int .i64 at_, .int .u64 (s : Int), .slice Ab m cb] 29)).heap.size (w.alloc (.cells #[.int .i64 kd, .int .i64 K, .int .i64 N, .int .i64 at_, .int .u64 (s : Int), .slice Ab m cb] 29)) w' → (convert 23 9 (.slice (some ⟨b, q, none⟩) 256 c)).run Tryd.prog w' = .ok (.string (str (pageO (clZ k) l))) w') := Lib.hid (fun w' h => conv_at (HP.out.pg.below h))
  have HSZ := Lib.hid (fun W (h : Below (w.alloc (.cells #[.int .i64 kd, .int .i64 K, .int .i64 N, .int .i64 at_, .int .u64 (s : Int), .slice Ab m cb] 29)).heap.size (w.alloc (.cells #[.int .i64 kd, .int .i64 K, .int .i64 N, .int .i64 at_, .int .u64 (s : Int), .slice Ab m cb] 29)) W) => rsize_n k hk W (hS.below (HB5.out.trans (h.mono HB5.out.size))))
  have HST : Hid (∀ w', Below (w.alloc (.cells #[.int .i64 kd, .int .i64 K, .int .i64 N, .int .i64 at_, .int .u64 (s : Int), .slice Ab m cb] 29)).heap.size (w.alloc (.cells #[.int .i64 kd, .int .i64 K, .int .i64 N, .int .i64 at_, .int .u64 (s : Int), .slice Ab m cb] 29)) w' → StTo w (clZ k) (clS k) (.returned (.tuple #[.slice (some ⟨b, q, none⟩) 256 c, .slice A (clS k) cl, .bool true])) w') := Lib.hid (fun w' h => ⟨HB5.out.trans (h.mono HB5.out.size), b, q, c, A, cl, l, rfl, HP.out.below h⟩)
  have HSN : Hid (∀ w' b' q' c' A' cl' l', Below (w.alloc (.cells #[.int .i64 kd, .int .i64 K, .int .i64 N, .int .i64 at_, .int .u64 (s : Int), .slice Ab m cb] 29)).heap.size (w.alloc (.cells #[.int .i64 kd, .int .i64 K, .int .i64 N, .int .i64 at_, .int .u64 (s : Int), .slice Ab m cb] 29)) w' → PSt w' (clZ k) (clS k) b' q' c' A' cl' l' → StTo w (clZ k) (clS k) (.returned (.tuple #[.slice (some ⟨b', q', none⟩) 256 c', .slice A' (clS k) cl', .bool true])) w') := Lib.hid (fun w' b' q' c' A' cl' l' h hp => ⟨HB5.out.trans (h.mono HB5.out.size), b', q', c', A', cl', l', rfl, hp⟩)
  have HPG := Lib.hid (fun W (h : Below (w.alloc (.cells #[.int .i64 kd, .int .i64 K, .int .i64 N, .int .i64 at_, .int .u64 (s : Int), .slice Ab m cb] 29)).heap.size (w.alloc (.cells #[.int .i64 kd, .int .i64 K, .int .i64 N, .int .i64 at_, .int .u64 (s : Int), .slice Ab m cb] 29)) W) A cc l' (hv : ObV W A (clS k) l') (hok : OkL (clZ k) (clS k) l') => page18_any k A (clS k) cc l' W (hS.below (HB5.out.trans (h.mono HB5.out.size))) hk hv z3 (fun i => by have := (hok.at_ i).long; omega) (fun i => by have := (hok.at_ i).ser; omega))
  have HEQ : Hid (∀ l', OkL (clZ k) (clS k) l' → ∀ i, (pageO (clZ k) l').getD i 0 < 256) := Lib.hid (fun l' h => page_byte (by omega) (fun j => (h.at_ j).byte))
  subst hkd
  have HFR := Lib.hid (free_any_o k b q c K l _ (hS.below HB5.out) hk HP.out.ok HP.out.pg)
  have HTH := Lib.hid (fun W (h : Below (w.alloc (.cells #[.int .i64 3, .int .i64 K, .int .i64 N, .int .i64 at_, .int .u64 (s : Int), .slice Ab m cb] 29)).heap.size (w.alloc (.cells #[.int .i64 3, .int .i64 K, .int .i64 N, .int .i64 at_, .int .u64 (s : Int), .slice Ab m cb] 29)) W) => there_any A (clS k) cl K l W (HP.out.ob.below h) (by omega))
  have HWI := Lib.hid (fun W (h : Below (w.alloc (.cells #[.int .i64 3, .int .i64 K, .int .i64 N, .int .i64 at_, .int .u64 (s : Int), .slice Ab m cb] 29)).heap.size (w.alloc (.cells #[.int .i64 3, .int .i64 K, .int .i64 N, .int .i64 at_, .int .u64 (s : Int), .slice Ab m cb] 29)) W) (hk : K.toNat < clS k) => with_o A none (clS k) cl K.toNat 0 0 0 l [] W hlen (HP.out.ob.below h) (by omega) hk (BS.nil _ _) (fun _ => rfl))
  clear hbz
  have HLEN := Lib.hid hlen
  have HRF := Lib.hid (Below.refl (w.alloc (.cells #[.int .i64 3, .int .i64 K, .int .i64 N, .int .i64 at_, .int .u64 (s : Int), .slice Ab m cb] 29)).heap.size (w.alloc (.cells #[.int .i64 3, .int .i64 K, .int .i64 N, .int .i64 at_, .int .u64 (s : Int), .slice Ab m cb] 29)))
  have hbc1 := hbc.1
  clear hp hb hbl hbc hbm hS hlen
  have HZ6 := Lib.hid z6
  clear z6
  generalize str (pageO (clZ k) l) = sp at *
  generalize szN k = zz at *
  generalize clZ k = z at *
  generalize clS k = S at *
  unfold FrTo at HFR
  rcases hcut with ⟨h130, rfl⟩ | ⟨h130, rfl⟩
  · have h1I : ¬ (130 : Int) < (m : Int) := by omega
    cases hh : hasO l K
    · go_enter Tryd.func8, Tryd.ntmps8
      go_wp2_with fail
      refine HFR.out.mono ?_
      rintro e w1 ⟨hb1, (⟨_, rfl⟩ | ⟨h, _⟩)⟩
      · have HT1 := Lib.hid (HTH.out w1 hb1)
        have hc1 := HCV.out w1 hb1
        have HF := Lib.hid (HST.out w1 hb1)
        obtain ⟨y0, y1, y2, y3, y4, y5⟩ := HBC.out w1 hb1
        clear HTH HWI HSN HPG HEQ HCV hb1 HFR
        rw [hh] at HT1
        go_wp2_with fail
        refine HT1.out.mono ?_
        rintro e w2 ⟨rfl, rfl⟩
        go_wp2_with fail
        go_ret3
        exact HF.out
      · rw [hh] at h; cases h
    · have hat := hasO_at hh
      obtain ⟨kk, rfl⟩ : ∃ kk : Nat, K = (kk : Int) := ⟨K.toNat, by omega⟩
      have HKK : Hid (kk < S) := Lib.hid (by have := HLEN.out; omega)
      clear hat
      go_enter Tryd.func8, Tryd.ntmps8
      go_wp2_with fail
      refine HFR.out.mono ?_
      rintro e w1 ⟨hb1, (⟨h, _⟩ | ⟨_, h, cc, rfl, hbs, hok⟩)⟩
      · rw [hh] at h; cases h
      · rw [Int.toNat_natCast] at hbs hok HWI
        have HT1 := Lib.hid (HTH.out w1 hb1)
        have HW1 := Lib.hid (HWI.out w1 hb1 HKK.out)
        have HB1 := Lib.hid hb1
        have HQ := Lib.hid hbs
        have HOK := Lib.hid hok
        obtain ⟨y0, y1, y2, y3, y4, y5⟩ := HBC.out w1 hb1
        clear HTH HWI hb1 HFR hbs hok HSZ
        rw [hh] at HT1
        go_wp2_with fail
        refine HT1.out.mono ?_
        rintro e w2 ⟨rfl, rfl⟩
        go_wp2_with fail
        refine HW1.out.mono ?_
        rintro e w3 ⟨g, cap, rfl, hov, hb3⟩
        have HB3 := Lib.hid (HB1.out.trans (hb3.mono HB1.out.size))
        have HQ3 := Lib.hid ((HQ.out.below hb3).more hb3.size)
        have HM := Lib.hid hov
        clear hov hb3 y0 y1 y2 y3 y4 y5
        have HF : Hid (∀ w', Below w3.heap.size w3 w' → StTo w z S (.returned (.tuple #[.slice (some ⟨h, 0, none⟩) 256 cc, .slice (some ⟨g, 0, none⟩) S cap, .bool true])) w') := Lib.hid (fun w' h => HSN.out w' _ _ _ _ _ _ (HB3.out.trans (h.mono HB3.out.size)) ⟨HOK.out, HM.out.below h, (HQ3.out.below h).more h.size⟩)
        have HPG2 := Lib.hid (fun w' (h : Below w3.heap.size w3 w') => HPG.out w' (HB3.out.trans (h.mono HB3.out.size)) (some ⟨g, 0, none⟩) cap _ (HM.out.below h) HOK.out)
        have hc3 := HCV.out w3 HB3.out
        have HCQ := Lib.hid (fun w' (h : Below w3.heap.size w3 w') => conv_at (HQ3.out.below h))
        clear HST HSN HPG HEQ HCV
        generalize pageO z (l.set kk (0, [])) = pg2 at *
        go_upto_region 50 with (fail)
        refine wp_region_F (S := (fun w' => Below w3.heap.size w3 w')) [] (by kernel_rfl) ((Below.refl _ _).drew) (fun hHeld => ?_)
        (try simp only [Act.put, List.getElem_toArray, List.getElem_cons_succ, List.getElem_cons_zero, List.setIfInBounds_toArray, List.set_cons_zero, List.set_cons_succ])
        refine wpAnyF_take (i := 0) (oi := _) (v := ?_) rfl (by kernel_rfl) (by kernel_rfl) (by kernel_rfl) (by kernel_rfl) (fun _ _ _ h => h) (Or.inl ⟨by rfl, ?_⟩) (by assumption) ?_
        rotate_left 1
        · intro w hSw
          (try dsimp only at hSw)
          have hCQ := HCQ.out w hSw
          (first | (go_simp; done) | (go_simp; with_reducible rfl))
        (try simp only [Act.put, List.getElem_toArray, List.getElem_cons_succ, List.getElem_cons_zero, List.setIfInBounds_toArray, List.set_cons_zero, List.set_cons_succ])
        refine wpAnyF_take (i := 1) (oi := _) (v := ?_) rfl (by kernel_rfl) (by kernel_rfl) (by kernel_rfl) (by kernel_rfl) (fun _ _ _ h => h) (Or.inl ⟨by rfl, ?_⟩) (by assumption) ?_
        rotate_left 1
        · intro w hSw
          (try dsimp only at hSw)
          have hCQ := HCQ.out w hSw
          (first | (go_simp; done) | (go_simp; with_reducible rfl))
        (try simp only [Act.put, List.getElem_toArray, List.getElem_cons_succ, List.getElem_cons_zero, List.setIfInBounds_toArray, List.set_cons_zero, List.set_cons_succ])
        refine wpAnyF_take (i := 2) (oi := _) (v := ?_) rfl (by kernel_rfl) (by kernel_rfl) (by kernel_rfl) (by kernel_rfl) (fun _ _ _ h => h) (Or.inl ⟨by rfl, ?_⟩) (by assumption) ?_
        rotate_left 1
        · intro w hSw
          (try dsimp only at hSw)
          have hCQ := HCQ.out w hSw
          (first | (go_simp; done) | (go_simp; with_reducible rfl))
        (try simp only [Act.put, List.getElem_toArray, List.getElem_cons_succ, List.getElem_cons_zero, List.setIfInBounds_toArray, List.set_cons_zero, List.set_cons_succ])
        refine wpAnyF_take (i := 3) (oi := _) (v := ?_) rfl (by kernel_rfl) (by kernel_rfl) (by kernel_rfl) (by kernel_rfl) (fun _ _ _ h => h) (Or.inl ⟨by rfl, ?_⟩) (by assumption) ?_
        rotate_left 1
        · intro w hSw
          (try dsimp only at hSw)
          have hCQ := HCQ.out w hSw
          (first | (go_simp; done) | (go_simp; with_reducible rfl))
        (try simp only [Act.put, List.getElem_toArray, List.getElem_cons_succ, List.getElem_cons_zero, List.setIfInBounds_toArray, List.set_cons_zero, List.set_cons_succ])
        refine wpAnyF_take (i := 4) (oi := _) (v := ?_) rfl (by kernel_rfl) (by kernel_rfl) (by kernel_rfl) (by kernel_rfl) (fun _ _ _ h => h) (Or.inl ⟨by rfl, ?_⟩) (by assumption) ?_
        rotate_left 1
        · intro w hSw
          (try dsimp only at hSw)
          have hCQ := HCQ.out w hSw
          (first | (go_simp; done) | (go_simp; with_reducible rfl))
        (try simp only [Act.put, List.getElem_toArray, List.getElem_cons_succ, List.getElem_cons_zero, List.setIfInBounds_toArray, List.set_cons_zero, List.set_cons_succ])
        refine wpAnyF_take (i := 5) (oi := _) (v := ?_) rfl (by kernel_rfl) (by kernel_rfl) (by kernel_rfl) (by kernel_rfl) (fun _ _ _ h => h) (Or.inl ⟨by rfl, ?_⟩) (by assumption) ?_
        rotate_left 1
        · intro w hSw
          (try dsimp only at hSw)
          have hCQ := HCQ.out w hSw
          (first | (go_simp; done) | (go_simp; with_reducible rfl))
        (try simp only [Act.put, List.getElem_toArray, List.getElem_cons_succ, List.getElem_cons_zero, List.setIfInBounds_toArray, List.set_cons_zero, List.set_cons_succ])
        refine wpAnyF_ready (rs := [6]) (by kernel_rfl) (by simp) ?_
        refine AllReadyF.cons (o := _) rfl (fun K hK => ?_) AllReadyF.nil
        go_simp
        (go_at_call 23)
        ((with_reducible refine (HPG2.out _ hHeld).mono ?_))
        rintro e w7 ⟨A7, c7, rfl, hb7, hx7, hz7⟩
        have HX := Lib.hid hx7
        have HB7 := Lib.hid (hHeld.trans (hb7.mono hHeld.size))
        clear hx7 hb7 hz7
        refine hK.out _ _ (HB7.out) (fun hHeld6 => ?_)
        clear hK K
        (try simp only [Act.put, List.getElem_toArray, List.getElem_cons_succ, List.getElem_cons_zero, List.setIfInBounds_toArray, List.set_cons_zero, List.set_cons_succ])
        refine wpAnyF_take (i := 9) (oi := _) (v := ?_) rfl (by kernel_rfl) (by kernel_rfl) (by kernel_rfl) (by kernel_rfl) (fun _ _ _ h => h) (Or.inl ⟨by rfl, ?_⟩) (by assumption) ?_
        rotate_left 1
        · intro w hSw
          (try dsimp only at hSw)
          have hCQ := HCQ.out w hSw
          (first | (go_simp; done) | (go_simp; with_reducible rfl))
        (try simp only [Act.put, List.getElem_toArray, List.getElem_cons_succ, List.getElem_cons_zero, List.setIfInBounds_toArray, List.set_cons_zero, List.set_cons_succ])
        refine wpAnyF_take (i := 10) (oi := _) (v := ?_) rfl (by kernel_rfl) (by kernel_rfl) (by kernel_rfl) (by kernel_rfl) (fun _ _ _ h => h) (Or.inl ⟨by rfl, ?_⟩) (by assumption) ?_
        rotate_left 1
        · intro w hSw
          (try dsimp only at hSw)
          have hCQ := HCQ.out w hSw
          (first | (go_simp; done) | (go_simp; with_reducible rfl))
        (try simp only [Act.put, List.getElem_toArray, List.getElem_cons_succ, List.getElem_cons_zero, List.setIfInBounds_toArray, List.set_cons_zero, List.set_cons_succ])
        refine wpAnyF_ready (rs := [7]) (by kernel_rfl) (by simp) ?_
        refine AllReadyF.cons (o := _) rfl (fun K hK => ?_) AllReadyF.nil
        have hC7 := conv_at HX.out
        go_simp
        refine hK.out _ _ (HB7.out) (fun hHeld7 => ?_)
        clear hK K
        (try simp only [Act.put, List.getElem_toArray, List.getElem_cons_succ, List.getElem_cons_zero, List.setIfInBounds_toArray, List.set_cons_zero, List.set_cons_succ])
        refine wpAnyF_take (i := 8) (oi := _) (v := ?_) rfl (by kernel_rfl) (by kernel_rfl) (by kernel_rfl) (by kernel_rfl) (fun _ _ _ h => h) (Or.inl ⟨by rfl, ?_⟩) (by assumption) ?_
        rotate_left 1
        · intro w hSw
          (try dsimp only at hSw)
          have hCQ := HCQ.out w hSw
          (first | (go_simp; done) | (go_simp; with_reducible rfl))
        (try simp only [Act.put, List.getElem_toArray, List.getElem_cons_succ, List.getElem_cons_zero, List.setIfInBounds_toArray, List.set_cons_zero, List.set_cons_succ])
        refine wpAnyF_take (i := 11) (oi := _) (v := ?_) rfl (by kernel_rfl) (by kernel_rfl) (by kernel_rfl) (by kernel_rfl) (fun _ _ _ h => h) (Or.inl ⟨by rfl, ?_⟩) (by assumption) ?_
        rotate_left 1
        · intro w hSw
          (try dsimp only at hSw)
          have hCQ := HCQ.out w hSw
          (first | (go_simp; done) | (go_simp; with_reducible rfl))
        (try simp only [Act.put, List.getElem_toArray, List.getElem_cons_succ, List.getElem_cons_zero, List.setIfInBounds_toArray, List.set_cons_zero, List.set_cons_succ])
        refine wpAnyF_done (by kernel_rfl) ?_ _
        go_wp2_with fail
        go_ret3
        exact HF.out _ HB7.out
  · have h1I : (130 : Int) < (nb : Int) := by omega
    have h130c : 130 ≤ cb := by omega
    cases hh : hasO l K
    · go_enter Tryd.func8, Tryd.ntmps8
      go_wp2_with fail
      refine HFR.out.mono ?_
      rintro e w1 ⟨hb1, (⟨_, rfl⟩ | ⟨h, _⟩)⟩
      · have HT1 := Lib.hid (HTH.out w1 hb1)
        have hc1 := HCV.out w1 hb1
        have HF := Lib.hid (HST.out w1 hb1)
        obtain ⟨y0, y1, y2, y3, y4, y5⟩ := HBC.out w1 hb1
        clear HTH HWI HSN HPG HEQ HCV hb1 HFR
        rw [hh] at HT1
        go_wp2_with fail
        refine HT1.out.mono ?_
        rintro e w2 ⟨rfl, rfl⟩
        go_wp2_with fail
        go_ret3
        exact HF.out
      · rw [hh] at h; cases h
    · have hat := hasO_at hh
      obtain ⟨kk, rfl⟩ : ∃ kk : Nat, K = (kk : Int) := ⟨K.toNat, by omega⟩
      have HKK : Hid (kk < S) := Lib.hid (by have := HLEN.out; omega)
      clear hat
      go_enter Tryd.func8, Tryd.ntmps8
      go_wp2_with fail
      refine HFR.out.mono ?_
      rintro e w1 ⟨hb1, (⟨h, _⟩ | ⟨_, h, cc, rfl, hbs, hok⟩)⟩
      · rw [hh] at h; cases h
      · rw [Int.toNat_natCast] at hbs hok HWI
        have HT1 := Lib.hid (HTH.out w1 hb1)
        have HW1 := Lib.hid (HWI.out w1 hb1 HKK.out)
        have HB1 := Lib.hid hb1
        have HQ := Lib.hid hbs
        have HOK := Lib.hid hok
        obtain ⟨y0, y1, y2, y3, y4, y5⟩ := HBC.out w1 hb1
        clear HTH HWI hb1 HFR hbs hok HSZ
        rw [hh] at HT1
        go_wp2_with fail
        refine HT1.out.mono ?_
        rintro e w2 ⟨rfl, rfl⟩
        go_wp2_with fail
        refine HW1.out.mono ?_
        rintro e w3 ⟨g, cap, rfl, hov, hb3⟩
        have HB3 := Lib.hid (HB1.out.trans (hb3.mono HB1.out.size))
        have HQ3 := Lib.hid ((HQ.out.below hb3).more hb3.size)
        have HM := Lib.hid hov
        clear hov hb3 y0 y1 y2 y3 y4 y5
        have HF : Hid (∀ w', Below w3.heap.size w3 w' → StTo w z S (.returned (.tuple #[.slice (some ⟨h, 0, none⟩) 256 cc, .slice (some ⟨g, 0, none⟩) S cap, .bool true])) w') := Lib.hid (fun w' h => HSN.out w' _ _ _ _ _ _ (HB3.out.trans (h.mono HB3.out.size)) ⟨HOK.out, HM.out.below h, (HQ3.out.below h).more h.size⟩)
        have HPG2 := Lib.hid (fun w' (h : Below w3.heap.size w3 w') => HPG.out w' (HB3.out.trans (h.mono HB3.out.size)) (some ⟨g, 0, none⟩) cap _ (HM.out.below h) HOK.out)
        have hc3 := HCV.out w3 HB3.out
        have HCQ := Lib.hid (fun w' (h : Below w3.heap.size w3 w') => conv_at (HQ3.out.below h))
        clear HST HSN HPG HEQ HCV
        generalize pageO z (l.set kk (0, [])) = pg2 at *
        go_upto_region 50 with (fail)
        refine wp_region_F (S := (fun w' => Below w3.heap.size w3 w')) [] (by kernel_rfl) ((Below.refl _ _).drew) (fun hHeld => ?_)
        (try simp only [Act.put, List.getElem_toArray, List.getElem_cons_succ, List.getElem_cons_zero, List.setIfInBounds_toArray, List.set_cons_zero, List.set_cons_succ])
        refine wpAnyF_take (i := 0) (oi := _) (v := ?_) rfl (by kernel_rfl) (by kernel_rfl) (by kernel_rfl) (by kernel_rfl) (fun _ _ _ h => h) (Or.inl ⟨by rfl, ?_⟩) (by assumption) ?_
        rotate_left 1
        · intro w hSw
          (try dsimp only at hSw)
          have hCQ := HCQ.out w hSw
          (first | (go_simp; done) | (go_simp; with_reducible rfl))
        (try simp only [Act.put, List.getElem_toArray, List.getElem_cons_succ, List.getElem_cons_zero, List.setIfInBounds_toArray, List.set_cons_zero, List.set_cons_succ])
        refine wpAnyF_take (i := 1) (oi := _) (v := ?_) rfl (by kernel_rfl) (by kernel_rfl) (by kernel_rfl) (by kernel_rfl) (fun _ _ _ h => h) (Or.inl ⟨by rfl, ?_⟩) (by assumption) ?_
        rotate_left 1
        · intro w hSw
          (try dsimp only at hSw)
          have hCQ := HCQ.out w hSw
          (first | (go_simp; done) | (go_simp; with_reducible rfl))
        (try simp only [Act.put, List.getElem_toArray, List.getElem_cons_succ, List.getElem_cons_zero, List.setIfInBounds_toArray, List.set_cons_zero, List.set_cons_succ])
        refine wpAnyF_take (i := 2) (oi := _) (v := ?_) rfl (by kernel_rfl) (by kernel_rfl) (by kernel_rfl) (by kernel_rfl) (fun _ _ _ h => h) (Or.inl ⟨by rfl, ?_⟩) (by assumption) ?_
        rotate_left 1
        · intro w hSw
          (try dsimp only at hSw)
          have hCQ := HCQ.out w hSw
          (first | (go_simp; done) | (go_simp; with_reducible rfl))
        (try simp only [Act.put, List.getElem_toArray, List.getElem_cons_succ, List.getElem_cons_zero, List.setIfInBounds_toArray, List.set_cons_zero, List.set_cons_succ])
        refine wpAnyF_take (i := 3) (oi := _) (v := ?_) rfl (by kernel_rfl) (by kernel_rfl) (by kernel_rfl) (by kernel_rfl) (fun _ _ _ h => h) (Or.inl ⟨by rfl, ?_⟩) (by assumption) ?_
        rotate_left 1
        · intro w hSw
          (try dsimp only at hSw)
          have hCQ := HCQ.out w hSw
          (first | (go_simp; done) | (go_simp; with_reducible rfl))
        (try simp only [Act.put, List.getElem_toArray, List.getElem_cons_succ, List.getElem_cons_zero, List.setIfInBounds_toArray, List.set_cons_zero, List.set_cons_succ])
        refine wpAnyF_take (i := 4) (oi := _) (v := ?_) rfl (by kernel_rfl) (by kernel_rfl) (by kernel_rfl) (by kernel_rfl) (fun _ _ _ h => h) (Or.inl ⟨by rfl, ?_⟩) (by assumption) ?_
        rotate_left 1
        · intro w hSw
          (try dsimp only at hSw)
          have hCQ := HCQ.out w hSw
          (first | (go_simp; done) | (go_simp; with_reducible rfl))
        (try simp only [Act.put, List.getElem_toArray, List.getElem_cons_succ, List.getElem_cons_zero, List.setIfInBounds_toArray, List.set_cons_zero, List.set_cons_succ])
        refine wpAnyF_take (i := 5) (oi := _) (v := ?_) rfl (by kernel_rfl) (by kernel_rfl) (by kernel_rfl) (by kernel_rfl) (fun _ _ _ h => h) (Or.inl ⟨by rfl, ?_⟩) (by assumption) ?_
        rotate_left 1
        · intro w hSw
          (try dsimp only at hSw)
          have hCQ := HCQ.out w hSw
          (first | (go_simp; done) | (go_simp; with_reducible rfl))
        (try simp only [Act.put, List.getElem_toArray, List.getElem_cons_succ, List.getElem_cons_zero, List.setIfInBounds_toArray, List.set_cons_zero, List.set_cons_succ])
        refine wpAnyF_ready (rs := [6]) (by kernel_rfl) (by simp) ?_
        refine AllReadyF.cons (o := _) rfl (fun K hK => ?_) AllReadyF.nil
        go_simp
        (go_at_call 23)
        ((with_reducible refine (HPG2.out _ hHeld).mono ?_))
        rintro e w7 ⟨A7, c7, rfl, hb7, hx7, hz7⟩
        have HX := Lib.hid hx7
        have HB7 := Lib.hid (hHeld.trans (hb7.mono hHeld.size))
        clear hx7 hb7 hz7
        refine hK.out _ _ (HB7.out) (fun hHeld6 => ?_)
        clear hK K
        (try simp only [Act.put, List.getElem_toArray, List.getElem_cons_succ, List.getElem_cons_zero, List.setIfInBounds_toArray, List.set_cons_zero, List.set_cons_succ])
        refine wpAnyF_take (i := 9) (oi := _) (v := ?_) rfl (by kernel_rfl) (by kernel_rfl) (by kernel_rfl) (by kernel_rfl) (fun _ _ _ h => h) (Or.inl ⟨by rfl, ?_⟩) (by assumption) ?_
        rotate_left 1
        · intro w hSw
          (try dsimp only at hSw)
          have hCQ := HCQ.out w hSw
          (first | (go_simp; done) | (go_simp; with_reducible rfl))
        (try simp only [Act.put, List.getElem_toArray, List.getElem_cons_succ, List.getElem_cons_zero, List.setIfInBounds_toArray, List.set_cons_zero, List.set_cons_succ])
        refine wpAnyF_take (i := 10) (oi := _) (v := ?_) rfl (by kernel_rfl) (by kernel_rfl) (by kernel_rfl) (by kernel_rfl) (fun _ _ _ h => h) (Or.inl ⟨by rfl, ?_⟩) (by assumption) ?_
        rotate_left 1
        · intro w hSw
          (try dsimp only at hSw)
          have hCQ := HCQ.out w hSw
          (first | (go_simp; done) | (go_simp; with_reducible rfl))
        (try simp only [Act.put, List.getElem_toArray, List.getElem_cons_succ, List.getElem_cons_zero, List.setIfInBounds_toArray, List.set_cons_zero, List.set_cons_succ])
        refine wpAnyF_ready (rs := [7]) (by kernel_rfl) (by simp) ?_
        refine AllReadyF.cons (o := _) rfl (fun K hK => ?_) AllReadyF.nil
        have hC7 := conv_at HX.out
        go_simp
        refine hK.out _ _ (HB7.out) (fun hHeld7 => ?_)
        clear hK K
        (try simp only [Act.put, List.getElem_toArray, List.getElem_cons_succ, List.getElem_cons_zero, List.setIfInBounds_toArray, List.set_cons_zero, List.set_cons_succ])
        refine wpAnyF_take (i := 8) (oi := _) (v := ?_) rfl (by kernel_rfl) (by kernel_rfl) (by kernel_rfl) (by kernel_rfl) (fun _ _ _ h => h) (Or.inl ⟨by rfl, ?_⟩) (by assumption) ?_
        rotate_left 1
        · intro w hSw
          (try dsimp only at hSw)
          have hCQ := HCQ.out w hSw
          (first | (go_simp; done) | (go_simp; with_reducible rfl))
        (try simp only [Act.put, List.getElem_toArray, List.getElem_cons_succ, List.getElem_cons_zero, List.setIfInBounds_toArray, List.set_cons_zero, List.set_cons_succ])
        refine wpAnyF_take (i := 11) (oi := _) (v := ?_) rfl (by kernel_rfl) (by kernel_rfl) (by kernel_rfl) (by kernel_rfl) (fun _ _ _ h => h) (Or.inl ⟨by rfl, ?_⟩) (by assumption) ?_
        rotate_left 1
        · intro w hSw
          (try dsimp only at hSw)
          have hCQ := HCQ.out w hSw
          (first | (go_simp; done) | (go_simp; with_reducible rfl))
        (try simp only [Act.put, List.getElem_toArray, List.getElem_cons_succ, List.getElem_cons_zero, List.setIfInBounds_toArray, List.set_cons_zero, List.set_cons_succ])
        refine wpAnyF_done (by kernel_rfl) ?_ _
        go_wp2_with fail
        go_ret3
        exact HF.out _ HB7.out

end Go.Proofs.YtflgcddgocojpaaDoor
