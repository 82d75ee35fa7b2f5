/-
  TrustRises' walk.
-/
import Derived.Test.YtoioflbgmofgfabTrI
namespace Go.Proofs.Ytoioflbgmofgfab
open Go.RowKit Go
set_option linter.unusedVariables false
set_option linter.unusedSimpArgs false
theorem armU0 (N : Int) : 0 ≤ armU N := by unfold armU; split <;> omega
theorem armU1 {N : Int} (h : N ≤ 9223372036854775807) : armU N ≤ 9223372036854775807 := by unfold armU; split <;> omega
set_option maxHeartbeats 8000000 in
set_option maxRecDepth 100000 in
theorem trustRises_any (c0 : Nat) (l0 : List Nat) (hc0 : c0 < 2 ^ 64) (A : Option Addr) (n cA : Nat) (w : World) (h : OpsQ w A n) (hn : n ≤ 9223372036854775807) (hnc : n ≤ cA) :
    Calls Try.prog 3 #[.agg (rowV (regF c0 l0) 33), .slice A n cA] w fun e w' => e = .returned (.bool true) ∧ Below w.heap.size w w' := by
  have HAT := Lib.hid (fun g W => at9_any g (regF c0 l0) W)
  have HIR := Lib.hid (info_reg (regF c0 l0))
  have HAW := Lib.hid (fun W => awake9_any W)
  have HOP := Lib.hid h
  obtain ⟨rr, hrr⟩ : ∃ z, z = rowV (regF c0 l0) 33 := ⟨_, rfl⟩
  rw [← hrr] at HAT HIR ⊢
  obtain ⟨W1, hW1⟩ : ∃ W1, W1 = w.alloc (.cells rr RegT) := ⟨_, rfl⟩
  have HNQ := Lib.hid (newQ1_any W1)
  have HR : Hid (W1.heap[w.heap.size]? = some (.cells rr RegT (0, 0))) := Lib.hid (by rw [hW1]; exact heap_alloc_new w _)
  have HB1 : Hid (Below w.heap.size w W1) := Lib.hid (by rw [hW1]; exact (Below.refl _ _).alloc (Nat.le_refl _) _)
  have HS1 : Hid (W1.heap.size = w.heap.size + 1) := Lib.hid (by rw [hW1]; simp)
  have HW1 := Lib.hid hW1
  obtain ⟨z2, hz2⟩ : ∃ z, z = rowV (regF 0 []) 33 := ⟨_, rfl⟩
  have hzr := zero_reg
  rw [← hz2] at hzr
  have HZ2 : Hid (z2.size = 33) := Lib.hid (by rw [hz2, rowV_size])
  obtain ⟨zz, hzz⟩ : ∃ z, z = rowV opZ 36 := ⟨_, rfl⟩
  have hzo := zero_op
  rw [← hzz] at hzo
  have HZZ : Hid (zz.size = 36) := Lib.hid (by rw [hzz, rowV_size])
  clear h hrr hW1 hz2 hzz
  go_enter Try.func3, Try.ntmps3
  go_wp2_with fail
  rw [← HW1.out]
  refine HNQ.out.mono ?_
  rintro e w1 ⟨rfl, hdq, hb1, hs1⟩
  obtain ⟨b, hb⟩ : ∃ b, b = W1.heap.size := ⟨_, rfl⟩
  obtain ⟨g, hg⟩ : ∃ g, g = W1.heap.size + 1 := ⟨_, rfl⟩
  rw [← hg, ← hb] at hdq
  rw [← hg]
  have HR1 : Hid (w1.heap[w.heap.size]? = some (.cells rr RegT (0, 0))) := Lib.hid ((hb1.block _ (by rw [HS1.out]; omega)).trans HR.out)
  have HDQ := Lib.hid hdq
  have HBB : Hid (Below w.heap.size w w1) := Lib.hid (HB1.out.trans (hb1.mono HB1.out.size))
  have HBG : Hid (w.heap.size ≤ b ∧ b < g ∧ g < w1.heap.size) := Lib.hid ⟨by have := HS1.out; omega, by omega, by omega⟩
  clear hdq hb1 hs1 hg hb
  go_wp2_with (with_reducible refine wpList_load_row rfl RegT (.tmp 2) rfl _ rfl RegT _ _ _ HR1.out Try.underlying26 rfl HIR.out ?_)
  refine (HAT.out _ _).mono ?_
  rintro e w2 ⟨rfl, htc, hb2⟩
  obtain ⟨t, ht⟩ : ∃ t, t = w1.heap.size + 1 := ⟨_, rfl⟩
  rw [← ht] at htc
  rw [← ht]
  have HST : Hid (RiR w t g b n (.int .i64 0) w2) := Lib.hid ⟨0, c0, l0, false, _, 0, [], 0, rfl, by omega, by omega, ⟨Cells.of_blk htc (fun i hi => rowV_at _ hi), HDQ.out.next hb2, hc0, by simp [Value.ownBlock], by omega, by omega, by omega, HBB.out.trans (hb2.mono HBB.out.size), HBG.out.1, by have := HBG.out.2.2; omega⟩⟩
  clear htc hb2 ht hc0
  go_wp2_with fail
  go_loopw [17] (fun iv W => RiR w t g b n iv W) (fun iv _ => n - (intOf iv).toNat)
  case atStart => exact HST.out
  case round =>
    obtain ⟨i, c, l, off, av, k, al, u, rfl, hi40, hin, hC⟩ := hrel
    have HC := Lib.hid hC
    clear hC HST
    by_cases hlt : i < n
    · obtain ⟨bo, oo, hA, hbo, hops⟩ := (HOP.out.below HC.out.below) (by omega)
      obtain ⟨K, B, N, c', l', hcb', hNb, hrg⟩ := hops i hlt
      subst hA
      obtain ⟨cs, hcs⟩ : ∃ cs, cs = opL K c' l' B N := ⟨_, rfl⟩
      have HCS := Lib.hid hcs
      have HRG : Hid (wr.rangeAt bo (oo + i * 36) cs) := Lib.hid (by rw [hcs]; exact hrg)
      have HIL : Hid ((Try.prog.info? OpT9).map (·.size) = some cs.length) := Lib.hid (by rw [hcs, opL_len]; exact info_op9)
      have HIA : Hid ((Try.prog.info? OpT9).map (·.size) = some cs.toArray.size) := Lib.hid (by rw [List.size_toArray, hcs, opL_len]; exact info_op9)
      have HSZ8 : Hid (zz.size = cs.toArray.size) := Lib.hid (HZZ.out.trans (by rw [List.size_toArray, hcs, opL_len]))
      have HON8 : Hid (cs.toArray.all (·.oneCell') = true) := Lib.hid (by rw [hcs]; exact all_oneCell_toArray (opL_one _ _ _ _ _))
      have ho8 := heap_alloc_new wr (.cells zz OpT9)
      have HO8 := Lib.hid ho8
      obtain ⟨V8, hV8⟩ : ∃ V8, V8 = (wr.alloc (.cells zz OpT9)).setRow wr.heap.size cs.toArray := ⟨_, rfl⟩
      have HB8 : Hid (Below wr.heap.size wr V8) := Lib.hid (by rw [hV8]; exact below_setRow (g := wr.heap.size) ((Below.refl _ _).alloc (Nat.le_refl _) _) (Nat.le_refl _) cs.toArray)
      have HP8 : Hid (V8.heap[wr.heap.size]? = some (.cells cs.toArray OpT9 (0, 0))) := Lib.hid (by rw [hV8]; exact setRow_heap _ _ _ cs.toArray _ _ ho8)
      have HV8 := Lib.hid hV8
      clear hops hcs hrg ho8 hV8
      by_cases h40 : i < 40
      · have h40i : (i : Int) < 40 := by omega
        have HRD := Lib.hid (read9_any t g c l V8 (Cells.after HC.out.tb HB8.out))
        obtain ⟨rc, hrc⟩ : ∃ z, z = rowV (regF c l) 33 := ⟨_, rfl⟩
        have HRC0 : Hid (rc[0]? = some (.int .u64 (c : Int))) := Lib.hid (by rw [hrc]; exact rowV_at _ (by omega))
        have HIC : Hid ((Try.prog.info? RegT).map (·.size) = some rc.size) := Lib.hid (by rw [hrc]; exact info_reg _)
        have HSC : Hid (z2.size = rc.size) := Lib.hid (by rw [hrc, rowV_size]; exact HZ2.out)
        have HONC : Hid (rc.all (·.oneCell') = true) := Lib.hid (by rw [hrc]; exact one_reg _ _)
        rw [← hrc] at HRD
        have HRCX := Lib.hid hrc
        clear hrc
        go_wp2_with (first
          | (with_reducible refine wpList_load_mid rfl OpT9 (.tmp 20) rfl bo (oo + i * 36) rfl cs _ HRG.out Try.underlying33 rfl HIL.out ?_)
          | (with_reducible refine wpList_store_row rfl OpT9 (.tmp 8) (.tmp 21) rfl _ _ rfl rfl OpT9 _ HO8.out HIA.out HSZ8.out HON8.out ?_))
        rw [← HV8.out]
        refine HRD.out.mono ?_
        rintro e w3 ⟨rfl, hb3⟩
        have ho2 := heap_alloc_new w3 (.cells z2 RegT)
        have HO2 := Lib.hid ho2
        obtain ⟨V9, hV9⟩ : ∃ V9, V9 = (w3.alloc (.cells z2 RegT)).setRow w3.heap.size rc := ⟨_, rfl⟩
        have hb9 : Below w3.heap.size w3 V9 := by rw [hV9]; exact below_setRow (g := w3.heap.size) ((Below.refl _ _).alloc (Nat.le_refl _) _) (Nat.le_refl _) rc
        have HC9 := Lib.hid (((HC.out.next HB8.out).next hb3).next hb9)
        have hp8 : V9.heap[wr.heap.size]? = some (.cells cs.toArray OpT9 (0, 0)) := by
          have e1 := blk_lt HP8.out
          exact ((hb9.block _ (Nat.lt_of_lt_of_le e1 hb3.size)).trans (hb3.block _ e1)).trans HP8.out
        have HP9 : Hid (V9.heap[w3.heap.size]? = some (.cells rc RegT (0, 0))) := Lib.hid (by rw [hV9]; exact setRow_heap _ _ _ rc _ _ ho2)
        have HPV8 := Lib.hid hp8
        have k0 : V9.cell? ⟨wr.heap.size, 0, none⟩ = some (.int .i64 K) := (blk_cell hp8 0).trans (by rw [HCS.out]; rfl)
        have k35 : V9.cell? ⟨wr.heap.size, 35, none⟩ = some (.int .i64 N) := (blk_cell hp8 35).trans (by rw [HCS.out]; kernel_rfl)
        have HP9G : Hid (¬ w3.heap.size = g) := Lib.hid (fun q => by
          have e1 := HC.out.dq.dev.dev.lt
          have e2 := HB8.out.size
          have e3 := hb3.size
          omega)
        rw [hV9] at k0 k35
        have HV9 := Lib.hid hV9
        obtain ⟨p9, hp9⟩ : ∃ p9, p9 = w3.heap.size := ⟨_, rfl⟩
        have HP9X := Lib.hid hp9
        have HP9S : Hid (wr.heap.size ≤ p9) := Lib.hid (by have e2 := HB8.out.size; have e3 := hb3.size; omega)
        rw [← hp9] at HP9 HP9G
        clear ho2 hV9 hb9 hp8 hp9 hb3
        by_cases hk4 : K = 4
        · subst hk4
          cases off
          · have HCA := Lib.hid (crashQ_on g b 1 1 k 0 0 none av (.slice none 0 0) al u V9 HC9.out.dq)
            go_wp2_with (with_reducible refine wpList_store_row rfl RegT (.tmp 9) (.tmp 25) rfl _ _ rfl rfl RegT _ HO2.out HIC.out HSC.out HONC.out ?_)
            rw [← HV9.out]
            (try rw [← HP9X.out])
            refine HCA.out.mono ?_
            rintro e V ⟨rfl, hdV, htV⟩
            have HCV := Lib.hid (HC9.out.dev hdV htV (by first | exact HC9.out.u0 | omega | exact armU0 N) (by first | exact HC9.out.u1 | omega | exact armU1 hNb)).step
            have HP9V : Hid (V.heap[p9]? = some (.cells rc RegT (0, 0))) := Lib.hid ((htV.block p9 (blk_lt HP9.out) (fun q => HP9G.out q)).trans HP9.out)
            have HLE : Hid (c ≤ c) := Lib.hid (Nat.le_refl _)
            clear hdV htV
            have HRD := Lib.hid (fun W (hW : After V W) => read9_any t g c l W (Cells.after HCV.out.tb hW))
            have HFD := Lib.hid (field_reg c l)
            have HC9Q : Hid (∀ W, After V W → W.cell? ⟨p9, 0, none⟩ = some (.int .u64 (c : Int))) := Lib.hid (fun W hW => (blk_cell ((Below.block hW _ (blk_lt HP9V.out)).trans HP9V.out) 0).trans HRC0.out)
            have hnl : decide ((c : Int) < (c : Int)) = false := decide_eq_false (by have := HLE.out; omega)
            have hnl2 : decide (c < c) = false := decide_eq_false (by have := HLE.out; omega)
            obtain ⟨r1, hr1⟩ : ∃ z, z = rowV (regF c l) 33 := ⟨_, rfl⟩
            rw [← hr1] at HRD HFD
            clear hr1
            go_wp2_with fail
            refine wp_region_class (After V) (by kernel_rfl) (by kernel_rfl) (After.drew V) ?_
            repeat (first
              | go_big_quiet_skip
              | (go_big_quiet_want; first
                | (with_reducible refine quiet_cell 22 _ rfl _ _ rfl (.int .u64 (c : Int)) _ (fun W h => HC9Q.out W h) Try.underlying22 rfl ?_; (simp only [Act.put, List.setIfInBounds_toArray, List.set_cons_zero, List.set_cons_succ]); go_big_quiet_on)
                | (with_reducible refine quiet_field RegT _ 0 rfl (.agg r1) _ rfl (fun W => HFD.out W) ?_; (simp only [Act.put, List.setIfInBounds_toArray, List.set_cons_zero, List.set_cons_succ]); go_big_quiet_on)
                | (go_big_quiet_op; first
                  | go_big_quiet_on
                  | ((with_reducible refine ⟨_, fun _ _ => rfl, ?_⟩); go_big_quiet_on)
                  | ((with_reducible refine ⟨_, fun _ _ => ⟨rfl, rfl⟩, ?_⟩); go_big_quiet_on)
                  | ((with_reducible refine ⟨_, fun W hW => calls_after hW (HRD.out W hW), ?_⟩); go_big_quiet_on))))
            refine wpQuiet_nil ?_
            intro W4 hW4
            have HEN := Lib.hid (HCV.out.next hW4)
            clear hW4
            go_wp2_with fail
            go_roundw
            case rel => exact ⟨i + 1, _, _, _, _, _, _, _, by go_num, by omega, by omega, HEN.out⟩
            case measure => simp [intOf]; omega
          · have HCA := Lib.hid (crashQ_off g b 1 1 k 0 0 none av (.slice none 0 0) al u V9 HC9.out.dq)
            go_wp2_with (with_reducible refine wpList_store_row rfl RegT (.tmp 9) (.tmp 25) rfl _ _ rfl rfl RegT _ HO2.out HIC.out HSC.out HONC.out ?_)
            rw [← HV9.out]
            (try rw [← HP9X.out])
            refine HCA.out.mono ?_
            rintro e V ⟨rfl, hdV, htV⟩
            have HCV := Lib.hid (HC9.out.dev hdV htV (by first | exact HC9.out.u0 | omega | exact armU0 N) (by first | exact HC9.out.u1 | omega | exact armU1 hNb)).step
            have HP9V : Hid (V.heap[p9]? = some (.cells rc RegT (0, 0))) := Lib.hid ((htV.block p9 (blk_lt HP9.out) (fun q => HP9G.out q)).trans HP9.out)
            have HLE : Hid (c ≤ c) := Lib.hid (Nat.le_refl _)
            clear hdV htV
            have HRD := Lib.hid (fun W (hW : After V W) => read9_any t g c l W (Cells.after HCV.out.tb hW))
            have HFD := Lib.hid (field_reg c l)
            have HC9Q : Hid (∀ W, After V W → W.cell? ⟨p9, 0, none⟩ = some (.int .u64 (c : Int))) := Lib.hid (fun W hW => (blk_cell ((Below.block hW _ (blk_lt HP9V.out)).trans HP9V.out) 0).trans HRC0.out)
            have hnl : decide ((c : Int) < (c : Int)) = false := decide_eq_false (by have := HLE.out; omega)
            have hnl2 : decide (c < c) = false := decide_eq_false (by have := HLE.out; omega)
            obtain ⟨r1, hr1⟩ : ∃ z, z = rowV (regF c l) 33 := ⟨_, rfl⟩
            rw [← hr1] at HRD HFD
            clear hr1
            go_wp2_with fail
            refine wp_region_class (After V) (by kernel_rfl) (by kernel_rfl) (After.drew V) ?_
            repeat (first
              | go_big_quiet_skip
              | (go_big_quiet_want; first
                | (with_reducible refine quiet_cell 22 _ rfl _ _ rfl (.int .u64 (c : Int)) _ (fun W h => HC9Q.out W h) Try.underlying22 rfl ?_; (simp only [Act.put, List.setIfInBounds_toArray, List.set_cons_zero, List.set_cons_succ]); go_big_quiet_on)
                | (with_reducible refine quiet_field RegT _ 0 rfl (.agg r1) _ rfl (fun W => HFD.out W) ?_; (simp only [Act.put, List.setIfInBounds_toArray, List.set_cons_zero, List.set_cons_succ]); go_big_quiet_on)
                | (go_big_quiet_op; first
                  | go_big_quiet_on
                  | ((with_reducible refine ⟨_, fun _ _ => rfl, ?_⟩); go_big_quiet_on)
                  | ((with_reducible refine ⟨_, fun _ _ => ⟨rfl, rfl⟩, ?_⟩); go_big_quiet_on)
                  | ((with_reducible refine ⟨_, fun W hW => calls_after hW (HRD.out W hW), ?_⟩); go_big_quiet_on))))
            refine wpQuiet_nil ?_
            intro W4 hW4
            have HEN := Lib.hid (HCV.out.next hW4)
            clear hW4
            go_wp2_with fail
            go_roundw
            case rel => exact ⟨i + 1, _, _, _, _, _, _, _, by go_num, by omega, by omega, HEN.out⟩
            case measure => simp [intOf]; omega
        · have hd4 : (K == 4) = false := by rw [beq_eq_false_iff_ne]; exact hk4
          by_cases hk5 : K = 5
          · subst hk5
            have HCA := Lib.hid (onQ_any g b 1 1 k off av (.slice none 0 0) al u V9 HC9.out.dq)
            go_wp2_with (with_reducible refine wpList_store_row rfl RegT (.tmp 9) (.tmp 25) rfl _ _ rfl rfl RegT _ HO2.out HIC.out HSC.out HONC.out ?_)
            rw [← HV9.out]
            (try rw [← HP9X.out])
            refine HCA.out.mono ?_
            rintro e V ⟨rfl, hdV, htV⟩
            have HCV := Lib.hid (HC9.out.dev hdV htV (by first | exact HC9.out.u0 | omega | exact armU0 N) (by first | exact HC9.out.u1 | omega | exact armU1 hNb)).step
            have HP9V : Hid (V.heap[p9]? = some (.cells rc RegT (0, 0))) := Lib.hid ((htV.block p9 (blk_lt HP9.out) (fun q => HP9G.out q)).trans HP9.out)
            have HLE : Hid (c ≤ c) := Lib.hid (Nat.le_refl _)
            clear hdV htV
            have HRD := Lib.hid (fun W (hW : After V W) => read9_any t g c l W (Cells.after HCV.out.tb hW))
            have HFD := Lib.hid (field_reg c l)
            have HC9Q : Hid (∀ W, After V W → W.cell? ⟨p9, 0, none⟩ = some (.int .u64 (c : Int))) := Lib.hid (fun W hW => (blk_cell ((Below.block hW _ (blk_lt HP9V.out)).trans HP9V.out) 0).trans HRC0.out)
            have hnl : decide ((c : Int) < (c : Int)) = false := decide_eq_false (by have := HLE.out; omega)
            have hnl2 : decide (c < c) = false := decide_eq_false (by have := HLE.out; omega)
            obtain ⟨r1, hr1⟩ : ∃ z, z = rowV (regF c l) 33 := ⟨_, rfl⟩
            rw [← hr1] at HRD HFD
            clear hr1
            go_wp2_with fail
            refine wp_region_class (After V) (by kernel_rfl) (by kernel_rfl) (After.drew V) ?_
            repeat (first
              | go_big_quiet_skip
              | (go_big_quiet_want; first
                | (with_reducible refine quiet_cell 22 _ rfl _ _ rfl (.int .u64 (c : Int)) _ (fun W h => HC9Q.out W h) Try.underlying22 rfl ?_; (simp only [Act.put, List.setIfInBounds_toArray, List.set_cons_zero, List.set_cons_succ]); go_big_quiet_on)
                | (with_reducible refine quiet_field RegT _ 0 rfl (.agg r1) _ rfl (fun W => HFD.out W) ?_; (simp only [Act.put, List.setIfInBounds_toArray, List.set_cons_zero, List.set_cons_succ]); go_big_quiet_on)
                | (go_big_quiet_op; first
                  | go_big_quiet_on
                  | ((with_reducible refine ⟨_, fun _ _ => rfl, ?_⟩); go_big_quiet_on)
                  | ((with_reducible refine ⟨_, fun _ _ => ⟨rfl, rfl⟩, ?_⟩); go_big_quiet_on)
                  | ((with_reducible refine ⟨_, fun W hW => calls_after hW (HRD.out W hW), ?_⟩); go_big_quiet_on))))
            refine wpQuiet_nil ?_
            intro W4 hW4
            have HEN := Lib.hid (HCV.out.next hW4)
            clear hW4
            go_wp2_with fail
            go_roundw
            case rel => exact ⟨i + 1, _, _, _, _, _, _, _, by go_num, by omega, by omega, HEN.out⟩
            case measure => simp [intOf]; omega
          · have hd5 : (K == 5) = false := by rw [beq_eq_false_iff_ne]; exact hk5
            by_cases hk6 : K = 6
            · subst hk6
              have HCA := Lib.hid (armQ_any g b 1 1 k off av (.slice none 0 0) al u N V9 HC9.out.dq)
              go_wp2_with (with_reducible refine wpList_store_row rfl RegT (.tmp 9) (.tmp 25) rfl _ _ rfl rfl RegT _ HO2.out HIC.out HSC.out HONC.out ?_)
              rw [← HV9.out]
              (try rw [← HP9X.out])
              refine HCA.out.mono ?_
              rintro e V ⟨rfl, hdV, htV⟩
              have HCV := Lib.hid (HC9.out.dev hdV htV (by first | exact HC9.out.u0 | omega | exact armU0 N) (by first | exact HC9.out.u1 | omega | exact armU1 hNb)).step
              have HP9V : Hid (V.heap[p9]? = some (.cells rc RegT (0, 0))) := Lib.hid ((htV.block p9 (blk_lt HP9.out) (fun q => HP9G.out q)).trans HP9.out)
              have HLE : Hid (c ≤ c) := Lib.hid (Nat.le_refl _)
              clear hdV htV
              have HRD := Lib.hid (fun W (hW : After V W) => read9_any t g c l W (Cells.after HCV.out.tb hW))
              have HFD := Lib.hid (field_reg c l)
              have HC9Q : Hid (∀ W, After V W → W.cell? ⟨p9, 0, none⟩ = some (.int .u64 (c : Int))) := Lib.hid (fun W hW => (blk_cell ((Below.block hW _ (blk_lt HP9V.out)).trans HP9V.out) 0).trans HRC0.out)
              have hnl : decide ((c : Int) < (c : Int)) = false := decide_eq_false (by have := HLE.out; omega)
              have hnl2 : decide (c < c) = false := decide_eq_false (by have := HLE.out; omega)
              obtain ⟨r1, hr1⟩ : ∃ z, z = rowV (regF c l) 33 := ⟨_, rfl⟩
              rw [← hr1] at HRD HFD
              clear hr1
              go_wp2_with fail
              refine wp_region_class (After V) (by kernel_rfl) (by kernel_rfl) (After.drew V) ?_
              repeat (first
                | go_big_quiet_skip
                | (go_big_quiet_want; first
                  | (with_reducible refine quiet_cell 22 _ rfl _ _ rfl (.int .u64 (c : Int)) _ (fun W h => HC9Q.out W h) Try.underlying22 rfl ?_; (simp only [Act.put, List.setIfInBounds_toArray, List.set_cons_zero, List.set_cons_succ]); go_big_quiet_on)
                  | (with_reducible refine quiet_field RegT _ 0 rfl (.agg r1) _ rfl (fun W => HFD.out W) ?_; (simp only [Act.put, List.setIfInBounds_toArray, List.set_cons_zero, List.set_cons_succ]); go_big_quiet_on)
                  | (go_big_quiet_op; first
                    | go_big_quiet_on
                    | ((with_reducible refine ⟨_, fun _ _ => rfl, ?_⟩); go_big_quiet_on)
                    | ((with_reducible refine ⟨_, fun _ _ => ⟨rfl, rfl⟩, ?_⟩); go_big_quiet_on)
                    | ((with_reducible refine ⟨_, fun W hW => calls_after hW (HRD.out W hW), ?_⟩); go_big_quiet_on))))
              refine wpQuiet_nil ?_
              intro W4 hW4
              have HEN := Lib.hid (HCV.out.next hW4)
              clear hW4
              go_wp2_with fail
              go_roundw
              case rel => exact ⟨i + 1, _, _, _, _, _, _, _, by go_num, by omega, by omega, HEN.out⟩
              case measure => simp [intOf]; omega
            · have hd6 : (K == 6) = false := by rw [beq_eq_false_iff_ne]; exact hk6
              obtain ⟨rl, hrl, hll⟩ := reg_list c' l'
              have HIRL : Hid ((Try.prog.info? RegT).map (·.size) = some rl.length) := Lib.hid (by rw [hll]; exact info_rg9)
              have hrange : ∀ U : World, U.heap[wr.heap.size]? = some (.cells cs.toArray OpT9 (0, 0)) → U.rangeAt wr.heap.size 1 rl := fun U hU j v hv => by
                have hj : j < rl.length := (List.getElem?_eq_some_iff.1 hv).1
                have e1 : rl = (rowV (regF c' l') 33).toList := by rw [← hrl]
                have e2 : cs.toArray[1 + j]? = rl[j]? := by
                  rw [List.getElem?_toArray, HCS.out, opL, Nat.add_comm 1 j, List.getElem?_cons_succ, List.getElem?_append_left (by rw [← e1]; exact hj), e1]
                rw [blk_cell hU, e2, hv]
              have HRNG := Lib.hid hrange
              have HRL : Hid (((w3.alloc (.cells z2 RegT)).setRow w3.heap.size rc).rangeAt wr.heap.size 1 rl) := Lib.hid (by rw [← HV9.out]; exact hrange _ HPV8.out)
              have hcd := HC9.out
              have HSE := Lib.hid (setU_any t g b c c' 1 1 k l l' off av al u V9 hcd.tb hcd.dq hcb' (by have := hcd.ki; omega) (by have := hcd.gt; omega) (by have := hcd.gt; have := hcd.dq.bg; omega) hcd.hav hcd.u0 hcd.u1)
              have HP9N : Hid (¬ (p9 = t ∨ p9 = g ∨ av.ownBlock = some p9)) := Lib.hid (fun q => by
                have e0 := HP9X.out
                have e1 := HC.out.tb.lt
                have e2 := HC.out.dq.dev.dev.lt
                have e4 := HP9S.out
                rcases q with q | q | q
                · omega
                · omega
                · have := (HC.out.dq.dev.own.lt _ q).2; omega)
              have HP8N : Hid (¬ (wr.heap.size = t ∨ wr.heap.size = g ∨ av.ownBlock = some wr.heap.size)) := Lib.hid (fun q => by
                have e1 := HC.out.tb.lt
                have e2 := HC.out.dq.dev.dev.lt
                rcases q with q | q | q
                · omega
                · omega
                · have := (HC.out.dq.dev.own.lt _ q).2; omega)
              rw [← hrl] at HSE
              have HRLX := Lib.hid hrl
              have HK1 : Hid (∀ U : World, U.heap[wr.heap.size]? = some (.cells cs.toArray OpT9 (0, 0)) → U.cell? ⟨wr.heap.size, 1, none⟩ = some (.int .u64 (c' : Int))) := Lib.hid (fun U hU => by
                have h1 := hrange U hU 0 (.int .u64 (c' : Int)) (by
                  have e1 : rl = (rowV (regF c' l') 33).toList := by rw [← hrl]
                  rw [e1, Array.getElem?_toList]
                  exact rowV_at _ (by omega))
                simpa using h1)
              clear hrange hcd hrl hll
              go_wp2_with (first
                | (with_reducible refine wpList_store_row rfl RegT (.tmp 9) (.tmp 25) rfl _ _ rfl rfl RegT _ HO2.out HIC.out HSC.out HONC.out ?_)
                | (with_reducible refine wpList_load_mid rfl RegT (.tmp 29) rfl wr.heap.size 1 rfl rl _ HRL.out Try.underlying26 rfl HIRL.out ?_))
              rw [← HV9.out]
              (try rw [← HP9X.out])
              refine HSE.out.mono ?_
              rintro e U ⟨r, c1, l1, off1, av1, k1, al1, u1, rfl, htb, hdq1, hk1, hu10, hu11, hT1, ho1, hcase⟩
              have HP9U : Hid (U.heap[p9]? = some (.cells rc RegT (0, 0))) := Lib.hid ((hT1.block p9 (blk_lt HP9.out) (fun q => HP9N.out q)).trans HP9.out)
              have HP8U : Hid (U.heap[wr.heap.size]? = some (.cells cs.toArray OpT9 (0, 0))) := Lib.hid ((hT1.block _ (blk_lt HPV8.out) (fun q => HP8N.out q)).trans HPV8.out)
              have HCU := Lib.hid (HC9.out.set (c' := 0) (l' := []) (by rcases hcase with q | q; (· rw [q.2.1]; exact hcb'); (· rw [q.2.1]; exact HC9.out.cb)) htb hdq1 hk1 hu10 hu11 hT1 ho1)
              have HK9U : Hid (∀ W, After U W → W.cell? ⟨p9, 0, none⟩ = some (.int .u64 (c : Int))) := Lib.hid (fun W hW => (blk_cell ((Below.block hW _ (blk_lt HP9U.out)).trans HP9U.out) 0).trans HRC0.out)
              have HGR := Lib.hid guard_reg
              clear htb hdq1 hk1 hu10 hu11 hT1 ho1
              rcases hcase with ⟨h1, h2, h3, h4⟩ | ⟨h1, h2, h3⟩
              · subst h1 h2 h3
                have HLE : Hid (c ≤ c1) := Lib.hid (by omega)
                have HRLU : Hid (∀ W, After U W → W.rangeAt wr.heap.size 1 rl) := Lib.hid (fun W hW => HRNG.out W ((Below.block hW _ (blk_lt HP8U.out)).trans HP8U.out))
                have HK8U : Hid (∀ W, After U W → W.cell? ⟨wr.heap.size, 1, none⟩ = some (.int .u64 (c1 : Int))) := Lib.hid (fun W hW => HK1.out W ((Below.block hW _ (blk_lt HP8U.out)).trans HP8U.out))
                have HRU := Lib.hid (fun W (hW : After U W) => read9_any t g c1 l1 W (Cells.after HCU.out.tb hW))
                have HNE := Lib.hid (neq_reg c1 l1)
                rw [← HRLX.out] at HRU HNE
                have hnlq : decide (c1 ≤ c) = false := decide_eq_false (by omega)
                go_wp2_with fail
                refine wp_region_class (After U) (by kernel_rfl) (by kernel_rfl) (After.drew U) ?_
                repeat (first
                  | go_big_quiet_skip
                  | (go_big_quiet_want; first
                    | (with_reducible refine quiet_load RegT _ rfl _ _ rfl rl _ (fun W h => HRLU.out W h) Try.underlying26 rfl HIRL.out ?_; (simp only [Act.put, List.setIfInBounds_toArray, List.set_cons_zero, List.set_cons_succ]); go_big_quiet_on)
                    | (with_reducible refine quiet_cell 22 _ rfl _ _ rfl (.int .u64 (c1 : Int)) _ (fun W h => HK8U.out W h) Try.underlying22 rfl ?_; (simp only [Act.put, List.setIfInBounds_toArray, List.set_cons_zero, List.set_cons_succ]); go_big_quiet_on)
                    | (with_reducible refine quiet_cell 22 _ rfl _ _ rfl (.int .u64 (c : Int)) _ (fun W h => HK9U.out W h) Try.underlying22 rfl ?_; (simp only [Act.put, List.setIfInBounds_toArray, List.set_cons_zero, List.set_cons_succ]); go_big_quiet_on)
                    | (with_reducible refine quiet_neq RegT _ _ _ rfl rl.toArray rl.toArray (.bool false) rfl rfl HGR.out (fun W => HNE.out W) ?_; (simp only [Act.put, List.setIfInBounds_toArray, List.set_cons_zero, List.set_cons_succ]); go_big_quiet_on)
                    | (go_big_quiet_op; first
                      | go_big_quiet_on
                      | ((with_reducible refine ⟨_, fun _ _ => rfl, ?_⟩); go_big_quiet_on)
                      | ((with_reducible refine ⟨_, fun _ _ => ⟨rfl, rfl⟩, ?_⟩); go_big_quiet_on)
                      | ((with_reducible refine ⟨_, fun W hW => calls_after hW (HRU.out W hW), ?_⟩); go_big_quiet_on))))
                refine wpQuiet_nil ?_
                intro V hV
                have HP9V : Hid (V.heap[p9]? = some (.cells rc RegT (0, 0))) := Lib.hid ((Below.block hV p9 (blk_lt HP9U.out)).trans HP9U.out)
                have HCV := Lib.hid (HCU.out.next hV)
                clear hV
                have HRD := Lib.hid (fun W (hW : After V W) => read9_any t g c1 l1 W (Cells.after HCV.out.tb hW))
                have HFD := Lib.hid (field_reg c1 l1)
                have HC9Q : Hid (∀ W, After V W → W.cell? ⟨p9, 0, none⟩ = some (.int .u64 (c : Int))) := Lib.hid (fun W hW => (blk_cell ((Below.block hW _ (blk_lt HP9V.out)).trans HP9V.out) 0).trans HRC0.out)
                have hnl : decide ((c1 : Int) < (c : Int)) = false := decide_eq_false (by have := HLE.out; omega)
                have hnl2 : decide (c1 < c) = false := decide_eq_false (by have := HLE.out; omega)
                obtain ⟨r1, hr1⟩ : ∃ z, z = rowV (regF c1 l1) 33 := ⟨_, rfl⟩
                rw [← hr1] at HRD HFD
                clear hr1
                go_wp2_with fail
                refine wp_region_class (After V) (by kernel_rfl) (by kernel_rfl) (After.drew V) ?_
                repeat (first
                  | go_big_quiet_skip
                  | (go_big_quiet_want; first
                    | (with_reducible refine quiet_cell 22 _ rfl _ _ rfl (.int .u64 (c : Int)) _ (fun W h => HC9Q.out W h) Try.underlying22 rfl ?_; (simp only [Act.put, List.setIfInBounds_toArray, List.set_cons_zero, List.set_cons_succ]); go_big_quiet_on)
                    | (with_reducible refine quiet_field RegT _ 0 rfl (.agg r1) _ rfl (fun W => HFD.out W) ?_; (simp only [Act.put, List.setIfInBounds_toArray, List.set_cons_zero, List.set_cons_succ]); go_big_quiet_on)
                    | (go_big_quiet_op; first
                      | go_big_quiet_on
                      | ((with_reducible refine ⟨_, fun _ _ => rfl, ?_⟩); go_big_quiet_on)
                      | ((with_reducible refine ⟨_, fun _ _ => ⟨rfl, rfl⟩, ?_⟩); go_big_quiet_on)
                      | ((with_reducible refine ⟨_, fun W hW => calls_after hW (HRD.out W hW), ?_⟩); go_big_quiet_on))))
                refine wpQuiet_nil ?_
                intro W4 hW4
                have HEN := Lib.hid (HCV.out.next hW4)
                clear hW4
                go_wp2_with fail
                go_roundw
                case rel => exact ⟨i + 1, _, _, _, _, _, _, _, by go_num, by omega, by omega, HEN.out⟩
                case measure => simp [intOf]; omega
              · subst h2 h3
                have HLE : Hid (c1 ≤ c1) := Lib.hid (Nat.le_refl _)
                have hre : (r == 0) = false := by rw [beq_eq_false_iff_ne]; exact h1
                have hrn : (r != 0) = true := by rw [bne_iff_ne]; exact h1
                obtain ⟨rcl, hcl, hcll⟩ := reg_list c1 l1
                have hrc2 : rc = rcl.toArray := by rw [HRCX.out, hcl]
                have HIRC : Hid ((Try.prog.info? RegT).map (·.size) = some rcl.length) := Lib.hid (by rw [hcll]; exact info_rg9)
                have HRCU : Hid (∀ W, After U W → W.rangeAt p9 0 rcl) := Lib.hid (fun W hW j v hv => by
                  rw [Nat.zero_add, blk_cell ((Below.block hW _ (blk_lt HP9U.out)).trans HP9U.out), hrc2, List.getElem?_toArray, hv])
                have HRU := Lib.hid (fun W (hW : After U W) => read9_any t g c1 l1 W (Cells.after HCU.out.tb hW))
                have HNE := Lib.hid (neq_reg c1 l1)
                rw [← hcl] at HRU HNE
                clear hrc2 hcl hcll
                go_wp2_with fail
                refine wp_region_class (After U) (by kernel_rfl) (by kernel_rfl) (After.drew U) ?_
                repeat (first
                  | go_big_quiet_skip
                  | (go_big_quiet_want; first
                    | (with_reducible refine quiet_load RegT _ rfl _ _ rfl rcl _ (fun W h => HRCU.out W h) Try.underlying26 rfl HIRC.out ?_; (simp only [Act.put, List.setIfInBounds_toArray, List.set_cons_zero, List.set_cons_succ]); go_big_quiet_on)
                    | (with_reducible refine quiet_neq RegT _ _ _ rfl rcl.toArray rcl.toArray (.bool false) rfl rfl HGR.out (fun W => HNE.out W) ?_; (simp only [Act.put, List.setIfInBounds_toArray, List.set_cons_zero, List.set_cons_succ]); go_big_quiet_on)
                    | (go_big_quiet_op; first
                      | go_big_quiet_on
                      | ((with_reducible refine ⟨_, fun _ _ => rfl, ?_⟩); go_big_quiet_on)
                      | ((with_reducible refine ⟨_, fun _ _ => ⟨rfl, rfl⟩, ?_⟩); go_big_quiet_on)
                      | ((with_reducible refine ⟨_, fun W hW => calls_after hW (HRU.out W hW), ?_⟩); go_big_quiet_on))))
                refine wpQuiet_nil ?_
                intro V hV
                have HP9V : Hid (V.heap[p9]? = some (.cells rc RegT (0, 0))) := Lib.hid ((Below.block hV p9 (blk_lt HP9U.out)).trans HP9U.out)
                have HCV := Lib.hid (HCU.out.next hV)
                clear hV
                have HRD := Lib.hid (fun W (hW : After V W) => read9_any t g c1 l1 W (Cells.after HCV.out.tb hW))
                have HFD := Lib.hid (field_reg c1 l1)
                have HC9Q : Hid (∀ W, After V W → W.cell? ⟨p9, 0, none⟩ = some (.int .u64 (c1 : Int))) := Lib.hid (fun W hW => (blk_cell ((Below.block hW _ (blk_lt HP9V.out)).trans HP9V.out) 0).trans HRC0.out)
                have hnl : decide ((c1 : Int) < (c1 : Int)) = false := decide_eq_false (by have := HLE.out; omega)
                have hnl2 : decide (c1 < c1) = false := decide_eq_false (by have := HLE.out; omega)
                obtain ⟨r1, hr1⟩ : ∃ z, z = rowV (regF c1 l1) 33 := ⟨_, rfl⟩
                rw [← hr1] at HRD HFD
                clear hr1
                go_wp2_with fail
                refine wp_region_class (After V) (by kernel_rfl) (by kernel_rfl) (After.drew V) ?_
                repeat (first
                  | go_big_quiet_skip
                  | (go_big_quiet_want; first
                    | (with_reducible refine quiet_cell 22 _ rfl _ _ rfl (.int .u64 (c1 : Int)) _ (fun W h => HC9Q.out W h) Try.underlying22 rfl ?_; (simp only [Act.put, List.setIfInBounds_toArray, List.set_cons_zero, List.set_cons_succ]); go_big_quiet_on)
                    | (with_reducible refine quiet_field RegT _ 0 rfl (.agg r1) _ rfl (fun W => HFD.out W) ?_; (simp only [Act.put, List.setIfInBounds_toArray, List.set_cons_zero, List.set_cons_succ]); go_big_quiet_on)
                    | (go_big_quiet_op; first
                      | go_big_quiet_on
                      | ((with_reducible refine ⟨_, fun _ _ => rfl, ?_⟩); go_big_quiet_on)
                      | ((with_reducible refine ⟨_, fun _ _ => ⟨rfl, rfl⟩, ?_⟩); go_big_quiet_on)
                      | ((with_reducible refine ⟨_, fun W hW => calls_after hW (HRD.out W hW), ?_⟩); go_big_quiet_on))))
                refine wpQuiet_nil ?_
                intro W4 hW4
                have HEN := Lib.hid (HCV.out.next hW4)
                clear hW4
                go_wp2_with fail
                go_roundw
                case rel => exact ⟨i + 1, _, _, _, _, _, _, _, by go_num, by omega, by omega, HEN.out⟩
                case measure => simp [intOf]; omega
      · have h40i : (40 : Int) ≤ (i : Int) := by omega
        go_wp2_with (first
          | (with_reducible refine wpList_load_mid rfl OpT9 (.tmp 20) rfl bo (oo + i * 36) rfl cs _ HRG.out Try.underlying33 rfl HIL.out ?_)
          | (with_reducible refine wpList_store_row rfl OpT9 (.tmp 8) (.tmp 21) rfl _ _ rfl rfl OpT9 _ HO8.out HIA.out HSZ8.out HON8.out ?_))
        rw [← HV8.out]
        refine (HAW.out _).mono ?_
        rintro e w7 ⟨rfl, hb7⟩
        have HB7 : Hid (Below w.heap.size w w7) := Lib.hid (((HC.out.next HB8.out).next hb7).below)
        clear hb7
        go_wp2
        go_ret
        exact ⟨rfl, HB7.out⟩
    · have hni : n = i := by omega
      subst hni
      go_wp2_with fail
      refine (HAW.out _).mono ?_
      rintro e w7 ⟨rfl, hb7⟩
      have HB7 : Hid (Below w.heap.size w w7) := Lib.hid ((HC.out.next hb7).below)
      clear hb7
      go_wp2
      go_ret
      exact ⟨rfl, HB7.out⟩
end Go.Proofs.Ytoioflbgmofgfab
