/-
  CtrMost's walk.
-/
import Derived.Test.YtimonlkelgpekaaStrB
import Derived.Test.YtimonlkelgpekaaAesP
import Derived.Test.YtimonlkelgpekaaGfD
import Derived.Deep.RegionHeld3
namespace Go.Proofs.Ytimonlkelgpekaa
open Go.RowKit Go
set_option linter.unusedVariables false
set_option linter.unusedSimpArgs false
attribute [local irreducible] Gf.inv Gf.tm Gf.pw Gf.spread Gf.sub Gf.boxAt Gf.bk Gf.rm Gf.bit
theorem awakeC_eq (w : World) : (Op.equalIn 10000 22 (.agg (rowV (bF (ctrL 1 2 3)) 16)) (.agg #[.int .u8 0, .int .u8 0, .int .u8 0, .int .u8 0, .int .u8 0, .int .u8 0, .int .u8 0, .int .u8 1, .int .u8 0, .int .u8 0, .int .u8 0, .int .u8 2, .int .u8 0, .int .u8 3, .int .u8 0, .int .u8 0])).run Try.prog w = .ok true w := by
  have e : (#[.int .u8 0, .int .u8 0, .int .u8 0, .int .u8 0, .int .u8 0, .int .u8 0, .int .u8 0, .int .u8 1, .int .u8 0, .int .u8 0, .int .u8 0, .int .u8 2, .int .u8 0, .int .u8 3, .int .u8 0, .int .u8 0] : Array Value) = rowV (bF (ctrL 1 2 3)) 16 := by kernel_rfl
  rw [e, equal16 _ _ (ctrL_len _ _ _) (ctrL_len _ _ _)]
  simp
theorem counter0 (w : World) : Calls Try.prog 48 #[.int .u64 1, .int .u32 2, .int .u16 3] w fun en w' => en = .returned (.agg (rowV (bF (ctrL 1 2 3)) 16)) ∧ Below w.heap.size w w' := counter_any 1 2 3 (by omega) (by omega) (by omega) w
set_option maxHeartbeats 1000000 in
theorem awakeC_any (w : World) : Calls Try.prog 25 #[] w fun e w' => e = .returned (.bool true) ∧ Below w.heap.size w w' := by
  have hq := awakeC_eq
  go_enter Try.func25, Try.ntmps25
  go_wp2_with fail
  refine (counter0 _).mono ?_
  rintro e w1 ⟨rfl, hb⟩
  generalize rowV (bF (ctrL 1 2 3)) 16 = x at *
  go_wp2
  go_ret
  exact ⟨rfl, hb⟩
theorem rep0_lt (i : Nat) : (List.replicate 16 0).getD i 0 < 256 := by
  rw [List.getD_eq_getElem?_getD, List.getElem?_replicate]
  split <;> simp
theorem zeros_bs (w : World) : BS (w.alloc (.cells (zeros 16) 5)) (w.alloc (.cells (zeros 16) 5)).heap.size (some ⟨w.heap.size, 0, none⟩) 16 16 (List.replicate 16 0) :=
  BS.of_blk (heap_alloc_new w _) (by simp) (by simp) (Nat.le_refl _) (by omega) rep0_lt (fun i hi => by rw [zeros_at hi, List.getD_eq_getElem?_getD, List.getElem?_replicate, if_pos hi]; rfl)
theorem newz : ∃ ks : List Nat, (∀ j, ks.getD j 0 < 256) ∧ ∀ gb b w, IsBox w gb → BS w w.heap.size (some ⟨b, 0, none⟩) 16 16 (List.replicate 16 0) →
    Calls Try.prog 12 #[.pointer (some ⟨gb, 0, none⟩), .slice (some ⟨b, 0, none⟩) 16 16] w fun e w' => e = .returned (.tuple #[.pointer (some ⟨w.heap.size, 0, none⟩), .int .i64 0]) ∧ CipR w' w.heap.size 10 ks ∧ Below w.heap.size w w' :=
  ⟨Aes.sch Gf.sub (List.replicate 16 0) 4 44, fun j => Aes.sch_byte (fun c h => Gf.sub_lt h) (fun i => rep0_lt i) _ _, fun gb b w h1 h2 => new_16 gb b 0 16 _ w h1 h2⟩
theorem stream_12 (g n : Nat) (ks : List Nat) (h1 : 1 ≤ n) (hn : n ≤ 65536) (w : World) (hC : CipR w g 10 ks) (hks : ∀ j, ks.getD j 0 < 256) :
    Calls Try.prog 24 #[.pointer (some ⟨g, 0, none⟩), .int .u64 1, .int .u32 2, .int .i64 (n : Int)] w fun e w' => e = .returned (.slice (some ⟨w.heap.size, 0, none⟩) n n) ∧ Below w.heap.size w w' :=
  (callsIn_wide.1 (stream_in g 10 1 2 n ks h1 hn (by omega) (by omega) w hC hks (by omega))).mono fun e w' h => ⟨h.1, h.2.1⟩
set_option maxHeartbeats 1000000 in
set_option maxRecDepth 100000 in
theorem ctrMost_lo (z : Int) (h : z < 1) (w : World) :
    Calls Try.prog 10 #[.int .i64 z] w fun e w' => e = .returned (.bool true) ∧ Below w.heap.size w w' := by
  have hmk : ∀ W, (Instr.makeSlice 53 (.int .i64 16) (.int .i64 16)).run Try.prog W = .ok (.slice (some ⟨W.heap.size, 0, none⟩) 16 16) (W.alloc (.cells (zeros 16) 5)) := fun W => run_make_bytes (P := Try.prog) 53 5 Try.underlying53 info_u8 16 (by omega) W
  obtain ⟨ks, hkb, hnew⟩ := newz
  have HKS := Lib.hid hkb
  have HNEW := Lib.hid hnew
  clear hkb hnew
  have HNO : Hid (z < 1 ∨ 65536 < z) := Lib.hid (.inl h)
  have g1 : ¬ (600 < z) := by omega
  go_enter Try.func10, Try.ntmps10
  go_wp2_with fail
  refine wp_region_held_drew (S := fun _ => True) (by kernel_rfl) trivial (fun hHeld => ?_)
  refine wpAnyH_ready (rs := [0, 1]) (by kernel_rfl) (by simp) ?_
  refine AllReadyH.cons (o := _) rfl (fun K hK => ?_) (AllReadyH.cons (o := _) rfl (fun K hK => ?_) AllReadyH.nil)
  · go_simp
    go_at_call 13
    refine (newBox_any _).mono ?_
    rintro e w1 ⟨rfl, hb1, hbx1⟩
    refine hK.out _ _ trivial (fun hHeld0 => ?_)
    clear hK K
    (try simp only [Act.put, List.getElem_toArray, List.getElem_cons_succ, List.getElem_cons_zero, List.setIfInBounds_toArray, List.set_cons_zero, List.set_cons_succ])
    refine wpAnyH_ready (rs := [1]) (by kernel_rfl) (by simp) ?_
    refine AllReadyH.cons (o := _) rfl (fun K hK => ?_) AllReadyH.nil
    go_simp
    refine hK.out _ _ trivial (fun hHeld1 => ?_)
    clear hK K
    (try simp only [Act.put, List.getElem_toArray, List.getElem_cons_succ, List.getElem_cons_zero, List.setIfInBounds_toArray, List.set_cons_zero, List.set_cons_succ])
    have hb02 : Below w.heap.size w (w1.alloc (.cells (zeros 16) 5)) := (Below.refl _ w).drew.trans (hb1.trans (((Below.refl _ _).alloc (Nat.le_refl _) _).mono hb1.size))
    have hbx2 := IsBox.below hbx1 (blk_lt hbx1) ((Below.refl w1.heap.size w1).alloc (Nat.le_refl _) (.cells (zeros 16) 5))
    have hsz : (w1.alloc (.cells (zeros 16) 5)).heap.size = w1.heap.size + 1 := by simp
    have hks : BS (w1.alloc (.cells (zeros 16) 5)) (w1.alloc (.cells (zeros 16) 5)).heap.size (some ⟨w1.heap.size, 0, none⟩) 16 16 (List.replicate 16 0) := zeros_bs w1
    refine wpAnyH_ready (rs := [2]) (by kernel_rfl) (by simp) ?_
    refine AllReadyH.cons (o := _) rfl (fun K hK => ?_) AllReadyH.nil
    go_simp
    go_at_call 12
    refine (HNEW.out _ _ _ hbx2 hks).mono ?_
    rintro e w3 ⟨rfl, hc3, hb3⟩
    refine hK.out _ _ trivial (fun hHeld2 => ?_)
    clear hK K
    (try simp only [Act.put, List.getElem_toArray, List.getElem_cons_succ, List.getElem_cons_zero, List.setIfInBounds_toArray, List.set_cons_zero, List.set_cons_succ])
    refine wpAnyH_take (i := 3) (oi := _) (v := ?_) rfl (by kernel_rfl) (by kernel_rfl) (by kernel_rfl) (fun _ _ _ h => h) (Or.inl ⟨by rfl, ?_⟩) (by assumption) ?_
    rotate_left 1
    · intro w hSw
      (try dsimp only at hSw)
      (first | (go_simp; done) | (go_simp; with_reducible rfl))
    (try simp only [Act.put, List.getElem_toArray, List.getElem_cons_succ, List.getElem_cons_zero, List.setIfInBounds_toArray, List.set_cons_zero, List.set_cons_succ])
    refine wpAnyH_take (i := 4) (oi := _) (v := ?_) rfl (by kernel_rfl) (by kernel_rfl) (by kernel_rfl) (fun _ _ _ h => h) (Or.inl ⟨by rfl, ?_⟩) (by assumption) ?_
    rotate_left 1
    · intro w hSw
      (try dsimp only at hSw)
      (first | (go_simp; done) | (go_simp; with_reducible rfl))
    (try simp only [Act.put, List.getElem_toArray, List.getElem_cons_succ, List.getElem_cons_zero, List.setIfInBounds_toArray, List.set_cons_zero, List.set_cons_succ])
    refine wpAnyH_take (i := 5) (oi := _) (v := ?_) rfl (by kernel_rfl) (by kernel_rfl) (by kernel_rfl) (fun _ _ _ h => h) (Or.inl ⟨by rfl, ?_⟩) (by assumption) ?_
    rotate_left 1
    · intro w hSw
      (try dsimp only at hSw)
      (first | (go_simp; done) | (go_simp; with_reducible rfl))
    (try simp only [Act.put, List.getElem_toArray, List.getElem_cons_succ, List.getElem_cons_zero, List.setIfInBounds_toArray, List.set_cons_zero, List.set_cons_succ])
    refine wpAnyH_take (i := 6) (oi := _) (v := ?_) rfl (by kernel_rfl) (by kernel_rfl) (by kernel_rfl) (fun _ _ _ h => h) (Or.inl ⟨by rfl, ?_⟩) (by assumption) ?_
    rotate_left 1
    · intro w hSw
      (try dsimp only at hSw)
      (first | (go_simp; done) | (go_simp; with_reducible rfl))
    (try simp only [Act.put, List.getElem_toArray, List.getElem_cons_succ, List.getElem_cons_zero, List.setIfInBounds_toArray, List.set_cons_zero, List.set_cons_succ])
    refine wpAnyH_take (i := 7) (oi := _) (v := ?_) rfl (by kernel_rfl) (by kernel_rfl) (by kernel_rfl) (fun _ _ _ h => h) (Or.inl ⟨by rfl, ?_⟩) (by assumption) ?_
    rotate_left 1
    · intro w hSw
      (try dsimp only at hSw)
      (first | (go_simp; done) | (go_simp; with_reducible rfl))
    (try simp only [Act.put, List.getElem_toArray, List.getElem_cons_succ, List.getElem_cons_zero, List.setIfInBounds_toArray, List.set_cons_zero, List.set_cons_succ])
    refine wpAnyH_done (by kernel_rfl) ?_ _
    have hbw := hb02.trans (hb3.mono hb02.size)
    (try rw [hsz] at hc3)
    have HBW := Lib.hid hbw
    have HC := Lib.hid hc3
    have HLT := Lib.hid hb3.size
    clear hc3 hb3 hbw hb02 hbx2 hks hsz
    go_wp2_with fail
    refine (stream_no _ 1 2 _ HNO.out _).mono ?_
    rintro e w4 ⟨rfl, rfl⟩
    clear HNO
    go_wp2_with fail
    refine (awakeC_any _).mono ?_
    rintro e w5 ⟨rfl, hb5⟩
    have HB5 := Lib.hid (HBW.out.trans (hb5.mono HBW.out.size))
    clear hb5
    go_wp2
    go_ret
    exact ⟨rfl, HB5.out⟩
  · go_simp
    refine hK.out _ _ trivial (fun hHeld1 => ?_)
    clear hK K
    (try simp only [Act.put, List.getElem_toArray, List.getElem_cons_succ, List.getElem_cons_zero, List.setIfInBounds_toArray, List.set_cons_zero, List.set_cons_succ])
    refine wpAnyH_ready (rs := [0]) (by kernel_rfl) (by simp) ?_
    refine AllReadyH.cons (o := _) rfl (fun K hK => ?_) AllReadyH.nil
    go_simp
    go_at_call 13
    refine (newBox_any _).mono ?_
    rintro e w1 ⟨rfl, hb1, hbx1⟩
    refine hK.out _ _ trivial (fun hHeld0 => ?_)
    clear hK K
    (try simp only [Act.put, List.getElem_toArray, List.getElem_cons_succ, List.getElem_cons_zero, List.setIfInBounds_toArray, List.set_cons_zero, List.set_cons_succ])
    have hb02 : Below w.heap.size w w1 := ((Below.refl _ w).alloc (Nat.le_refl _) (.cells (zeros 16) 5)).drew.trans (hb1.mono (show w.heap.size ≤ (w.alloc (.cells (zeros 16) 5)).heap.size by simp))
    have hsz : (w.alloc (.cells (zeros 16) 5)).drew.heap.size = w.heap.size + 1 := by simp [World.drew]
    have hbx2 : IsBox w1 (w.heap.size + 1) := by rw [hsz] at hbx1; exact hbx1
    have hz1 := (zeros_bs w).dr
    have hz2 : BS w1 (w.alloc (.cells (zeros 16) 5)).drew.heap.size (some ⟨w.heap.size, 0, none⟩) 16 16 (List.replicate 16 0) := hz1.below hb1
    have hks : BS w1 w1.heap.size (some ⟨w.heap.size, 0, none⟩) 16 16 (List.replicate 16 0) := hz2.more hb1.size
    clear hz1 hz2
    refine wpAnyH_ready (rs := [2]) (by kernel_rfl) (by simp) ?_
    refine AllReadyH.cons (o := _) rfl (fun K hK => ?_) AllReadyH.nil
    go_simp
    go_at_call 12
    refine (HNEW.out _ _ _ hbx2 hks).mono ?_
    rintro e w3 ⟨rfl, hc3, hb3⟩
    refine hK.out _ _ trivial (fun hHeld2 => ?_)
    clear hK K
    (try simp only [Act.put, List.getElem_toArray, List.getElem_cons_succ, List.getElem_cons_zero, List.setIfInBounds_toArray, List.set_cons_zero, List.set_cons_succ])
    refine wpAnyH_take (i := 3) (oi := _) (v := ?_) rfl (by kernel_rfl) (by kernel_rfl) (by kernel_rfl) (fun _ _ _ h => h) (Or.inl ⟨by rfl, ?_⟩) (by assumption) ?_
    rotate_left 1
    · intro w hSw
      (try dsimp only at hSw)
      (first | (go_simp; done) | (go_simp; with_reducible rfl))
    (try simp only [Act.put, List.getElem_toArray, List.getElem_cons_succ, List.getElem_cons_zero, List.setIfInBounds_toArray, List.set_cons_zero, List.set_cons_succ])
    refine wpAnyH_take (i := 4) (oi := _) (v := ?_) rfl (by kernel_rfl) (by kernel_rfl) (by kernel_rfl) (fun _ _ _ h => h) (Or.inl ⟨by rfl, ?_⟩) (by assumption) ?_
    rotate_left 1
    · intro w hSw
      (try dsimp only at hSw)
      (first | (go_simp; done) | (go_simp; with_reducible rfl))
    (try simp only [Act.put, List.getElem_toArray, List.getElem_cons_succ, List.getElem_cons_zero, List.setIfInBounds_toArray, List.set_cons_zero, List.set_cons_succ])
    refine wpAnyH_take (i := 5) (oi := _) (v := ?_) rfl (by kernel_rfl) (by kernel_rfl) (by kernel_rfl) (fun _ _ _ h => h) (Or.inl ⟨by rfl, ?_⟩) (by assumption) ?_
    rotate_left 1
    · intro w hSw
      (try dsimp only at hSw)
      (first | (go_simp; done) | (go_simp; with_reducible rfl))
    (try simp only [Act.put, List.getElem_toArray, List.getElem_cons_succ, List.getElem_cons_zero, List.setIfInBounds_toArray, List.set_cons_zero, List.set_cons_succ])
    refine wpAnyH_take (i := 6) (oi := _) (v := ?_) rfl (by kernel_rfl) (by kernel_rfl) (by kernel_rfl) (fun _ _ _ h => h) (Or.inl ⟨by rfl, ?_⟩) (by assumption) ?_
    rotate_left 1
    · intro w hSw
      (try dsimp only at hSw)
      (first | (go_simp; done) | (go_simp; with_reducible rfl))
    (try simp only [Act.put, List.getElem_toArray, List.getElem_cons_succ, List.getElem_cons_zero, List.setIfInBounds_toArray, List.set_cons_zero, List.set_cons_succ])
    refine wpAnyH_take (i := 7) (oi := _) (v := ?_) rfl (by kernel_rfl) (by kernel_rfl) (by kernel_rfl) (fun _ _ _ h => h) (Or.inl ⟨by rfl, ?_⟩) (by assumption) ?_
    rotate_left 1
    · intro w hSw
      (try dsimp only at hSw)
      (first | (go_simp; done) | (go_simp; with_reducible rfl))
    (try simp only [Act.put, List.getElem_toArray, List.getElem_cons_succ, List.getElem_cons_zero, List.setIfInBounds_toArray, List.set_cons_zero, List.set_cons_succ])
    refine wpAnyH_done (by kernel_rfl) ?_ _
    have hbw := hb02.trans (hb3.mono hb02.size)
    (try rw [hsz] at hc3)
    have HBW := Lib.hid hbw
    have HC := Lib.hid hc3
    have HLT := Lib.hid hb3.size
    clear hc3 hb3 hbw hb02 hbx2 hks hsz
    go_wp2_with fail
    refine (stream_no _ 1 2 _ HNO.out _).mono ?_
    rintro e w4 ⟨rfl, rfl⟩
    clear HNO
    go_wp2_with fail
    refine (awakeC_any _).mono ?_
    rintro e w5 ⟨rfl, hb5⟩
    have HB5 := Lib.hid (HBW.out.trans (hb5.mono HBW.out.size))
    clear hb5
    go_wp2
    go_ret
    exact ⟨rfl, HB5.out⟩
set_option maxHeartbeats 1000000 in
set_option maxRecDepth 100000 in
theorem ctrMost_hi (z : Int) (h : 65536 < z) (w : World) :
    Calls Try.prog 10 #[.int .i64 z] w fun e w' => e = .returned (.bool true) ∧ Below w.heap.size w w' := by
  have hmk : ∀ W, (Instr.makeSlice 53 (.int .i64 16) (.int .i64 16)).run Try.prog W = .ok (.slice (some ⟨W.heap.size, 0, none⟩) 16 16) (W.alloc (.cells (zeros 16) 5)) := fun W => run_make_bytes (P := Try.prog) 53 5 Try.underlying53 info_u8 16 (by omega) W
  obtain ⟨ks, hkb, hnew⟩ := newz
  have HKS := Lib.hid hkb
  have HNEW := Lib.hid hnew
  clear hkb hnew
  have HNO : Hid (z < 1 ∨ 65536 < z) := Lib.hid (.inr h)
  have g1 : 600 < z := by omega
  have g2 : ¬ (z ≤ 65536) := by omega
  have g3 : ¬ (z < 1) := by omega
  go_enter Try.func10, Try.ntmps10
  go_wp2_with fail
  refine wp_region_held_drew (S := fun _ => True) (by kernel_rfl) trivial (fun hHeld => ?_)
  refine wpAnyH_ready (rs := [0, 1]) (by kernel_rfl) (by simp) ?_
  refine AllReadyH.cons (o := _) rfl (fun K hK => ?_) (AllReadyH.cons (o := _) rfl (fun K hK => ?_) AllReadyH.nil)
  · go_simp
    go_at_call 13
    refine (newBox_any _).mono ?_
    rintro e w1 ⟨rfl, hb1, hbx1⟩
    refine hK.out _ _ trivial (fun hHeld0 => ?_)
    clear hK K
    (try simp only [Act.put, List.getElem_toArray, List.getElem_cons_succ, List.getElem_cons_zero, List.setIfInBounds_toArray, List.set_cons_zero, List.set_cons_succ])
    refine wpAnyH_ready (rs := [1]) (by kernel_rfl) (by simp) ?_
    refine AllReadyH.cons (o := _) rfl (fun K hK => ?_) AllReadyH.nil
    go_simp
    refine hK.out _ _ trivial (fun hHeld1 => ?_)
    clear hK K
    (try simp only [Act.put, List.getElem_toArray, List.getElem_cons_succ, List.getElem_cons_zero, List.setIfInBounds_toArray, List.set_cons_zero, List.set_cons_succ])
    have hb02 : Below w.heap.size w (w1.alloc (.cells (zeros 16) 5)) := (Below.refl _ w).drew.trans (hb1.trans (((Below.refl _ _).alloc (Nat.le_refl _) _).mono hb1.size))
    have hbx2 := IsBox.below hbx1 (blk_lt hbx1) ((Below.refl w1.heap.size w1).alloc (Nat.le_refl _) (.cells (zeros 16) 5))
    have hsz : (w1.alloc (.cells (zeros 16) 5)).heap.size = w1.heap.size + 1 := by simp
    have hks : BS (w1.alloc (.cells (zeros 16) 5)) (w1.alloc (.cells (zeros 16) 5)).heap.size (some ⟨w1.heap.size, 0, none⟩) 16 16 (List.replicate 16 0) := zeros_bs w1
    refine wpAnyH_ready (rs := [2]) (by kernel_rfl) (by simp) ?_
    refine AllReadyH.cons (o := _) rfl (fun K hK => ?_) AllReadyH.nil
    go_simp
    go_at_call 12
    refine (HNEW.out _ _ _ hbx2 hks).mono ?_
    rintro e w3 ⟨rfl, hc3, hb3⟩
    refine hK.out _ _ trivial (fun hHeld2 => ?_)
    clear hK K
    (try simp only [Act.put, List.getElem_toArray, List.getElem_cons_succ, List.getElem_cons_zero, List.setIfInBounds_toArray, List.set_cons_zero, List.set_cons_succ])
    refine wpAnyH_take (i := 3) (oi := _) (v := ?_) rfl (by kernel_rfl) (by kernel_rfl) (by kernel_rfl) (fun _ _ _ h => h) (Or.inl ⟨by rfl, ?_⟩) (by assumption) ?_
    rotate_left 1
    · intro w hSw
      (try dsimp only at hSw)
      (first | (go_simp; done) | (go_simp; with_reducible rfl))
    (try simp only [Act.put, List.getElem_toArray, List.getElem_cons_succ, List.getElem_cons_zero, List.setIfInBounds_toArray, List.set_cons_zero, List.set_cons_succ])
    refine wpAnyH_take (i := 4) (oi := _) (v := ?_) rfl (by kernel_rfl) (by kernel_rfl) (by kernel_rfl) (fun _ _ _ h => h) (Or.inl ⟨by rfl, ?_⟩) (by assumption) ?_
    rotate_left 1
    · intro w hSw
      (try dsimp only at hSw)
      (first | (go_simp; done) | (go_simp; with_reducible rfl))
    (try simp only [Act.put, List.getElem_toArray, List.getElem_cons_succ, List.getElem_cons_zero, List.setIfInBounds_toArray, List.set_cons_zero, List.set_cons_succ])
    refine wpAnyH_take (i := 5) (oi := _) (v := ?_) rfl (by kernel_rfl) (by kernel_rfl) (by kernel_rfl) (fun _ _ _ h => h) (Or.inl ⟨by rfl, ?_⟩) (by assumption) ?_
    rotate_left 1
    · intro w hSw
      (try dsimp only at hSw)
      (first | (go_simp; done) | (go_simp; with_reducible rfl))
    (try simp only [Act.put, List.getElem_toArray, List.getElem_cons_succ, List.getElem_cons_zero, List.setIfInBounds_toArray, List.set_cons_zero, List.set_cons_succ])
    refine wpAnyH_take (i := 6) (oi := _) (v := ?_) rfl (by kernel_rfl) (by kernel_rfl) (by kernel_rfl) (fun _ _ _ h => h) (Or.inl ⟨by rfl, ?_⟩) (by assumption) ?_
    rotate_left 1
    · intro w hSw
      (try dsimp only at hSw)
      (first | (go_simp; done) | (go_simp; with_reducible rfl))
    (try simp only [Act.put, List.getElem_toArray, List.getElem_cons_succ, List.getElem_cons_zero, List.setIfInBounds_toArray, List.set_cons_zero, List.set_cons_succ])
    refine wpAnyH_take (i := 7) (oi := _) (v := ?_) rfl (by kernel_rfl) (by kernel_rfl) (by kernel_rfl) (fun _ _ _ h => h) (Or.inl ⟨by rfl, ?_⟩) (by assumption) ?_
    rotate_left 1
    · intro w hSw
      (try dsimp only at hSw)
      (first | (go_simp; done) | (go_simp; with_reducible rfl))
    (try simp only [Act.put, List.getElem_toArray, List.getElem_cons_succ, List.getElem_cons_zero, List.setIfInBounds_toArray, List.set_cons_zero, List.set_cons_succ])
    refine wpAnyH_done (by kernel_rfl) ?_ _
    have hbw := hb02.trans (hb3.mono hb02.size)
    (try rw [hsz] at hc3)
    have HBW := Lib.hid hbw
    have HC := Lib.hid hc3
    have HLT := Lib.hid hb3.size
    clear hc3 hb3 hbw hb02 hbx2 hks hsz
    go_wp2_with fail
    refine (stream_no _ 1 2 _ HNO.out _).mono ?_
    rintro e w4 ⟨rfl, rfl⟩
    clear HNO
    go_wp2_with fail
    refine (awakeC_any _).mono ?_
    rintro e w5 ⟨rfl, hb5⟩
    have HB5 := Lib.hid (HBW.out.trans (hb5.mono HBW.out.size))
    clear hb5
    go_wp2
    go_ret
    exact ⟨rfl, HB5.out⟩
  · go_simp
    refine hK.out _ _ trivial (fun hHeld1 => ?_)
    clear hK K
    (try simp only [Act.put, List.getElem_toArray, List.getElem_cons_succ, List.getElem_cons_zero, List.setIfInBounds_toArray, List.set_cons_zero, List.set_cons_succ])
    refine wpAnyH_ready (rs := [0]) (by kernel_rfl) (by simp) ?_
    refine AllReadyH.cons (o := _) rfl (fun K hK => ?_) AllReadyH.nil
    go_simp
    go_at_call 13
    refine (newBox_any _).mono ?_
    rintro e w1 ⟨rfl, hb1, hbx1⟩
    refine hK.out _ _ trivial (fun hHeld0 => ?_)
    clear hK K
    (try simp only [Act.put, List.getElem_toArray, List.getElem_cons_succ, List.getElem_cons_zero, List.setIfInBounds_toArray, List.set_cons_zero, List.set_cons_succ])
    have hb02 : Below w.heap.size w w1 := ((Below.refl _ w).alloc (Nat.le_refl _) (.cells (zeros 16) 5)).drew.trans (hb1.mono (show w.heap.size ≤ (w.alloc (.cells (zeros 16) 5)).heap.size by simp))
    have hsz : (w.alloc (.cells (zeros 16) 5)).drew.heap.size = w.heap.size + 1 := by simp [World.drew]
    have hbx2 : IsBox w1 (w.heap.size + 1) := by rw [hsz] at hbx1; exact hbx1
    have hz1 := (zeros_bs w).dr
    have hz2 : BS w1 (w.alloc (.cells (zeros 16) 5)).drew.heap.size (some ⟨w.heap.size, 0, none⟩) 16 16 (List.replicate 16 0) := hz1.below hb1
    have hks : BS w1 w1.heap.size (some ⟨w.heap.size, 0, none⟩) 16 16 (List.replicate 16 0) := hz2.more hb1.size
    clear hz1 hz2
    refine wpAnyH_ready (rs := [2]) (by kernel_rfl) (by simp) ?_
    refine AllReadyH.cons (o := _) rfl (fun K hK => ?_) AllReadyH.nil
    go_simp
    go_at_call 12
    refine (HNEW.out _ _ _ hbx2 hks).mono ?_
    rintro e w3 ⟨rfl, hc3, hb3⟩
    refine hK.out _ _ trivial (fun hHeld2 => ?_)
    clear hK K
    (try simp only [Act.put, List.getElem_toArray, List.getElem_cons_succ, List.getElem_cons_zero, List.setIfInBounds_toArray, List.set_cons_zero, List.set_cons_succ])
    refine wpAnyH_take (i := 3) (oi := _) (v := ?_) rfl (by kernel_rfl) (by kernel_rfl) (by kernel_rfl) (fun _ _ _ h => h) (Or.inl ⟨by rfl, ?_⟩) (by assumption) ?_
    rotate_left 1
    · intro w hSw
      (try dsimp only at hSw)
      (first | (go_simp; done) | (go_simp; with_reducible rfl))
    (try simp only [Act.put, List.getElem_toArray, List.getElem_cons_succ, List.getElem_cons_zero, List.setIfInBounds_toArray, List.set_cons_zero, List.set_cons_succ])
    refine wpAnyH_take (i := 4) (oi := _) (v := ?_) rfl (by kernel_rfl) (by kernel_rfl) (by kernel_rfl) (fun _ _ _ h => h) (Or.inl ⟨by rfl, ?_⟩) (by assumption) ?_
    rotate_left 1
    · intro w hSw
      (try dsimp only at hSw)
      (first | (go_simp; done) | (go_simp; with_reducible rfl))
    (try simp only [Act.put, List.getElem_toArray, List.getElem_cons_succ, List.getElem_cons_zero, List.setIfInBounds_toArray, List.set_cons_zero, List.set_cons_succ])
    refine wpAnyH_take (i := 5) (oi := _) (v := ?_) rfl (by kernel_rfl) (by kernel_rfl) (by kernel_rfl) (fun _ _ _ h => h) (Or.inl ⟨by rfl, ?_⟩) (by assumption) ?_
    rotate_left 1
    · intro w hSw
      (try dsimp only at hSw)
      (first | (go_simp; done) | (go_simp; with_reducible rfl))
    (try simp only [Act.put, List.getElem_toArray, List.getElem_cons_succ, List.getElem_cons_zero, List.setIfInBounds_toArray, List.set_cons_zero, List.set_cons_succ])
    refine wpAnyH_take (i := 6) (oi := _) (v := ?_) rfl (by kernel_rfl) (by kernel_rfl) (by kernel_rfl) (fun _ _ _ h => h) (Or.inl ⟨by rfl, ?_⟩) (by assumption) ?_
    rotate_left 1
    · intro w hSw
      (try dsimp only at hSw)
      (first | (go_simp; done) | (go_simp; with_reducible rfl))
    (try simp only [Act.put, List.getElem_toArray, List.getElem_cons_succ, List.getElem_cons_zero, List.setIfInBounds_toArray, List.set_cons_zero, List.set_cons_succ])
    refine wpAnyH_take (i := 7) (oi := _) (v := ?_) rfl (by kernel_rfl) (by kernel_rfl) (by kernel_rfl) (fun _ _ _ h => h) (Or.inl ⟨by rfl, ?_⟩) (by assumption) ?_
    rotate_left 1
    · intro w hSw
      (try dsimp only at hSw)
      (first | (go_simp; done) | (go_simp; with_reducible rfl))
    (try simp only [Act.put, List.getElem_toArray, List.getElem_cons_succ, List.getElem_cons_zero, List.setIfInBounds_toArray, List.set_cons_zero, List.set_cons_succ])
    refine wpAnyH_done (by kernel_rfl) ?_ _
    have hbw := hb02.trans (hb3.mono hb02.size)
    (try rw [hsz] at hc3)
    have HBW := Lib.hid hbw
    have HC := Lib.hid hc3
    have HLT := Lib.hid hb3.size
    clear hc3 hb3 hbw hb02 hbx2 hks hsz
    go_wp2_with fail
    refine (stream_no _ 1 2 _ HNO.out _).mono ?_
    rintro e w4 ⟨rfl, rfl⟩
    clear HNO
    go_wp2_with fail
    refine (awakeC_any _).mono ?_
    rintro e w5 ⟨rfl, hb5⟩
    have HB5 := Lib.hid (HBW.out.trans (hb5.mono HBW.out.size))
    clear hb5
    go_wp2
    go_ret
    exact ⟨rfl, HB5.out⟩
set_option maxHeartbeats 1000000 in
set_option maxRecDepth 100000 in
theorem ctrMost_some (n : Nat) (h1 : 1 ≤ n) (h2 : n ≤ 600) (w : World) :
    Calls Try.prog 10 #[.int .i64 (n : Int)] w fun e w' => e = .returned (.bool true) ∧ Below w.heap.size w w' := by
  have hmk : ∀ W, (Instr.makeSlice 53 (.int .i64 16) (.int .i64 16)).run Try.prog W = .ok (.slice (some ⟨W.heap.size, 0, none⟩) 16 16) (W.alloc (.cells (zeros 16) 5)) := fun W => run_make_bytes (P := Try.prog) 53 5 Try.underlying53 info_u8 16 (by omega) W
  obtain ⟨ks, hkb, hnew⟩ := newz
  have HKS := Lib.hid hkb
  have HNEW := Lib.hid hnew
  clear hkb hnew
  have HN : Hid (1 ≤ n ∧ n ≤ 65536) := Lib.hid ⟨h1, by omega⟩
  have g1 : ¬ (600 < (n : Int)) := by omega
  have g3 : ¬ ((n : Int) < 1) := by omega
  have g4 : ¬ (65536 < (n : Int)) := by omega
  go_enter Try.func10, Try.ntmps10
  go_wp2_with fail
  refine wp_region_held_drew (S := fun _ => True) (by kernel_rfl) trivial (fun hHeld => ?_)
  refine wpAnyH_ready (rs := [0, 1]) (by kernel_rfl) (by simp) ?_
  refine AllReadyH.cons (o := _) rfl (fun K hK => ?_) (AllReadyH.cons (o := _) rfl (fun K hK => ?_) AllReadyH.nil)
  · go_simp
    go_at_call 13
    refine (newBox_any _).mono ?_
    rintro e w1 ⟨rfl, hb1, hbx1⟩
    refine hK.out _ _ trivial (fun hHeld0 => ?_)
    clear hK K
    (try simp only [Act.put, List.getElem_toArray, List.getElem_cons_succ, List.getElem_cons_zero, List.setIfInBounds_toArray, List.set_cons_zero, List.set_cons_succ])
    refine wpAnyH_ready (rs := [1]) (by kernel_rfl) (by simp) ?_
    refine AllReadyH.cons (o := _) rfl (fun K hK => ?_) AllReadyH.nil
    go_simp
    refine hK.out _ _ trivial (fun hHeld1 => ?_)
    clear hK K
    (try simp only [Act.put, List.getElem_toArray, List.getElem_cons_succ, List.getElem_cons_zero, List.setIfInBounds_toArray, List.set_cons_zero, List.set_cons_succ])
    have hb02 : Below w.heap.size w (w1.alloc (.cells (zeros 16) 5)) := (Below.refl _ w).drew.trans (hb1.trans (((Below.refl _ _).alloc (Nat.le_refl _) _).mono hb1.size))
    have hbx2 := IsBox.below hbx1 (blk_lt hbx1) ((Below.refl w1.heap.size w1).alloc (Nat.le_refl _) (.cells (zeros 16) 5))
    have hsz : (w1.alloc (.cells (zeros 16) 5)).heap.size = w1.heap.size + 1 := by simp
    have hks : BS (w1.alloc (.cells (zeros 16) 5)) (w1.alloc (.cells (zeros 16) 5)).heap.size (some ⟨w1.heap.size, 0, none⟩) 16 16 (List.replicate 16 0) := zeros_bs w1
    refine wpAnyH_ready (rs := [2]) (by kernel_rfl) (by simp) ?_
    refine AllReadyH.cons (o := _) rfl (fun K hK => ?_) AllReadyH.nil
    go_simp
    go_at_call 12
    refine (HNEW.out _ _ _ hbx2 hks).mono ?_
    rintro e w3 ⟨rfl, hc3, hb3⟩
    refine hK.out _ _ trivial (fun hHeld2 => ?_)
    clear hK K
    (try simp only [Act.put, List.getElem_toArray, List.getElem_cons_succ, List.getElem_cons_zero, List.setIfInBounds_toArray, List.set_cons_zero, List.set_cons_succ])
    refine wpAnyH_take (i := 3) (oi := _) (v := ?_) rfl (by kernel_rfl) (by kernel_rfl) (by kernel_rfl) (fun _ _ _ h => h) (Or.inl ⟨by rfl, ?_⟩) (by assumption) ?_
    rotate_left 1
    · intro w hSw
      (try dsimp only at hSw)
      (first | (go_simp; done) | (go_simp; with_reducible rfl))
    (try simp only [Act.put, List.getElem_toArray, List.getElem_cons_succ, List.getElem_cons_zero, List.setIfInBounds_toArray, List.set_cons_zero, List.set_cons_succ])
    refine wpAnyH_take (i := 4) (oi := _) (v := ?_) rfl (by kernel_rfl) (by kernel_rfl) (by kernel_rfl) (fun _ _ _ h => h) (Or.inl ⟨by rfl, ?_⟩) (by assumption) ?_
    rotate_left 1
    · intro w hSw
      (try dsimp only at hSw)
      (first | (go_simp; done) | (go_simp; with_reducible rfl))
    (try simp only [Act.put, List.getElem_toArray, List.getElem_cons_succ, List.getElem_cons_zero, List.setIfInBounds_toArray, List.set_cons_zero, List.set_cons_succ])
    refine wpAnyH_take (i := 5) (oi := _) (v := ?_) rfl (by kernel_rfl) (by kernel_rfl) (by kernel_rfl) (fun _ _ _ h => h) (Or.inl ⟨by rfl, ?_⟩) (by assumption) ?_
    rotate_left 1
    · intro w hSw
      (try dsimp only at hSw)
      (first | (go_simp; done) | (go_simp; with_reducible rfl))
    (try simp only [Act.put, List.getElem_toArray, List.getElem_cons_succ, List.getElem_cons_zero, List.setIfInBounds_toArray, List.set_cons_zero, List.set_cons_succ])
    refine wpAnyH_take (i := 6) (oi := _) (v := ?_) rfl (by kernel_rfl) (by kernel_rfl) (by kernel_rfl) (fun _ _ _ h => h) (Or.inl ⟨by rfl, ?_⟩) (by assumption) ?_
    rotate_left 1
    · intro w hSw
      (try dsimp only at hSw)
      (first | (go_simp; done) | (go_simp; with_reducible rfl))
    (try simp only [Act.put, List.getElem_toArray, List.getElem_cons_succ, List.getElem_cons_zero, List.setIfInBounds_toArray, List.set_cons_zero, List.set_cons_succ])
    refine wpAnyH_take (i := 7) (oi := _) (v := ?_) rfl (by kernel_rfl) (by kernel_rfl) (by kernel_rfl) (fun _ _ _ h => h) (Or.inl ⟨by rfl, ?_⟩) (by assumption) ?_
    rotate_left 1
    · intro w hSw
      (try dsimp only at hSw)
      (first | (go_simp; done) | (go_simp; with_reducible rfl))
    (try simp only [Act.put, List.getElem_toArray, List.getElem_cons_succ, List.getElem_cons_zero, List.setIfInBounds_toArray, List.set_cons_zero, List.set_cons_succ])
    refine wpAnyH_done (by kernel_rfl) ?_ _
    have hbw := hb02.trans (hb3.mono hb02.size)
    (try rw [hsz] at hc3)
    have HBW := Lib.hid hbw
    have HC := Lib.hid hc3
    have HLT := Lib.hid hb3.size
    clear hc3 hb3 hbw hb02 hbx2 hks hsz
    go_wp2_with fail
    refine (stream_12 _ n ks HN.out.1 HN.out.2 _ HC.out HKS.out).mono ?_
    rintro e w4 ⟨rfl, hb4⟩
    have HB4 := Lib.hid (HBW.out.trans (hb4.mono HBW.out.size))
    clear hb4
    go_wp2_with fail
    refine (awakeC_any _).mono ?_
    rintro e w5 ⟨rfl, hb5⟩
    have HB5 := Lib.hid (HB4.out.trans (hb5.mono HB4.out.size))
    clear hb5
    go_wp2
    go_ret
    exact ⟨rfl, HB5.out⟩
  · go_simp
    refine hK.out _ _ trivial (fun hHeld1 => ?_)
    clear hK K
    (try simp only [Act.put, List.getElem_toArray, List.getElem_cons_succ, List.getElem_cons_zero, List.setIfInBounds_toArray, List.set_cons_zero, List.set_cons_succ])
    refine wpAnyH_ready (rs := [0]) (by kernel_rfl) (by simp) ?_
    refine AllReadyH.cons (o := _) rfl (fun K hK => ?_) AllReadyH.nil
    go_simp
    go_at_call 13
    refine (newBox_any _).mono ?_
    rintro e w1 ⟨rfl, hb1, hbx1⟩
    refine hK.out _ _ trivial (fun hHeld0 => ?_)
    clear hK K
    (try simp only [Act.put, List.getElem_toArray, List.getElem_cons_succ, List.getElem_cons_zero, List.setIfInBounds_toArray, List.set_cons_zero, List.set_cons_succ])
    have hb02 : Below w.heap.size w w1 := ((Below.refl _ w).alloc (Nat.le_refl _) (.cells (zeros 16) 5)).drew.trans (hb1.mono (show w.heap.size ≤ (w.alloc (.cells (zeros 16) 5)).heap.size by simp))
    have hsz : (w.alloc (.cells (zeros 16) 5)).drew.heap.size = w.heap.size + 1 := by simp [World.drew]
    have hbx2 : IsBox w1 (w.heap.size + 1) := by rw [hsz] at hbx1; exact hbx1
    have hz1 := (zeros_bs w).dr
    have hz2 : BS w1 (w.alloc (.cells (zeros 16) 5)).drew.heap.size (some ⟨w.heap.size, 0, none⟩) 16 16 (List.replicate 16 0) := hz1.below hb1
    have hks : BS w1 w1.heap.size (some ⟨w.heap.size, 0, none⟩) 16 16 (List.replicate 16 0) := hz2.more hb1.size
    clear hz1 hz2
    refine wpAnyH_ready (rs := [2]) (by kernel_rfl) (by simp) ?_
    refine AllReadyH.cons (o := _) rfl (fun K hK => ?_) AllReadyH.nil
    go_simp
    go_at_call 12
    refine (HNEW.out _ _ _ hbx2 hks).mono ?_
    rintro e w3 ⟨rfl, hc3, hb3⟩
    refine hK.out _ _ trivial (fun hHeld2 => ?_)
    clear hK K
    (try simp only [Act.put, List.getElem_toArray, List.getElem_cons_succ, List.getElem_cons_zero, List.setIfInBounds_toArray, List.set_cons_zero, List.set_cons_succ])
    refine wpAnyH_take (i := 3) (oi := _) (v := ?_) rfl (by kernel_rfl) (by kernel_rfl) (by kernel_rfl) (fun _ _ _ h => h) (Or.inl ⟨by rfl, ?_⟩) (by assumption) ?_
    rotate_left 1
    · intro w hSw
      (try dsimp only at hSw)
      (first | (go_simp; done) | (go_simp; with_reducible rfl))
    (try simp only [Act.put, List.getElem_toArray, List.getElem_cons_succ, List.getElem_cons_zero, List.setIfInBounds_toArray, List.set_cons_zero, List.set_cons_succ])
    refine wpAnyH_take (i := 4) (oi := _) (v := ?_) rfl (by kernel_rfl) (by kernel_rfl) (by kernel_rfl) (fun _ _ _ h => h) (Or.inl ⟨by rfl, ?_⟩) (by assumption) ?_
    rotate_left 1
    · intro w hSw
      (try dsimp only at hSw)
      (first | (go_simp; done) | (go_simp; with_reducible rfl))
    (try simp only [Act.put, List.getElem_toArray, List.getElem_cons_succ, List.getElem_cons_zero, List.setIfInBounds_toArray, List.set_cons_zero, List.set_cons_succ])
    refine wpAnyH_take (i := 5) (oi := _) (v := ?_) rfl (by kernel_rfl) (by kernel_rfl) (by kernel_rfl) (fun _ _ _ h => h) (Or.inl ⟨by rfl, ?_⟩) (by assumption) ?_
    rotate_left 1
    · intro w hSw
      (try dsimp only at hSw)
      (first | (go_simp; done) | (go_simp; with_reducible rfl))
    (try simp only [Act.put, List.getElem_toArray, List.getElem_cons_succ, List.getElem_cons_zero, List.setIfInBounds_toArray, List.set_cons_zero, List.set_cons_succ])
    refine wpAnyH_take (i := 6) (oi := _) (v := ?_) rfl (by kernel_rfl) (by kernel_rfl) (by kernel_rfl) (fun _ _ _ h => h) (Or.inl ⟨by rfl, ?_⟩) (by assumption) ?_
    rotate_left 1
    · intro w hSw
      (try dsimp only at hSw)
      (first | (go_simp; done) | (go_simp; with_reducible rfl))
    (try simp only [Act.put, List.getElem_toArray, List.getElem_cons_succ, List.getElem_cons_zero, List.setIfInBounds_toArray, List.set_cons_zero, List.set_cons_succ])
    refine wpAnyH_take (i := 7) (oi := _) (v := ?_) rfl (by kernel_rfl) (by kernel_rfl) (by kernel_rfl) (fun _ _ _ h => h) (Or.inl ⟨by rfl, ?_⟩) (by assumption) ?_
    rotate_left 1
    · intro w hSw
      (try dsimp only at hSw)
      (first | (go_simp; done) | (go_simp; with_reducible rfl))
    (try simp only [Act.put, List.getElem_toArray, List.getElem_cons_succ, List.getElem_cons_zero, List.setIfInBounds_toArray, List.set_cons_zero, List.set_cons_succ])
    refine wpAnyH_done (by kernel_rfl) ?_ _
    have hbw := hb02.trans (hb3.mono hb02.size)
    (try rw [hsz] at hc3)
    have HBW := Lib.hid hbw
    have HC := Lib.hid hc3
    have HLT := Lib.hid hb3.size
    clear hc3 hb3 hbw hb02 hbx2 hks hsz
    go_wp2_with fail
    refine (stream_12 _ n ks HN.out.1 HN.out.2 _ HC.out HKS.out).mono ?_
    rintro e w4 ⟨rfl, hb4⟩
    have HB4 := Lib.hid (HBW.out.trans (hb4.mono HBW.out.size))
    clear hb4
    go_wp2_with fail
    refine (awakeC_any _).mono ?_
    rintro e w5 ⟨rfl, hb5⟩
    have HB5 := Lib.hid (HB4.out.trans (hb5.mono HB4.out.size))
    clear hb5
    go_wp2
    go_ret
    exact ⟨rfl, HB5.out⟩
set_option maxHeartbeats 1000000 in
set_option maxRecDepth 100000 in
theorem ctrMost_cut (k n : Nat) (h1 : 600 < k) (h2 : k ≤ 65536) (hn : k &&& 511 = n) (h : 1 ≤ n) (w : World) :
    Calls Try.prog 10 #[.int .i64 (k : Int)] w fun e w' => e = .returned (.bool true) ∧ Below w.heap.size w w' := by
  have hmk : ∀ W, (Instr.makeSlice 53 (.int .i64 16) (.int .i64 16)).run Try.prog W = .ok (.slice (some ⟨W.heap.size, 0, none⟩) 16 16) (W.alloc (.cells (zeros 16) 5)) := fun W => run_make_bytes (P := Try.prog) 53 5 Try.underlying53 info_u8 16 (by omega) W
  obtain ⟨ks, hkb, hnew⟩ := newz
  have HKS := Lib.hid hkb
  have HNEW := Lib.hid hnew
  clear hkb hnew
  have hlt : n ≤ 511 := by rw [← hn]; exact Nat.and_le_right
  have hand : bits .and .i64 (k : Int) 511 = (n : Int) := by rw [← hn]; exact andi (a := k) (b := 511) (by omega) (by omega)
  have HN : Hid (1 ≤ n ∧ n ≤ 65536) := Lib.hid ⟨h, by omega⟩
  clear hn
  have g1 : 600 < (k : Int) := by omega
  have g2 : (k : Int) ≤ 65536 := by omega
  have g3 : ¬ ((n : Int) < 1) := by omega
  have g4 : ¬ (65536 < (n : Int)) := by omega
  go_enter Try.func10, Try.ntmps10
  go_wp2_with fail
  refine wp_region_held_drew (S := fun _ => True) (by kernel_rfl) trivial (fun hHeld => ?_)
  refine wpAnyH_ready (rs := [0, 1]) (by kernel_rfl) (by simp) ?_
  refine AllReadyH.cons (o := _) rfl (fun K hK => ?_) (AllReadyH.cons (o := _) rfl (fun K hK => ?_) AllReadyH.nil)
  · go_simp
    go_at_call 13
    refine (newBox_any _).mono ?_
    rintro e w1 ⟨rfl, hb1, hbx1⟩
    refine hK.out _ _ trivial (fun hHeld0 => ?_)
    clear hK K
    (try simp only [Act.put, List.getElem_toArray, List.getElem_cons_succ, List.getElem_cons_zero, List.setIfInBounds_toArray, List.set_cons_zero, List.set_cons_succ])
    refine wpAnyH_ready (rs := [1]) (by kernel_rfl) (by simp) ?_
    refine AllReadyH.cons (o := _) rfl (fun K hK => ?_) AllReadyH.nil
    go_simp
    refine hK.out _ _ trivial (fun hHeld1 => ?_)
    clear hK K
    (try simp only [Act.put, List.getElem_toArray, List.getElem_cons_succ, List.getElem_cons_zero, List.setIfInBounds_toArray, List.set_cons_zero, List.set_cons_succ])
    have hb02 : Below w.heap.size w (w1.alloc (.cells (zeros 16) 5)) := (Below.refl _ w).drew.trans (hb1.trans (((Below.refl _ _).alloc (Nat.le_refl _) _).mono hb1.size))
    have hbx2 := IsBox.below hbx1 (blk_lt hbx1) ((Below.refl w1.heap.size w1).alloc (Nat.le_refl _) (.cells (zeros 16) 5))
    have hsz : (w1.alloc (.cells (zeros 16) 5)).heap.size = w1.heap.size + 1 := by simp
    have hks : BS (w1.alloc (.cells (zeros 16) 5)) (w1.alloc (.cells (zeros 16) 5)).heap.size (some ⟨w1.heap.size, 0, none⟩) 16 16 (List.replicate 16 0) := zeros_bs w1
    refine wpAnyH_ready (rs := [2]) (by kernel_rfl) (by simp) ?_
    refine AllReadyH.cons (o := _) rfl (fun K hK => ?_) AllReadyH.nil
    go_simp
    go_at_call 12
    refine (HNEW.out _ _ _ hbx2 hks).mono ?_
    rintro e w3 ⟨rfl, hc3, hb3⟩
    refine hK.out _ _ trivial (fun hHeld2 => ?_)
    clear hK K
    (try simp only [Act.put, List.getElem_toArray, List.getElem_cons_succ, List.getElem_cons_zero, List.setIfInBounds_toArray, List.set_cons_zero, List.set_cons_succ])
    refine wpAnyH_take (i := 3) (oi := _) (v := ?_) rfl (by kernel_rfl) (by kernel_rfl) (by kernel_rfl) (fun _ _ _ h => h) (Or.inl ⟨by rfl, ?_⟩) (by assumption) ?_
    rotate_left 1
    · intro w hSw
      (try dsimp only at hSw)
      (first | (go_simp; done) | (go_simp; with_reducible rfl))
    (try simp only [Act.put, List.getElem_toArray, List.getElem_cons_succ, List.getElem_cons_zero, List.setIfInBounds_toArray, List.set_cons_zero, List.set_cons_succ])
    refine wpAnyH_take (i := 4) (oi := _) (v := ?_) rfl (by kernel_rfl) (by kernel_rfl) (by kernel_rfl) (fun _ _ _ h => h) (Or.inl ⟨by rfl, ?_⟩) (by assumption) ?_
    rotate_left 1
    · intro w hSw
      (try dsimp only at hSw)
      (first | (go_simp; done) | (go_simp; with_reducible rfl))
    (try simp only [Act.put, List.getElem_toArray, List.getElem_cons_succ, List.getElem_cons_zero, List.setIfInBounds_toArray, List.set_cons_zero, List.set_cons_succ])
    refine wpAnyH_take (i := 5) (oi := _) (v := ?_) rfl (by kernel_rfl) (by kernel_rfl) (by kernel_rfl) (fun _ _ _ h => h) (Or.inl ⟨by rfl, ?_⟩) (by assumption) ?_
    rotate_left 1
    · intro w hSw
      (try dsimp only at hSw)
      (first | (go_simp; done) | (go_simp; with_reducible rfl))
    (try simp only [Act.put, List.getElem_toArray, List.getElem_cons_succ, List.getElem_cons_zero, List.setIfInBounds_toArray, List.set_cons_zero, List.set_cons_succ])
    refine wpAnyH_take (i := 6) (oi := _) (v := ?_) rfl (by kernel_rfl) (by kernel_rfl) (by kernel_rfl) (fun _ _ _ h => h) (Or.inl ⟨by rfl, ?_⟩) (by assumption) ?_
    rotate_left 1
    · intro w hSw
      (try dsimp only at hSw)
      (first | (go_simp; done) | (go_simp; with_reducible rfl))
    (try simp only [Act.put, List.getElem_toArray, List.getElem_cons_succ, List.getElem_cons_zero, List.setIfInBounds_toArray, List.set_cons_zero, List.set_cons_succ])
    refine wpAnyH_take (i := 7) (oi := _) (v := ?_) rfl (by kernel_rfl) (by kernel_rfl) (by kernel_rfl) (fun _ _ _ h => h) (Or.inl ⟨by rfl, ?_⟩) (by assumption) ?_
    rotate_left 1
    · intro w hSw
      (try dsimp only at hSw)
      (first | (go_simp; done) | (go_simp; with_reducible rfl))
    (try simp only [Act.put, List.getElem_toArray, List.getElem_cons_succ, List.getElem_cons_zero, List.setIfInBounds_toArray, List.set_cons_zero, List.set_cons_succ])
    refine wpAnyH_done (by kernel_rfl) ?_ _
    have hbw := hb02.trans (hb3.mono hb02.size)
    (try rw [hsz] at hc3)
    have HBW := Lib.hid hbw
    have HC := Lib.hid hc3
    have HLT := Lib.hid hb3.size
    clear hc3 hb3 hbw hb02 hbx2 hks hsz
    go_wp2_with fail
    refine (stream_12 _ n ks HN.out.1 HN.out.2 _ HC.out HKS.out).mono ?_
    rintro e w4 ⟨rfl, hb4⟩
    have HB4 := Lib.hid (HBW.out.trans (hb4.mono HBW.out.size))
    clear hb4
    go_wp2_with fail
    refine (awakeC_any _).mono ?_
    rintro e w5 ⟨rfl, hb5⟩
    have HB5 := Lib.hid (HB4.out.trans (hb5.mono HB4.out.size))
    clear hb5
    go_wp2
    go_ret
    exact ⟨rfl, HB5.out⟩
  · go_simp
    refine hK.out _ _ trivial (fun hHeld1 => ?_)
    clear hK K
    (try simp only [Act.put, List.getElem_toArray, List.getElem_cons_succ, List.getElem_cons_zero, List.setIfInBounds_toArray, List.set_cons_zero, List.set_cons_succ])
    refine wpAnyH_ready (rs := [0]) (by kernel_rfl) (by simp) ?_
    refine AllReadyH.cons (o := _) rfl (fun K hK => ?_) AllReadyH.nil
    go_simp
    go_at_call 13
    refine (newBox_any _).mono ?_
    rintro e w1 ⟨rfl, hb1, hbx1⟩
    refine hK.out _ _ trivial (fun hHeld0 => ?_)
    clear hK K
    (try simp only [Act.put, List.getElem_toArray, List.getElem_cons_succ, List.getElem_cons_zero, List.setIfInBounds_toArray, List.set_cons_zero, List.set_cons_succ])
    have hb02 : Below w.heap.size w w1 := ((Below.refl _ w).alloc (Nat.le_refl _) (.cells (zeros 16) 5)).drew.trans (hb1.mono (show w.heap.size ≤ (w.alloc (.cells (zeros 16) 5)).heap.size by simp))
    have hsz : (w.alloc (.cells (zeros 16) 5)).drew.heap.size = w.heap.size + 1 := by simp [World.drew]
    have hbx2 : IsBox w1 (w.heap.size + 1) := by rw [hsz] at hbx1; exact hbx1
    have hz1 := (zeros_bs w).dr
    have hz2 : BS w1 (w.alloc (.cells (zeros 16) 5)).drew.heap.size (some ⟨w.heap.size, 0, none⟩) 16 16 (List.replicate 16 0) := hz1.below hb1
    have hks : BS w1 w1.heap.size (some ⟨w.heap.size, 0, none⟩) 16 16 (List.replicate 16 0) := hz2.more hb1.size
    clear hz1 hz2
    refine wpAnyH_ready (rs := [2]) (by kernel_rfl) (by simp) ?_
    refine AllReadyH.cons (o := _) rfl (fun K hK => ?_) AllReadyH.nil
    go_simp
    go_at_call 12
    refine (HNEW.out _ _ _ hbx2 hks).mono ?_
    rintro e w3 ⟨rfl, hc3, hb3⟩
    refine hK.out _ _ trivial (fun hHeld2 => ?_)
    clear hK K
    (try simp only [Act.put, List.getElem_toArray, List.getElem_cons_succ, List.getElem_cons_zero, List.setIfInBounds_toArray, List.set_cons_zero, List.set_cons_succ])
    refine wpAnyH_take (i := 3) (oi := _) (v := ?_) rfl (by kernel_rfl) (by kernel_rfl) (by kernel_rfl) (fun _ _ _ h => h) (Or.inl ⟨by rfl, ?_⟩) (by assumption) ?_
    rotate_left 1
    · intro w hSw
      (try dsimp only at hSw)
      (first | (go_simp; done) | (go_simp; with_reducible rfl))
    (try simp only [Act.put, List.getElem_toArray, List.getElem_cons_succ, List.getElem_cons_zero, List.setIfInBounds_toArray, List.set_cons_zero, List.set_cons_succ])
    refine wpAnyH_take (i := 4) (oi := _) (v := ?_) rfl (by kernel_rfl) (by kernel_rfl) (by kernel_rfl) (fun _ _ _ h => h) (Or.inl ⟨by rfl, ?_⟩) (by assumption) ?_
    rotate_left 1
    · intro w hSw
      (try dsimp only at hSw)
      (first | (go_simp; done) | (go_simp; with_reducible rfl))
    (try simp only [Act.put, List.getElem_toArray, List.getElem_cons_succ, List.getElem_cons_zero, List.setIfInBounds_toArray, List.set_cons_zero, List.set_cons_succ])
    refine wpAnyH_take (i := 5) (oi := _) (v := ?_) rfl (by kernel_rfl) (by kernel_rfl) (by kernel_rfl) (fun _ _ _ h => h) (Or.inl ⟨by rfl, ?_⟩) (by assumption) ?_
    rotate_left 1
    · intro w hSw
      (try dsimp only at hSw)
      (first | (go_simp; done) | (go_simp; with_reducible rfl))
    (try simp only [Act.put, List.getElem_toArray, List.getElem_cons_succ, List.getElem_cons_zero, List.setIfInBounds_toArray, List.set_cons_zero, List.set_cons_succ])
    refine wpAnyH_take (i := 6) (oi := _) (v := ?_) rfl (by kernel_rfl) (by kernel_rfl) (by kernel_rfl) (fun _ _ _ h => h) (Or.inl ⟨by rfl, ?_⟩) (by assumption) ?_
    rotate_left 1
    · intro w hSw
      (try dsimp only at hSw)
      (first | (go_simp; done) | (go_simp; with_reducible rfl))
    (try simp only [Act.put, List.getElem_toArray, List.getElem_cons_succ, List.getElem_cons_zero, List.setIfInBounds_toArray, List.set_cons_zero, List.set_cons_succ])
    refine wpAnyH_take (i := 7) (oi := _) (v := ?_) rfl (by kernel_rfl) (by kernel_rfl) (by kernel_rfl) (fun _ _ _ h => h) (Or.inl ⟨by rfl, ?_⟩) (by assumption) ?_
    rotate_left 1
    · intro w hSw
      (try dsimp only at hSw)
      (first | (go_simp; done) | (go_simp; with_reducible rfl))
    (try simp only [Act.put, List.getElem_toArray, List.getElem_cons_succ, List.getElem_cons_zero, List.setIfInBounds_toArray, List.set_cons_zero, List.set_cons_succ])
    refine wpAnyH_done (by kernel_rfl) ?_ _
    have hbw := hb02.trans (hb3.mono hb02.size)
    (try rw [hsz] at hc3)
    have HBW := Lib.hid hbw
    have HC := Lib.hid hc3
    have HLT := Lib.hid hb3.size
    clear hc3 hb3 hbw hb02 hbx2 hks hsz
    go_wp2_with fail
    refine (stream_12 _ n ks HN.out.1 HN.out.2 _ HC.out HKS.out).mono ?_
    rintro e w4 ⟨rfl, hb4⟩
    have HB4 := Lib.hid (HBW.out.trans (hb4.mono HBW.out.size))
    clear hb4
    go_wp2_with fail
    refine (awakeC_any _).mono ?_
    rintro e w5 ⟨rfl, hb5⟩
    have HB5 := Lib.hid (HB4.out.trans (hb5.mono HB4.out.size))
    clear hb5
    go_wp2
    go_ret
    exact ⟨rfl, HB5.out⟩
set_option maxHeartbeats 1000000 in
set_option maxRecDepth 100000 in
theorem ctrMost_cut0 (k : Nat) (h1 : 600 < k) (h2 : k ≤ 65536) (hn : k &&& 511 = 0) (w : World) :
    Calls Try.prog 10 #[.int .i64 (k : Int)] w fun e w' => e = .returned (.bool true) ∧ Below w.heap.size w w' := by
  have hmk : ∀ W, (Instr.makeSlice 53 (.int .i64 16) (.int .i64 16)).run Try.prog W = .ok (.slice (some ⟨W.heap.size, 0, none⟩) 16 16) (W.alloc (.cells (zeros 16) 5)) := fun W => run_make_bytes (P := Try.prog) 53 5 Try.underlying53 info_u8 16 (by omega) W
  obtain ⟨ks, hkb, hnew⟩ := newz
  have HKS := Lib.hid hkb
  have HNEW := Lib.hid hnew
  clear hkb hnew
  have hand : bits .and .i64 (k : Int) 511 = 0 := by
    have := andi (a := k) (b := 511) (by omega) (by omega)
    rw [hn] at this
    exact this
  have HNO : Hid ((0 : Int) < 1 ∨ 65536 < (0 : Int)) := Lib.hid (.inl (by omega))
  clear hn
  have g1 : 600 < (k : Int) := by omega
  have g2 : (k : Int) ≤ 65536 := by omega
  go_enter Try.func10, Try.ntmps10
  go_wp2_with fail
  refine wp_region_held_drew (S := fun _ => True) (by kernel_rfl) trivial (fun hHeld => ?_)
  refine wpAnyH_ready (rs := [0, 1]) (by kernel_rfl) (by simp) ?_
  refine AllReadyH.cons (o := _) rfl (fun K hK => ?_) (AllReadyH.cons (o := _) rfl (fun K hK => ?_) AllReadyH.nil)
  · go_simp
    go_at_call 13
    refine (newBox_any _).mono ?_
    rintro e w1 ⟨rfl, hb1, hbx1⟩
    refine hK.out _ _ trivial (fun hHeld0 => ?_)
    clear hK K
    (try simp only [Act.put, List.getElem_toArray, List.getElem_cons_succ, List.getElem_cons_zero, List.setIfInBounds_toArray, List.set_cons_zero, List.set_cons_succ])
    refine wpAnyH_ready (rs := [1]) (by kernel_rfl) (by simp) ?_
    refine AllReadyH.cons (o := _) rfl (fun K hK => ?_) AllReadyH.nil
    go_simp
    refine hK.out _ _ trivial (fun hHeld1 => ?_)
    clear hK K
    (try simp only [Act.put, List.getElem_toArray, List.getElem_cons_succ, List.getElem_cons_zero, List.setIfInBounds_toArray, List.set_cons_zero, List.set_cons_succ])
    have hb02 : Below w.heap.size w (w1.alloc (.cells (zeros 16) 5)) := (Below.refl _ w).drew.trans (hb1.trans (((Below.refl _ _).alloc (Nat.le_refl _) _).mono hb1.size))
    have hbx2 := IsBox.below hbx1 (blk_lt hbx1) ((Below.refl w1.heap.size w1).alloc (Nat.le_refl _) (.cells (zeros 16) 5))
    have hsz : (w1.alloc (.cells (zeros 16) 5)).heap.size = w1.heap.size + 1 := by simp
    have hks : BS (w1.alloc (.cells (zeros 16) 5)) (w1.alloc (.cells (zeros 16) 5)).heap.size (some ⟨w1.heap.size, 0, none⟩) 16 16 (List.replicate 16 0) := zeros_bs w1
    refine wpAnyH_ready (rs := [2]) (by kernel_rfl) (by simp) ?_
    refine AllReadyH.cons (o := _) rfl (fun K hK => ?_) AllReadyH.nil
    go_simp
    go_at_call 12
    refine (HNEW.out _ _ _ hbx2 hks).mono ?_
    rintro e w3 ⟨rfl, hc3, hb3⟩
    refine hK.out _ _ trivial (fun hHeld2 => ?_)
    clear hK K
    (try simp only [Act.put, List.getElem_toArray, List.getElem_cons_succ, List.getElem_cons_zero, List.setIfInBounds_toArray, List.set_cons_zero, List.set_cons_succ])
    refine wpAnyH_take (i := 3) (oi := _) (v := ?_) rfl (by kernel_rfl) (by kernel_rfl) (by kernel_rfl) (fun _ _ _ h => h) (Or.inl ⟨by rfl, ?_⟩) (by assumption) ?_
    rotate_left 1
    · intro w hSw
      (try dsimp only at hSw)
      (first | (go_simp; done) | (go_simp; with_reducible rfl))
    (try simp only [Act.put, List.getElem_toArray, List.getElem_cons_succ, List.getElem_cons_zero, List.setIfInBounds_toArray, List.set_cons_zero, List.set_cons_succ])
    refine wpAnyH_take (i := 4) (oi := _) (v := ?_) rfl (by kernel_rfl) (by kernel_rfl) (by kernel_rfl) (fun _ _ _ h => h) (Or.inl ⟨by rfl, ?_⟩) (by assumption) ?_
    rotate_left 1
    · intro w hSw
      (try dsimp only at hSw)
      (first | (go_simp; done) | (go_simp; with_reducible rfl))
    (try simp only [Act.put, List.getElem_toArray, List.getElem_cons_succ, List.getElem_cons_zero, List.setIfInBounds_toArray, List.set_cons_zero, List.set_cons_succ])
    refine wpAnyH_take (i := 5) (oi := _) (v := ?_) rfl (by kernel_rfl) (by kernel_rfl) (by kernel_rfl) (fun _ _ _ h => h) (Or.inl ⟨by rfl, ?_⟩) (by assumption) ?_
    rotate_left 1
    · intro w hSw
      (try dsimp only at hSw)
      (first | (go_simp; done) | (go_simp; with_reducible rfl))
    (try simp only [Act.put, List.getElem_toArray, List.getElem_cons_succ, List.getElem_cons_zero, List.setIfInBounds_toArray, List.set_cons_zero, List.set_cons_succ])
    refine wpAnyH_take (i := 6) (oi := _) (v := ?_) rfl (by kernel_rfl) (by kernel_rfl) (by kernel_rfl) (fun _ _ _ h => h) (Or.inl ⟨by rfl, ?_⟩) (by assumption) ?_
    rotate_left 1
    · intro w hSw
      (try dsimp only at hSw)
      (first | (go_simp; done) | (go_simp; with_reducible rfl))
    (try simp only [Act.put, List.getElem_toArray, List.getElem_cons_succ, List.getElem_cons_zero, List.setIfInBounds_toArray, List.set_cons_zero, List.set_cons_succ])
    refine wpAnyH_take (i := 7) (oi := _) (v := ?_) rfl (by kernel_rfl) (by kernel_rfl) (by kernel_rfl) (fun _ _ _ h => h) (Or.inl ⟨by rfl, ?_⟩) (by assumption) ?_
    rotate_left 1
    · intro w hSw
      (try dsimp only at hSw)
      (first | (go_simp; done) | (go_simp; with_reducible rfl))
    (try simp only [Act.put, List.getElem_toArray, List.getElem_cons_succ, List.getElem_cons_zero, List.setIfInBounds_toArray, List.set_cons_zero, List.set_cons_succ])
    refine wpAnyH_done (by kernel_rfl) ?_ _
    have hbw := hb02.trans (hb3.mono hb02.size)
    (try rw [hsz] at hc3)
    have HBW := Lib.hid hbw
    have HC := Lib.hid hc3
    have HLT := Lib.hid hb3.size
    clear hc3 hb3 hbw hb02 hbx2 hks hsz
    go_wp2_with fail
    refine (stream_no _ 1 2 _ HNO.out _).mono ?_
    rintro e w4 ⟨rfl, rfl⟩
    clear HNO
    go_wp2_with fail
    refine (awakeC_any _).mono ?_
    rintro e w5 ⟨rfl, hb5⟩
    have HB5 := Lib.hid (HBW.out.trans (hb5.mono HBW.out.size))
    clear hb5
    go_wp2
    go_ret
    exact ⟨rfl, HB5.out⟩
  · go_simp
    refine hK.out _ _ trivial (fun hHeld1 => ?_)
    clear hK K
    (try simp only [Act.put, List.getElem_toArray, List.getElem_cons_succ, List.getElem_cons_zero, List.setIfInBounds_toArray, List.set_cons_zero, List.set_cons_succ])
    refine wpAnyH_ready (rs := [0]) (by kernel_rfl) (by simp) ?_
    refine AllReadyH.cons (o := _) rfl (fun K hK => ?_) AllReadyH.nil
    go_simp
    go_at_call 13
    refine (newBox_any _).mono ?_
    rintro e w1 ⟨rfl, hb1, hbx1⟩
    refine hK.out _ _ trivial (fun hHeld0 => ?_)
    clear hK K
    (try simp only [Act.put, List.getElem_toArray, List.getElem_cons_succ, List.getElem_cons_zero, List.setIfInBounds_toArray, List.set_cons_zero, List.set_cons_succ])
    have hb02 : Below w.heap.size w w1 := ((Below.refl _ w).alloc (Nat.le_refl _) (.cells (zeros 16) 5)).drew.trans (hb1.mono (show w.heap.size ≤ (w.alloc (.cells (zeros 16) 5)).heap.size by simp))
    have hsz : (w.alloc (.cells (zeros 16) 5)).drew.heap.size = w.heap.size + 1 := by simp [World.drew]
    have hbx2 : IsBox w1 (w.heap.size + 1) := by rw [hsz] at hbx1; exact hbx1
    have hz1 := (zeros_bs w).dr
    have hz2 : BS w1 (w.alloc (.cells (zeros 16) 5)).drew.heap.size (some ⟨w.heap.size, 0, none⟩) 16 16 (List.replicate 16 0) := hz1.below hb1
    have hks : BS w1 w1.heap.size (some ⟨w.heap.size, 0, none⟩) 16 16 (List.replicate 16 0) := hz2.more hb1.size
    clear hz1 hz2
    refine wpAnyH_ready (rs := [2]) (by kernel_rfl) (by simp) ?_
    refine AllReadyH.cons (o := _) rfl (fun K hK => ?_) AllReadyH.nil
    go_simp
    go_at_call 12
    refine (HNEW.out _ _ _ hbx2 hks).mono ?_
    rintro e w3 ⟨rfl, hc3, hb3⟩
    refine hK.out _ _ trivial (fun hHeld2 => ?_)
    clear hK K
    (try simp only [Act.put, List.getElem_toArray, List.getElem_cons_succ, List.getElem_cons_zero, List.setIfInBounds_toArray, List.set_cons_zero, List.set_cons_succ])
    refine wpAnyH_take (i := 3) (oi := _) (v := ?_) rfl (by kernel_rfl) (by kernel_rfl) (by kernel_rfl) (fun _ _ _ h => h) (Or.inl ⟨by rfl, ?_⟩) (by assumption) ?_
    rotate_left 1
    · intro w hSw
      (try dsimp only at hSw)
      (first | (go_simp; done) | (go_simp; with_reducible rfl))
    (try simp only [Act.put, List.getElem_toArray, List.getElem_cons_succ, List.getElem_cons_zero, List.setIfInBounds_toArray, List.set_cons_zero, List.set_cons_succ])
    refine wpAnyH_take (i := 4) (oi := _) (v := ?_) rfl (by kernel_rfl) (by kernel_rfl) (by kernel_rfl) (fun _ _ _ h => h) (Or.inl ⟨by rfl, ?_⟩) (by assumption) ?_
    rotate_left 1
    · intro w hSw
      (try dsimp only at hSw)
      (first | (go_simp; done) | (go_simp; with_reducible rfl))
    (try simp only [Act.put, List.getElem_toArray, List.getElem_cons_succ, List.getElem_cons_zero, List.setIfInBounds_toArray, List.set_cons_zero, List.set_cons_succ])
    refine wpAnyH_take (i := 5) (oi := _) (v := ?_) rfl (by kernel_rfl) (by kernel_rfl) (by kernel_rfl) (fun _ _ _ h => h) (Or.inl ⟨by rfl, ?_⟩) (by assumption) ?_
    rotate_left 1
    · intro w hSw
      (try dsimp only at hSw)
      (first | (go_simp; done) | (go_simp; with_reducible rfl))
    (try simp only [Act.put, List.getElem_toArray, List.getElem_cons_succ, List.getElem_cons_zero, List.setIfInBounds_toArray, List.set_cons_zero, List.set_cons_succ])
    refine wpAnyH_take (i := 6) (oi := _) (v := ?_) rfl (by kernel_rfl) (by kernel_rfl) (by kernel_rfl) (fun _ _ _ h => h) (Or.inl ⟨by rfl, ?_⟩) (by assumption) ?_
    rotate_left 1
    · intro w hSw
      (try dsimp only at hSw)
      (first | (go_simp; done) | (go_simp; with_reducible rfl))
    (try simp only [Act.put, List.getElem_toArray, List.getElem_cons_succ, List.getElem_cons_zero, List.setIfInBounds_toArray, List.set_cons_zero, List.set_cons_succ])
    refine wpAnyH_take (i := 7) (oi := _) (v := ?_) rfl (by kernel_rfl) (by kernel_rfl) (by kernel_rfl) (fun _ _ _ h => h) (Or.inl ⟨by rfl, ?_⟩) (by assumption) ?_
    rotate_left 1
    · intro w hSw
      (try dsimp only at hSw)
      (first | (go_simp; done) | (go_simp; with_reducible rfl))
    (try simp only [Act.put, List.getElem_toArray, List.getElem_cons_succ, List.getElem_cons_zero, List.setIfInBounds_toArray, List.set_cons_zero, List.set_cons_succ])
    refine wpAnyH_done (by kernel_rfl) ?_ _
    have hbw := hb02.trans (hb3.mono hb02.size)
    (try rw [hsz] at hc3)
    have HBW := Lib.hid hbw
    have HC := Lib.hid hc3
    have HLT := Lib.hid hb3.size
    clear hc3 hb3 hbw hb02 hbx2 hks hsz
    go_wp2_with fail
    refine (stream_no _ 1 2 _ HNO.out _).mono ?_
    rintro e w4 ⟨rfl, rfl⟩
    clear HNO
    go_wp2_with fail
    refine (awakeC_any _).mono ?_
    rintro e w5 ⟨rfl, hb5⟩
    have HB5 := Lib.hid (HBW.out.trans (hb5.mono HBW.out.size))
    clear hb5
    go_wp2
    go_ret
    exact ⟨rfl, HB5.out⟩
theorem ctrMost_any (z : Int) (w : World) :
    Calls Try.prog 10 #[.int .i64 z] w fun e w' => e = .returned (.bool true) ∧ Below w.heap.size w w' := by
  by_cases c1 : z < 1
  · exact ctrMost_lo z c1 w
  by_cases c2 : 65536 < z
  · exact ctrMost_hi z c2 w
  obtain ⟨n, rfl⟩ : ∃ n : Nat, z = (n : Int) := ⟨z.toNat, by omega⟩
  by_cases c3 : n ≤ 600
  · exact ctrMost_some n (by omega) c3 w
  by_cases c4 : n &&& 511 = 0
  · exact ctrMost_cut0 n (by omega) (by omega) c4 w
  · exact ctrMost_cut n _ (by omega) (by omega) rfl (by omega) w
end Go.Proofs.Ytimonlkelgpekaa
