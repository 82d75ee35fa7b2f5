/-
  AesEncrypts' walk.
-/
import Derived.Test.YtplapepgedagoaaAesW
import Derived.Test.YtplapepgedagoaaRefH
namespace Go.Proofs.Ytplapepgedagoaa
open Go.RowKit Go
set_option linter.unusedVariables false
set_option linter.unusedSimpArgs false
attribute [local irreducible] Gf.inv Gf.tm Gf.pw Gf.spread Gf.sub Gf.boxAt Gf.bk Gf.rm Gf.bit
set_option maxHeartbeats 2000000 in
set_option maxRecDepth 100000 in
theorem aesEncrypts_any (la lb lp : List Nat) (ha : la.length = 16) (hb : lb.length = 16) (hp : lp.length = 16) (ha2 : ∀ i, la.getD i 0 < 256) (hb2 : ∀ i, lb.getD i 0 < 256) (hp2 : ∀ i, lp.getD i 0 < 256) (lg : Bool) (w : World) :
    Calls Try.prog 3 #[.agg (rowV (bF la) 16), .agg (rowV (bF lb) 16), .bool lg, .agg (rowV (bF lp) 16)] w fun e w' => e = .returned (.bool true) ∧ Below w.heap.size w w' := by
  obtain ⟨n, N, ks, key, hkey, hnew, hkb, hN, -, -, hnN, hks, -⟩ := made la lb ha hb ha2 hb2 lg
  obtain ⟨ca, hca, hla⟩ := list_of (bF la) 16
  obtain ⟨cb, hcb, hlb⟩ := list_of (bF lb) 16
  obtain ⟨cp, hcp, hlp⟩ := list_of (bF lp) 16
  have hok : Aes.Ok lp := ⟨hp, hp2⟩
  have hia : (Try.prog.info? 22).map (·.size) = some ca.toArray.size := by rw [List.size_toArray]; exact info_list hla
  have hib : (Try.prog.info? 22).map (·.size) = some cb.toArray.size := by rw [List.size_toArray]; exact info_list hlb
  have hip := info_list hlp
  have hu := Try.underlying22
  have e1 : ∀ o, (w.alloc o).heap.size = w.heap.size + 1 := fun o => by simp
  have e2 : ∀ o o', ((w.alloc o).alloc o').heap.size = w.heap.size + 1 + 1 := fun o o' => by simp
  have hra := blk_alloc (blk_alloc (heap_alloc_new w (.cells (rowV (bF la) 16) 22)) (.cells (rowV (bF lb) 16) 22)) (.cells (rowV (bF lp) 16) 22)
  have hrb := heap_alloc_new (w.alloc (.cells (rowV (bF la) 16) 22)) (.cells (rowV (bF lb) 16) 22)
  rw [e1] at hrb
  have hrb := blk_alloc hrb (.cells (rowV (bF lp) 16) 22)
  have hrp := heap_alloc_new ((w.alloc (.cells (rowV (bF la) 16) 22)).alloc (.cells (rowV (bF lb) 16) 22)) (.cells (rowV (bF lp) 16) 22)
  rw [e2] at hrp
  have hb0 : Below w.heap.size w (((w.alloc (.cells (rowV (bF la) 16) 22)).alloc (.cells (rowV (bF lb) 16) 22)).alloc (.cells (rowV (bF lp) 16) 22)) :=
    (((Below.refl _ _).alloc (Nat.le_refl _) _).alloc (by rw [e1]; omega) _).alloc (by rw [e2]; omega) _
  have HKEY := Lib.hid hkey
  have HNEW := Lib.hid hnew
  unfold KeyGives at HKEY
  unfold NewGives at HNEW
  rw [← hca, ← hcb] at HKEY
  rw [← hca, ← hcb, ← hcp]
  rw [← hca, ← hcb, ← hcp] at hra hrb hrp hb0
  have HCP := Lib.hid hcp
  have HRA := Lib.hid hra
  have HRB := Lib.hid hrb
  have HRP := Lib.hid hrp
  have HB0 := Lib.hid hb0
  have HIA := Lib.hid hia
  have HIB := Lib.hid hib
  have HREF := Lib.hid (fun b o c W h => ref_made hnN hks b o c W h)
  have HKB := Lib.hid hkb
  have HNN := Lib.hid hN
  have HOK := Lib.hid hok
  have hq := fun W => equal_row 22 16 Try.underlying22 (Aes.enc Gf.sub ks N lp) (Aes.enc Gf.sub ks N lp) (Aes.ok_enc (fun c h => Gf.sub_lt h) hkb hok).len (Aes.ok_enc (fun c h => Gf.sub_lt h) hkb hok).len W
  rw [decide_eq_true rfl] at hq
  have HE1 : Hid (∀ g W, Cip W g N ks → Calls Try.prog 14 #[.pointer (some ⟨g, 0, none⟩), .agg cp.toArray] W fun e w' => e = .returned (.agg (rowV (bF (Aes.enc Gf.sub ks N lp)) 16)) ∧ Below W.heap.size W w') := Lib.hid (fun g W h => by rw [HCP.out]; exact encrypt_any g N ks lp W h HOK.out)
  have HE2 : Hid (∀ g bw cap W, RefK W g N ks bw cap → Calls Try.prog 16 #[.pointer (some ⟨g, 0, none⟩), .agg cp.toArray] W fun e w' => e = .returned (.agg (rowV (bF (Aes.enc Gf.sub ks N lp)) 16)) ∧ Below W.heap.size W w') := Lib.hid (fun g bw cap W h => by rw [HCP.out]; exact refEncrypt_any g N bw cap ks lp W h HOK.out HKB.out HNN.out)
  obtain ⟨xe, hxe⟩ : ∃ z, z = rowV (bF (Aes.enc Gf.sub ks N lp)) 16 := ⟨_, rfl⟩
  rw [← hxe] at hq HE1 HE2
  clear e1 e2 hla hlb hlp hkey hnew hca hcb hcp hra hrb hrp hb0 hia hib hks hnN hkb hN ha hb hp ha2 hb2 hp2 hok hxe
  go_enter Try.func3, Try.ntmps3
  go_wp2_with (first
    | (with_reducible refine wpList_load_row rfl 22 (.tmp 4) rfl _ rfl 22 _ _ _ HRA.out Try.underlying22 rfl HIA.out ?_)
    | (with_reducible refine wpList_load_row rfl 22 (.tmp 5) rfl _ rfl 22 _ _ _ HRB.out Try.underlying22 rfl HIB.out ?_))
  refine (HKEY.out _).mono ?_
  rintro e w1 ⟨b, o, c, rfl, hb1, hs1⟩
  have hrp1 : Row w1 (w.heap.size + 1 + 1) 22 (bF lp) 16 := by unfold Row; rw [← HCP.out]; exact (hb1.block _ (blk_lt HRP.out)).trans HRP.out
  have HRP1 := Lib.hid hrp1
  have HB1 := Lib.hid (HB0.out.trans (hb1.mono HB0.out.size))
  have HS1 := Lib.hid hs1
  clear hb1 hs1 HRA HRB hrp1 HRP
  go_wp2_with fail
  refine (newBox_any _).mono ?_
  rintro e w2 ⟨rfl, hb2, hbx2⟩
  have HRP2 := Lib.hid (Row.below HRP1.out hb2 HRP1.out.lt)
  have HS2 := Lib.hid ((HS1.out.below hb2).more hb2.size)
  have HB2 := Lib.hid (HB1.out.trans (hb2.mono HB1.out.size))
  have HBX := Lib.hid hbx2
  clear hb2 hbx2 HRP1
  go_wp2_with fail
  refine (HNEW.out _ _ _ _ _ HBX.out HS2.out).mono ?_
  rintro e w3 ⟨rfl, hc3, hb3, -⟩
  have hrp3 : Row w3 (w.heap.size + 1 + 1) 22 (bF lp) 16 := Row.below HRP2.out hb3 HRP2.out.lt
  have HS3 := Lib.hid ((HS2.out.below hb3).more hb3.size)
  have HB3 := Lib.hid (HB2.out.trans (hb3.mono HB2.out.size))
  have HC3 := Lib.hid hc3
  clear hb3 hc3 HS1 HS2 HBX HRP2
  generalize w2.heap.size = g0 at *
  go_wp2_with fail
  refine wp_region_held_drew (S := After w3) (by kernel_rfl) (After.drew w3) (fun hHeld => ?_)
  refine wpAnyH_take (i := 0) (oi := _) (v := ?_) rfl (by kernel_rfl) (by kernel_rfl) (by kernel_rfl) (fun _ _ _ h => h) (Or.inl ⟨by rfl, ?_⟩) (by assumption) ?_
  rotate_left 1
  · intro w hSw
    (try dsimp only at hSw)
    (first | (go_simp; done) | (go_simp; with_reducible rfl))
  (try simp only [Act.put, List.getElem_toArray, List.getElem_cons_succ, List.getElem_cons_zero, List.setIfInBounds_toArray, List.set_cons_zero, List.set_cons_succ])
  refine wpAnyH_take (i := 1) (oi := _) (v := ?_) rfl (by kernel_rfl) (by kernel_rfl) (by kernel_rfl) (fun _ _ _ h => h) (Or.inl ⟨by rfl, ?_⟩) (by assumption) ?_
  rotate_left 1
  · intro w hSw
    (try dsimp only at hSw)
    (first | (go_simp; done) | (go_simp; with_reducible rfl))
  (try simp only [Act.put, List.getElem_toArray, List.getElem_cons_succ, List.getElem_cons_zero, List.setIfInBounds_toArray, List.set_cons_zero, List.set_cons_succ])
  refine wpAnyH_take (i := 2) (oi := _) (v := ?_) rfl (by kernel_rfl) (by kernel_rfl) (by kernel_rfl) (fun _ _ _ h => h) (Or.inl ⟨by rfl, ?_⟩) (by assumption) ?_
  rotate_left 1
  · intro w hSw
    (try dsimp only at hSw)
    (first | (go_simp; done) | (go_simp; with_reducible rfl))
  (try simp only [Act.put, List.getElem_toArray, List.getElem_cons_succ, List.getElem_cons_zero, List.setIfInBounds_toArray, List.set_cons_zero, List.set_cons_succ])
  refine wpAnyH_take (i := 3) (oi := _) (v := ?_) rfl (by kernel_rfl) (by kernel_rfl) (by kernel_rfl) (fun _ _ _ h => h) (Or.inl ⟨by rfl, ?_⟩) (by assumption) ?_
  rotate_left 1
  · intro w hSw
    (try dsimp only at hSw)
    (first | (go_simp; done) | (go_simp; with_reducible rfl))
  (try simp only [Act.put, List.getElem_toArray, List.getElem_cons_succ, List.getElem_cons_zero, List.setIfInBounds_toArray, List.set_cons_zero, List.set_cons_succ])
  refine' wpAnyH_take (i := 4) (oi := _) (v := _) rfl (by kernel_rfl) (by kernel_rfl) (by kernel_rfl) (fun _ _ _ h => h) (yieldsIf_load_mid (by rfl) _ _ rfl _ _ rfl cp _ (fun w h => row_range (After.row h hrp3) HCP.out) hu rfl hip) (by assumption) ?_
  (try simp only [Act.put, List.getElem_toArray, List.getElem_cons_succ, List.getElem_cons_zero, List.setIfInBounds_toArray, List.set_cons_zero, List.set_cons_succ])
  refine wpAnyH_take (i := 6) (oi := _) (v := ?_) rfl (by kernel_rfl) (by kernel_rfl) (by kernel_rfl) (fun _ _ _ h => h) (Or.inl ⟨by rfl, ?_⟩) (by assumption) ?_
  rotate_left 1
  · intro w hSw
    (try dsimp only at hSw)
    (first | (go_simp; done) | (go_simp; with_reducible rfl))
  (try simp only [Act.put, List.getElem_toArray, List.getElem_cons_succ, List.getElem_cons_zero, List.setIfInBounds_toArray, List.set_cons_zero, List.set_cons_succ])
  refine' wpAnyH_take (i := 8) (oi := _) (v := _) rfl (by kernel_rfl) (by kernel_rfl) (by kernel_rfl) (fun _ _ _ h => h) (yieldsIf_load_mid (by rfl) _ _ rfl _ _ rfl cp _ (fun w h => row_range (After.row h hrp3) HCP.out) hu rfl hip) (by assumption) ?_
  (try simp only [Act.put, List.getElem_toArray, List.getElem_cons_succ, List.getElem_cons_zero, List.setIfInBounds_toArray, List.set_cons_zero, List.set_cons_succ])
  refine wpAnyH_ready (rs := [5]) (by kernel_rfl) (by simp) ?_
  refine AllReadyH.cons (o := _) rfl (fun K hK => ?_) AllReadyH.nil
  go_simp
  go_at_call 14
  refine (HE1.out _ _ (HC3.out.next hHeld)).mono ?_
  rintro e w4 ⟨rfl, hb4⟩
  refine hK.out _ _ (After.next hHeld hb4) (fun hHeld5 => ?_)
  clear hK K
  (try simp only [Act.put, List.getElem_toArray, List.getElem_cons_succ, List.getElem_cons_zero, List.setIfInBounds_toArray, List.set_cons_zero, List.set_cons_succ])
  refine wpAnyH_ready (rs := [7]) (by kernel_rfl) (by simp) ?_
  refine AllReadyH.cons (o := _) rfl (fun K hK => ?_) AllReadyH.nil
  go_simp
  go_at_call 15
  refine (HREF.out _ _ _ _ ((HS3.out.below hHeld5).more hHeld5.size)).mono ?_
  rintro e w5 ⟨v, rfl, hr⟩
  obtain ⟨bw, cap, hk⟩ := hr.refK
  have HB5 := Lib.hid hr.below
  have HRK := Lib.hid hk
  clear hr hk
  refine hK.out _ _ (After.next hHeld5 HB5.out) (fun hHeld7 => ?_)
  clear hK K
  (try simp only [Act.put, List.getElem_toArray, List.getElem_cons_succ, List.getElem_cons_zero, List.setIfInBounds_toArray, List.set_cons_zero, List.set_cons_succ])
  refine wpAnyH_ready (rs := [9]) (by kernel_rfl) (by simp) ?_
  refine AllReadyH.cons (o := _) rfl (fun K hK => ?_) AllReadyH.nil
  go_simp
  go_at_call 16
  refine (HE2.out _ _ _ _ HRK.out).mono ?_
  rintro e w6 ⟨rfl, hb6⟩
  refine hK.out _ _ (After.next hHeld7 hb6) (fun hHeld9 => ?_)
  clear hK K
  (try simp only [Act.put, List.getElem_toArray, List.getElem_cons_succ, List.getElem_cons_zero, List.setIfInBounds_toArray, List.set_cons_zero, List.set_cons_succ])
  refine wpAnyH_take (i := 10) (oi := _) (v := ?_) rfl (by kernel_rfl) (by kernel_rfl) (by kernel_rfl) (fun _ _ _ h => h) (Or.inl ⟨by rfl, ?_⟩) (by assumption) ?_
  rotate_left 1
  · intro w hSw
    (try dsimp only at hSw)
    (first | (go_simp; done) | (go_simp; with_reducible rfl))
  (try simp only [Act.put, List.getElem_toArray, List.getElem_cons_succ, List.getElem_cons_zero, List.setIfInBounds_toArray, List.set_cons_zero, List.set_cons_succ])
  refine wpAnyH_take (i := 11) (oi := _) (v := ?_) rfl (by kernel_rfl) (by kernel_rfl) (by kernel_rfl) (fun _ _ _ h => h) (Or.inl ⟨by rfl, ?_⟩) (by assumption) ?_
  rotate_left 1
  · intro w hSw
    (try dsimp only at hSw)
    (first | (go_simp; done) | (go_simp; with_reducible rfl))
  (try simp only [Act.put, List.getElem_toArray, List.getElem_cons_succ, List.getElem_cons_zero, List.setIfInBounds_toArray, List.set_cons_zero, List.set_cons_succ])
  refine wpAnyH_take (i := 12) (oi := _) (v := ?_) rfl (by kernel_rfl) (by kernel_rfl) (by kernel_rfl) (fun _ _ _ h => h) (Or.inl ⟨by rfl, ?_⟩) (by assumption) ?_
  rotate_left 1
  · intro w hSw
    (try dsimp only at hSw)
    (first | (go_simp; done) | (go_simp; with_reducible rfl))
  (try simp only [Act.put, List.getElem_toArray, List.getElem_cons_succ, List.getElem_cons_zero, List.setIfInBounds_toArray, List.set_cons_zero, List.set_cons_succ])
  refine wpAnyH_ready (rs := [13]) (by kernel_rfl) (by simp) ?_
  refine AllReadyH.cons (o := _) rfl (fun K hK => ?_) AllReadyH.nil
  go_simp
  go_at_call 17
  refine (awake5_any _).mono ?_
  rintro e w7 ⟨rfl, hb7⟩
  refine hK.out _ _ (After.next hHeld9 hb7) (fun hHeld13 => ?_)
  clear hK K
  (try simp only [Act.put, List.getElem_toArray, List.getElem_cons_succ, List.getElem_cons_zero, List.setIfInBounds_toArray, List.set_cons_zero, List.set_cons_succ])
  refine wpAnyH_take (i := 14) (oi := _) (v := ?_) rfl (by kernel_rfl) (by kernel_rfl) (by kernel_rfl) (fun _ _ _ h => h) (Or.inl ⟨by rfl, ?_⟩) (by assumption) ?_
  rotate_left 1
  · intro w hSw
    (try dsimp only at hSw)
    (first | (go_simp; done) | (go_simp; with_reducible rfl))
  (try simp only [Act.put, List.getElem_toArray, List.getElem_cons_succ, List.getElem_cons_zero, List.setIfInBounds_toArray, List.set_cons_zero, List.set_cons_succ])
  refine wpAnyH_take (i := 15) (oi := _) (v := ?_) rfl (by kernel_rfl) (by kernel_rfl) (by kernel_rfl) (fun _ _ _ h => h) (Or.inl ⟨by rfl, ?_⟩) (by assumption) ?_
  rotate_left 1
  · intro w hSw
    (try dsimp only at hSw)
    (first | (go_simp; done) | (go_simp; with_reducible rfl))
  (try simp only [Act.put, List.getElem_toArray, List.getElem_cons_succ, List.getElem_cons_zero, List.setIfInBounds_toArray, List.set_cons_zero, List.set_cons_succ])
  refine wpAnyH_done (by kernel_rfl) ?_ _
  have HF := Lib.hid (HB3.out.trans (Below.mono hHeld13 HB3.out.size))
  clear hb4 hb6 hb7 hHeld hHeld5 hHeld7 hHeld9 hHeld13
  go_wp2
  go_ret
  exact ⟨rfl, HF.out⟩
end Go.Proofs.Ytplapepgedagoaa
