/-
  AesApart's walk.
-/
import Derived.Test.YtimonlkelgpekaaAesS
namespace Go.Proofs.Ytimonlkelgpekaa
open Go.RowKit Go
set_option linter.unusedVariables false
set_option linter.unusedSimpArgs false
attribute [local irreducible] Gf.inv Gf.tm Gf.pw Gf.spread Gf.sub Gf.boxAt Gf.bk Gf.rm Gf.bit
set_option maxHeartbeats 1000000 in
set_option maxRecDepth 100000 in
theorem aesApart_any (la lb lp lq : List Nat) (ha : la.length = 16) (hb : lb.length = 16) (hp : lp.length = 16) (hq : lq.length = 16) (ha2 : ∀ i, la.getD i 0 < 256) (hb2 : ∀ i, lb.getD i 0 < 256) (hp2 : ∀ i, lp.getD i 0 < 256) (hq2 : ∀ i, lq.getD i 0 < 256) (lg : Bool) (w : World) :
    Calls Try.prog 7 #[.agg (rowV (bF la) 16), .agg (rowV (bF lb) 16), .bool lg, .agg (rowV (bF lp) 16), .agg (rowV (bF lq) 16)] w fun e w' => e = .returned (.bool true) ∧ Below w.heap.size w w' := by
  obtain ⟨n, N, ks, key, hkey, hnew, hkb, hN, -, -, -, -, -⟩ := made la lb ha hb ha2 hb2 lg
  obtain ⟨ca, hca, hla⟩ := list_of (bF la) 16
  obtain ⟨cb, hcb, hlb⟩ := list_of (bF lb) 16
  obtain ⟨cp, hcp, hlp⟩ := list_of (bF lp) 16
  obtain ⟨cq, hcq, hlq⟩ := list_of (bF lq) 16
  have hok : Aes.Ok lp := ⟨hp, hp2⟩
  have hokq : Aes.Ok lq := ⟨hq, hq2⟩
  have hia := info_list hla
  have hib := info_list hlb
  have hip := info_list hlp
  have hiq := info_list hlq
  have hu := Try.underlying22
  have e1 : ∀ o, (w.alloc o).heap.size = w.heap.size + 1 := fun o => by simp
  have e2 : ∀ o o', ((w.alloc o).alloc o').heap.size = w.heap.size + 1 + 1 := fun o o' => by simp
  have e3 : ∀ o o' o'', (((w.alloc o).alloc o').alloc o'').heap.size = w.heap.size + 1 + 1 + 1 := fun o o' o'' => by simp
  have hra := blk_alloc (blk_alloc (blk_alloc (heap_alloc_new w (.cells (rowV (bF la) 16) 22)) (.cells (rowV (bF lb) 16) 22)) (.cells (rowV (bF lp) 16) 22)) (.cells (rowV (bF lq) 16) 22)
  have hrb := heap_alloc_new (w.alloc (.cells (rowV (bF la) 16) 22)) (.cells (rowV (bF lb) 16) 22)
  rw [e1] at hrb
  have hrb := blk_alloc (blk_alloc hrb (.cells (rowV (bF lp) 16) 22)) (.cells (rowV (bF lq) 16) 22)
  have hrp := heap_alloc_new ((w.alloc (.cells (rowV (bF la) 16) 22)).alloc (.cells (rowV (bF lb) 16) 22)) (.cells (rowV (bF lp) 16) 22)
  rw [e2] at hrp
  have hrp := blk_alloc hrp (.cells (rowV (bF lq) 16) 22)
  have hrq := heap_alloc_new (((w.alloc (.cells (rowV (bF la) 16) 22)).alloc (.cells (rowV (bF lb) 16) 22)).alloc (.cells (rowV (bF lp) 16) 22)) (.cells (rowV (bF lq) 16) 22)
  rw [e3] at hrq
  have hb0 : Below w.heap.size w ((((w.alloc (.cells (rowV (bF la) 16) 22)).alloc (.cells (rowV (bF lb) 16) 22)).alloc (.cells (rowV (bF lp) 16) 22)).alloc (.cells (rowV (bF lq) 16) 22)) :=
    ((((Below.refl _ _).alloc (Nat.le_refl _) _).alloc (by rw [e1]; omega) _).alloc (by rw [e2]; omega) _).alloc (by rw [e3]; omega) _
  have HKEY := Lib.hid hkey
  have HNEW := Lib.hid hnew
  unfold KeyGives at HKEY
  unfold NewGives at HNEW
  rw [← hca, ← hcb] at HKEY
  rw [← hca, ← hcb, ← hcp, ← hcq]
  rw [← hca, ← hcb, ← hcp, ← hcq] at hra hrb hrp hrq hb0
  have HCA := Lib.hid hca
  have HCB := Lib.hid hcb
  have HCP := Lib.hid hcp
  have HCQ := Lib.hid hcq
  clear e1 e2 e3 hla hlb hlp hlq hkey hnew hca hcb hcp hcq
  go_enter Try.func7, Try.ntmps7
  go_wp2_with fail
  generalize (((w.alloc (.cells ca.toArray 22)).alloc (.cells cb.toArray 22)).alloc (.cells cp.toArray 22)).alloc (.cells cq.toArray 22) = W0 at *
  replace hra : Row W0 w.heap.size 22 (bF la) 16 := by unfold Row; rw [← HCA.out]; exact hra
  replace hrb : Row W0 (w.heap.size + 1) 22 (bF lb) 16 := by unfold Row; rw [← HCB.out]; exact hrb
  replace hrp : Row W0 (w.heap.size + 1 + 1) 22 (bF lp) 16 := by unfold Row; rw [← HCP.out]; exact hrp
  replace hrq : Row W0 (w.heap.size + 1 + 1 + 1) 22 (bF lq) 16 := by unfold Row; rw [← HCQ.out]; exact hrq
  refine wp_region_held_drew (S := After W0) (by kernel_rfl) ?_ (fun hHeld => ?_)
  · exact After.drew W0
  refine' wpAnyH_take (i := 1) (oi := _) (v := _) rfl (by kernel_rfl) (by kernel_rfl) (by kernel_rfl) (fun _ _ _ h => h) (yieldsIf_load_mid (by rfl) _ _ rfl _ _ rfl ca _ (fun w h => row_range (After.row h hra) HCA.out) hu rfl hia) (by assumption) ?_
  (try simp only [Act.put, List.getElem_toArray, List.getElem_cons_succ, List.getElem_cons_zero, List.setIfInBounds_toArray, List.set_cons_zero, List.set_cons_succ])
  refine' wpAnyH_take (i := 2) (oi := _) (v := _) rfl (by kernel_rfl) (by kernel_rfl) (by kernel_rfl) (fun _ _ _ h => h) (yieldsIf_load_mid (by rfl) _ _ rfl _ _ rfl cb _ (fun w h => row_range (After.row h hrb) HCB.out) hu rfl hib) (by assumption) ?_
  (try simp only [Act.put, List.getElem_toArray, List.getElem_cons_succ, List.getElem_cons_zero, List.setIfInBounds_toArray, List.set_cons_zero, List.set_cons_succ])
  refine wpAnyH_take (i := 3) (oi := _) (v := ?_) rfl (by kernel_rfl) (by kernel_rfl) (by kernel_rfl) (fun _ _ _ h => h) (Or.inl ⟨by rfl, ?_⟩) (by assumption) ?_
  rotate_left 1
  · intro w hSw
    (first | (go_simp; done) | (go_simp; with_reducible rfl))
  (try simp only [Act.put, List.getElem_toArray, List.getElem_cons_succ, List.getElem_cons_zero, List.setIfInBounds_toArray, List.set_cons_zero, List.set_cons_succ])
  refine wpAnyH_ready (rs := [0]) (by kernel_rfl) (by simp) ?_
  refine AllReadyH.cons (o := _) rfl (fun K hK => ?_) AllReadyH.nil
  go_simp
  go_at_call 13
  refine (newBox_any _).mono ?_
  rintro e w1 ⟨rfl, hb1, hbx1⟩
  refine hK.out _ _ ?_ (fun hHeld0 => ?_)
  · (try dsimp only)
    exact (by assumption : After W0 _).next hb1
  clear hK K
  (try simp only [Act.put, List.getElem_toArray, List.getElem_cons_succ, List.getElem_cons_zero, List.setIfInBounds_toArray, List.set_cons_zero, List.set_cons_succ])
  refine wpAnyH_ready (rs := [4]) (by kernel_rfl) (by simp) ?_
  refine AllReadyH.cons (o := _) rfl (fun K hK => ?_) AllReadyH.nil
  go_simp
  go_at_call 11
  refine (HKEY.out _).mono ?_
  rintro e w2 ⟨kb, ko, kc, rfl, hb2, hbs2⟩
  refine hK.out _ _ ?_ (fun hHeld4 => ?_)
  · (try dsimp only)
    exact hHeld0.next hb2
  clear hK K
  (try simp only [Act.put, List.getElem_toArray, List.getElem_cons_succ, List.getElem_cons_zero, List.setIfInBounds_toArray, List.set_cons_zero, List.set_cons_succ])
  refine wpAnyH_ready (rs := [5]) (by kernel_rfl) (by simp) ?_
  refine AllReadyH.cons (o := _) rfl (fun K hK => ?_) AllReadyH.nil
  go_simp
  go_at_call 12
  refine (HNEW.out _ _ _ _ _ (IsBox.below hbx1 (blk_lt hbx1) hb2) hbs2).mono ?_
  rintro e w3 ⟨rfl, hc3, hb3, _⟩
  refine hK.out _ _ ?_ (fun hHeld5 => ?_)
  · (try dsimp only)
    exact hHeld4.next hb3
  clear hK K
  (try simp only [Act.put, List.getElem_toArray, List.getElem_cons_succ, List.getElem_cons_zero, List.setIfInBounds_toArray, List.set_cons_zero, List.set_cons_succ])
  refine wpAnyH_take (i := 6) (oi := _) (v := ?_) rfl (by kernel_rfl) (by kernel_rfl) (by kernel_rfl) (fun _ _ _ h => h) (Or.inl ⟨by rfl, ?_⟩) (by assumption) ?_
  rotate_left 1
  · intro w hSw
    (first | (go_simp; done) | (go_simp; with_reducible rfl))
  (try simp only [Act.put, List.getElem_toArray, List.getElem_cons_succ, List.getElem_cons_zero, List.setIfInBounds_toArray, List.set_cons_zero, List.set_cons_succ])
  refine wpAnyH_take (i := 7) (oi := _) (v := ?_) rfl (by kernel_rfl) (by kernel_rfl) (by kernel_rfl) (fun _ _ _ h => h) (Or.inl ⟨by rfl, ?_⟩) (by assumption) ?_
  rotate_left 1
  · intro w hSw
    (first | (go_simp; done) | (go_simp; with_reducible rfl))
  (try simp only [Act.put, List.getElem_toArray, List.getElem_cons_succ, List.getElem_cons_zero, List.setIfInBounds_toArray, List.set_cons_zero, List.set_cons_succ])
  refine wpAnyH_take (i := 8) (oi := _) (v := ?_) rfl (by kernel_rfl) (by kernel_rfl) (by kernel_rfl) (fun _ _ _ h => h) (Or.inl ⟨by rfl, ?_⟩) (by assumption) ?_
  rotate_left 1
  · intro w hSw
    (first | (go_simp; done) | (go_simp; with_reducible rfl))
  (try simp only [Act.put, List.getElem_toArray, List.getElem_cons_succ, List.getElem_cons_zero, List.setIfInBounds_toArray, List.set_cons_zero, List.set_cons_succ])
  refine wpAnyH_take (i := 9) (oi := _) (v := ?_) rfl (by kernel_rfl) (by kernel_rfl) (by kernel_rfl) (fun _ _ _ h => h) (Or.inl ⟨by rfl, ?_⟩) (by assumption) ?_
  rotate_left 1
  · intro w hSw
    (first | (go_simp; done) | (go_simp; with_reducible rfl))
  (try simp only [Act.put, List.getElem_toArray, List.getElem_cons_succ, List.getElem_cons_zero, List.setIfInBounds_toArray, List.set_cons_zero, List.set_cons_succ])
  refine wpAnyH_take (i := 10) (oi := _) (v := ?_) rfl (by kernel_rfl) (by kernel_rfl) (by kernel_rfl) (fun _ _ _ h => h) (Or.inl ⟨by rfl, ?_⟩) (by assumption) ?_
  rotate_left 1
  · intro w hSw
    (first | (go_simp; done) | (go_simp; with_reducible rfl))
  (try simp only [Act.put, List.getElem_toArray, List.getElem_cons_succ, List.getElem_cons_zero, List.setIfInBounds_toArray, List.set_cons_zero, List.set_cons_succ])
  refine wpAnyH_done (by kernel_rfl) ?_ _
  have hafter : After W0 w3 := by assumption
  have hrp3 := After.row hafter hrp
  have hbw3 : Below w.heap.size w w3 := hb0.trans (hafter.mono hb0.size)
  have hcl : ∀ W, After w3 W → Cip W w2.heap.size N ks := fun W h => hc3.next h
  have hrq3 := After.row hafter hrq
  have hoe : Aes.Ok (Aes.enc Gf.sub ks N lp) := Aes.ok_enc (fun c h => Gf.sub_lt h) hkb hok
  have hod : Aes.Ok (Aes.enc Gf.sub ks N lq) := Aes.ok_enc (fun c h => Gf.sub_lt h) hkb hokq
  have h1 := fun W (h : After w3 W) => encrypt_any w2.heap.size N ks lp W (hcl W h) hok
  have h2 := fun W (h : After w3 W) => encrypt_any w2.heap.size N ks lq W (hcl W h) hokq
  have hinj : Aes.enc Gf.sub ks N lp = Aes.enc Gf.sub ks N lq → lp = lq := fun h => by
    rw [← Aes.dec_enc (bk := Gf.bk) (fun c h => Gf.sub_lt h) hkb (fun c h => Gf.bk_sub h) hN.1 hok, h, Aes.dec_enc (fun c h => Gf.sub_lt h) hkb (fun c h => Gf.bk_sub h) hN.1 hokq]
  have hqe := fun W => equal_row 22 16 Try.underlying22 (Aes.enc Gf.sub ks N lp) (Aes.enc Gf.sub ks N lq) hoe.len hod.len W
  have hqp := fun W => equal_row 22 16 Try.underlying22 lp lq hp hq W
  have hdd : decide (Aes.enc Gf.sub ks N lp = Aes.enc Gf.sub ks N lq) = decide (lp = lq) := decide_eq_decide.mpr ⟨hinj, fun h => by rw [h]⟩
  rw [hdd] at hqe
  generalize decide (lp = lq) = bq at *
  generalize Aes.enc Gf.sub ks N lp = le at *
  generalize Aes.enc Gf.sub ks N lq = ld at *
  rw [← HCP.out] at h1 hqp
  rw [← HCQ.out] at h2 hqp
  generalize rowV (bF le) 16 = xe at *
  generalize rowV (bF ld) 16 = xd at *
  have HB3 := Lib.hid hbw3
  have H1 := Lib.hid h1
  have H2 := Lib.hid h2
  clear h1 h2 hbw3 hoe hod hok hokq hdd hinj hcl hkb hN hafter hc3 hia hib HKEY HNEW hra hrb hb0 hrp hrq ha hb hp hq ha2 hb2 hp2 hq2
  go_wp2_with fail
  refine wp_region_class (After w3) (by kernel_rfl) (by kernel_rfl) (After.drew w3) ?_
  repeat (first
    | go_big_quiet_skip
    | (go_big_quiet_want; first
      | (with_reducible refine quiet_load 22 _ rfl _ _ rfl cp _ (fun w h => row_range (After.row h hrp3) HCP.out) hu rfl hip ?_; (simp only [Act.put, List.setIfInBounds_toArray, List.set_cons_zero, List.set_cons_succ]); go_big_quiet_on)
      | (with_reducible refine quiet_load 22 _ rfl _ _ rfl cq _ (fun w h => row_range (After.row h hrq3) HCQ.out) hu rfl hiq ?_; (simp only [Act.put, List.setIfInBounds_toArray, List.set_cons_zero, List.set_cons_succ]); go_big_quiet_on)
      | (go_big_quiet_op; first
        | go_big_quiet_on
        | ((with_reducible refine ⟨_, fun _ _ => rfl, ?_⟩); go_big_quiet_on)
        | ((with_reducible refine ⟨_, fun _ _ => ⟨rfl, rfl⟩, ?_⟩); go_big_quiet_on)
        | ((with_reducible refine ⟨_, fun W hW => calls_after hW (H1.out W hW), ?_⟩); go_big_quiet_on)
        | ((with_reducible refine ⟨_, fun W hW => calls_after hW (H2.out W hW), ?_⟩); go_big_quiet_on)
        | ((with_reducible refine ⟨_, fun W hW => calls_after hW (awake5_any W), ?_⟩); go_big_quiet_on))))
  refine wpQuiet_nil ?_
  intro W4 hW4
  go_wp2
  go_ret
  exact ⟨rfl, HB3.out.trans (hW4.mono HB3.out.size)⟩
end Go.Proofs.Ytimonlkelgpekaa
