/-
  A cipher out of a law's key: of 16 or of 32 bytes. AesBack's walk, AesApart's walk.
-/
import Derived.Test.YtimonlkelgpekaaAesR
import Derived.Test.YtimonlkelgpekaaAesJ
import Derived.Test.YtimonlkelgpekaaCls
import Derived.Test.YtimonlkelgpekaaEq
import Derived.Deep.RegionHeld3
namespace Go.Proofs.Ytimonlkelgpekaa
open Go.RowKit Go
set_option linter.unusedVariables false
set_option linter.unusedSimpArgs false
attribute [local irreducible] Gf.inv Gf.tm Gf.pw Gf.spread Gf.sub Gf.boxAt Gf.bk Gf.rm Gf.bit
/-- Key answers a slice of n bytes that reads as key -/
def KeyGives (la lb : List Nat) (lg : Bool) (n : Nat) (key : List Nat) : Prop := ∀ w : World, Calls Try.prog 11 #[.agg (rowV (bF la) 16), .agg (rowV (bF lb) 16), .bool lg] w fun e w' =>
  ∃ b o c, e = .returned (.slice (some ⟨b, o, none⟩) n c) ∧ Below w.heap.size w w' ∧ BS w' w'.heap.size (some ⟨b, o, none⟩) n c key
/-- New of such a slice answers a cipher of N rounds with the words ks -/
def NewGives (n N : Nat) (ks key : List Nat) : Prop := ∀ (gb b o c : Nat) (w : World), IsBox w gb → BS w w.heap.size (some ⟨b, o, none⟩) n c key →
  Calls Try.prog 12 #[.pointer (some ⟨gb, 0, none⟩), .slice (some ⟨b, o, none⟩) n c] w fun e w' => e = .returned (.tuple #[.pointer (some ⟨w.heap.size, 0, none⟩), .int .i64 0]) ∧ Cip w' w.heap.size N ks ∧ Below w.heap.size w w' ∧ CipR w' w.heap.size N ks
theorem made (la lb : List Nat) (ha : la.length = 16) (hb : lb.length = 16) (ha2 : ∀ i, la.getD i 0 < 256) (hb2 : ∀ i, lb.getD i 0 < 256) (lg : Bool) :
    ∃ n N ks key, KeyGives la lb lg n key ∧ NewGives n N ks key ∧ (∀ j, ks.getD j 0 < 256) ∧ (1 ≤ N ∧ N ≤ 14) ∧ key = (if lg then la ++ lb else la) ∧ n = key.length ∧ ((n = 16 ∧ N = 10) ∨ (n = 32 ∧ N = 14)) ∧ ks = Aes.sch Gf.sub key (n / 4) (4 * (N + 1)) ∧ (∀ i, key.getD i 0 < 256) := by
  have hk := fun w => key_any la lb ha hb ha2 hb2 lg w
  cases lg
  · have hby : ∀ j, (Aes.sch Gf.sub la 4 44).getD j 0 < 256 := fun j => Aes.sch_byte (fun c h => Gf.sub_lt h) ha2 _ _
    refine ⟨16, 10, _, la, ?_, ?_, hby, by omega, rfl, ha.symm, .inl ⟨rfl, rfl⟩, rfl, ha2⟩
    · intro w
      have := hk w
      rw [if_neg (by decide), ha] at this
      exact this
    · intro gb b o c w h1 h2
      exact (new_16 gb b o c la w h1 h2).mono fun e w' ⟨he, hc, hb⟩ => ⟨he, hc.cip hby (by omega), hb, hc⟩
  · have h32 : ∀ i, (la ++ lb).getD i 0 < 256 := getD_append_byte ha2 hb2
    have hl : (la ++ lb).length = 32 := by rw [List.length_append]; omega
    have hby : ∀ j, (Aes.sch Gf.sub (la ++ lb) 8 60).getD j 0 < 256 := fun j => Aes.sch_byte (fun c h => Gf.sub_lt h) h32 _ _
    refine ⟨32, 14, _, la ++ lb, ?_, ?_, hby, by omega, rfl, hl.symm, .inr ⟨rfl, rfl⟩, rfl, h32⟩
    · intro w
      have := hk w
      rw [if_pos rfl, hl] at this
      exact this
    · intro gb b o c w h1 h2
      exact (new_32 gb b o c (la ++ lb) w h1 h2).mono fun e w' ⟨he, hc, hb⟩ => ⟨he, hc.cip hby (by omega), hb, hc⟩
theorem list_of (f : Nat → Value) (n : Nat) : ∃ ca : List Value, ca.toArray = rowV f n ∧ ca.length = n := ⟨(rowV f n).toList, by simp, by simp [rowV_size]⟩
theorem info_list {l : List Value} (h : l.length = 16) : (Try.prog.info? 22).map (·.size) = some l.length := by rw [h]; kernel_rfl
set_option maxHeartbeats 1000000 in
set_option maxRecDepth 100000 in
theorem aesBack_any (la lb lp : List Nat) (ha : la.length = 16) (hb : lb.length = 16) (hp : lp.length = 16) (ha2 : ∀ i, la.getD i 0 < 256) (hb2 : ∀ i, lb.getD i 0 < 256) (hp2 : ∀ i, lp.getD i 0 < 256) (lg : Bool) (w : World) :
    Calls Try.prog 4 #[.agg (rowV (bF la) 16), .agg (rowV (bF lb) 16), .bool lg, .agg (rowV (bF lp) 16)] w fun e w' => e = .returned (.bool true) ∧ Below w.heap.size w w' := by
  obtain ⟨n, N, ks, key, hkey, hnew, hkb, hN, -, -, -, -, -⟩ := made la lb ha hb ha2 hb2 lg
  obtain ⟨ca, hca, hla⟩ := list_of (bF la) 16
  obtain ⟨cb, hcb, hlb⟩ := list_of (bF lb) 16
  obtain ⟨cp, hcp, hlp⟩ := list_of (bF lp) 16
  have hok : Aes.Ok lp := ⟨hp, hp2⟩
  have hia := info_list hla
  have hib := info_list hlb
  have hip := info_list hlp
  have hu := Try.underlying22
  have e1 : ∀ o, (w.alloc o).heap.size = w.heap.size + 1 := fun o => by simp
  have e2 : ∀ o o', ((w.alloc o).alloc o').heap.size = w.heap.size + 1 + 1 := fun o o' => by simp
  have hra := blk_alloc (blk_alloc (heap_alloc_new w (.cells (rowV (bF la) 16) 22)) (.cells (rowV (bF lb) 16) 22)) (.cells (rowV (bF lp) 16) 22)
  have hrb := heap_alloc_new (w.alloc (.cells (rowV (bF la) 16) 22)) (.cells (rowV (bF lb) 16) 22)
  rw [e1] at hrb
  have hrb := blk_alloc hrb (.cells (rowV (bF lp) 16) 22)
  have hrp := heap_alloc_new ((w.alloc (.cells (rowV (bF la) 16) 22)).alloc (.cells (rowV (bF lb) 16) 22)) (.cells (rowV (bF lp) 16) 22)
  rw [e2] at hrp
  have hb0 : Below w.heap.size w (((w.alloc (.cells (rowV (bF la) 16) 22)).alloc (.cells (rowV (bF lb) 16) 22)).alloc (.cells (rowV (bF lp) 16) 22)) :=
    (((Below.refl _ _).alloc (Nat.le_refl _) _).alloc (by rw [e1]; omega) _).alloc (by rw [e2]; omega) _
  have HKEY := Lib.hid hkey
  have HNEW := Lib.hid hnew
  unfold KeyGives at HKEY
  unfold NewGives at HNEW
  rw [← hca, ← hcb] at HKEY
  rw [← hca, ← hcb, ← hcp]
  rw [← hca, ← hcb, ← hcp] at hra hrb hrp hb0
  have HCA := Lib.hid hca
  have HCB := Lib.hid hcb
  have HCP := Lib.hid hcp
  clear e1 e2 hla hlb hlp hkey hnew hca hcb hcp
  go_enter Try.func4, Try.ntmps4
  go_wp2_with fail
  generalize ((w.alloc (.cells ca.toArray 22)).alloc (.cells cb.toArray 22)).alloc (.cells cp.toArray 22) = W0 at *
  replace hra : Row W0 w.heap.size 22 (bF la) 16 := by unfold Row; rw [← HCA.out]; exact hra
  replace hrb : Row W0 (w.heap.size + 1) 22 (bF lb) 16 := by unfold Row; rw [← HCB.out]; exact hrb
  replace hrp : Row W0 (w.heap.size + 1 + 1) 22 (bF lp) 16 := by unfold Row; rw [← HCP.out]; exact hrp
  refine wp_region_held_drew (S := After W0) (by kernel_rfl) ?_ (fun hHeld => ?_)
  · exact After.drew W0
  refine' wpAnyH_take (i := 1) (oi := _) (v := _) rfl (by kernel_rfl) (by kernel_rfl) (by kernel_rfl) (fun _ _ _ h => h) (yieldsIf_load_mid (by rfl) _ _ rfl _ _ rfl ca _ (fun w h => row_range (After.row h hra) HCA.out) hu rfl hia) (by assumption) ?_
  (try simp only [Act.put, List.getElem_toArray, List.getElem_cons_succ, List.getElem_cons_zero, List.setIfInBounds_toArray, List.set_cons_zero, List.set_cons_succ])
  refine' wpAnyH_take (i := 2) (oi := _) (v := _) rfl (by kernel_rfl) (by kernel_rfl) (by kernel_rfl) (fun _ _ _ h => h) (yieldsIf_load_mid (by rfl) _ _ rfl _ _ rfl cb _ (fun w h => row_range (After.row h hrb) HCB.out) hu rfl hib) (by assumption) ?_
  (try simp only [Act.put, List.getElem_toArray, List.getElem_cons_succ, List.getElem_cons_zero, List.setIfInBounds_toArray, List.set_cons_zero, List.set_cons_succ])
  refine wpAnyH_take (i := 3) (oi := _) (v := ?_) rfl (by kernel_rfl) (by kernel_rfl) (by kernel_rfl) (fun _ _ _ h => h) (Or.inl ⟨by rfl, ?_⟩) (by assumption) ?_
  rotate_left 1
  · intro w hSw
    (first | (go_simp; done) | (go_simp; with_reducible rfl))
  (try simp only [Act.put, List.getElem_toArray, List.getElem_cons_succ, List.getElem_cons_zero, List.setIfInBounds_toArray, List.set_cons_zero, List.set_cons_succ])
  refine wpAnyH_ready (rs := [0]) (by kernel_rfl) (by simp) ?_
  refine AllReadyH.cons (o := _) rfl (fun K hK => ?_) AllReadyH.nil
  go_simp
  go_at_call 13
  refine (newBox_any _).mono ?_
  rintro e w1 ⟨rfl, hb1, hbx1⟩
  refine hK.out _ _ ?_ (fun hHeld0 => ?_)
  · (try dsimp only)
    exact (by assumption : After W0 _).next hb1
  clear hK K
  (try simp only [Act.put, List.getElem_toArray, List.getElem_cons_succ, List.getElem_cons_zero, List.setIfInBounds_toArray, List.set_cons_zero, List.set_cons_succ])
  refine wpAnyH_ready (rs := [4]) (by kernel_rfl) (by simp) ?_
  refine AllReadyH.cons (o := _) rfl (fun K hK => ?_) AllReadyH.nil
  go_simp
  go_at_call 11
  refine (HKEY.out _).mono ?_
  rintro e w2 ⟨kb, ko, kc, rfl, hb2, hbs2⟩
  refine hK.out _ _ ?_ (fun hHeld4 => ?_)
  · (try dsimp only)
    exact hHeld0.next hb2
  clear hK K
  (try simp only [Act.put, List.getElem_toArray, List.getElem_cons_succ, List.getElem_cons_zero, List.setIfInBounds_toArray, List.set_cons_zero, List.set_cons_succ])
  refine wpAnyH_ready (rs := [5]) (by kernel_rfl) (by simp) ?_
  refine AllReadyH.cons (o := _) rfl (fun K hK => ?_) AllReadyH.nil
  go_simp
  go_at_call 12
  refine (HNEW.out _ _ _ _ _ (IsBox.below hbx1 (blk_lt hbx1) hb2) hbs2).mono ?_
  rintro e w3 ⟨rfl, hc3, hb3, _⟩
  refine hK.out _ _ ?_ (fun hHeld5 => ?_)
  · (try dsimp only)
    exact hHeld4.next hb3
  clear hK K
  (try simp only [Act.put, List.getElem_toArray, List.getElem_cons_succ, List.getElem_cons_zero, List.setIfInBounds_toArray, List.set_cons_zero, List.set_cons_succ])
  refine wpAnyH_take (i := 6) (oi := _) (v := ?_) rfl (by kernel_rfl) (by kernel_rfl) (by kernel_rfl) (fun _ _ _ h => h) (Or.inl ⟨by rfl, ?_⟩) (by assumption) ?_
  rotate_left 1
  · intro w hSw
    (first | (go_simp; done) | (go_simp; with_reducible rfl))
  (try simp only [Act.put, List.getElem_toArray, List.getElem_cons_succ, List.getElem_cons_zero, List.setIfInBounds_toArray, List.set_cons_zero, List.set_cons_succ])
  refine wpAnyH_take (i := 7) (oi := _) (v := ?_) rfl (by kernel_rfl) (by kernel_rfl) (by kernel_rfl) (fun _ _ _ h => h) (Or.inl ⟨by rfl, ?_⟩) (by assumption) ?_
  rotate_left 1
  · intro w hSw
    (first | (go_simp; done) | (go_simp; with_reducible rfl))
  (try simp only [Act.put, List.getElem_toArray, List.getElem_cons_succ, List.getElem_cons_zero, List.setIfInBounds_toArray, List.set_cons_zero, List.set_cons_succ])
  refine wpAnyH_take (i := 8) (oi := _) (v := ?_) rfl (by kernel_rfl) (by kernel_rfl) (by kernel_rfl) (fun _ _ _ h => h) (Or.inl ⟨by rfl, ?_⟩) (by assumption) ?_
  rotate_left 1
  · intro w hSw
    (first | (go_simp; done) | (go_simp; with_reducible rfl))
  (try simp only [Act.put, List.getElem_toArray, List.getElem_cons_succ, List.getElem_cons_zero, List.setIfInBounds_toArray, List.set_cons_zero, List.set_cons_succ])
  refine wpAnyH_take (i := 9) (oi := _) (v := ?_) rfl (by kernel_rfl) (by kernel_rfl) (by kernel_rfl) (fun _ _ _ h => h) (Or.inl ⟨by rfl, ?_⟩) (by assumption) ?_
  rotate_left 1
  · intro w hSw
    (first | (go_simp; done) | (go_simp; with_reducible rfl))
  (try simp only [Act.put, List.getElem_toArray, List.getElem_cons_succ, List.getElem_cons_zero, List.setIfInBounds_toArray, List.set_cons_zero, List.set_cons_succ])
  refine wpAnyH_take (i := 10) (oi := _) (v := ?_) rfl (by kernel_rfl) (by kernel_rfl) (by kernel_rfl) (fun _ _ _ h => h) (Or.inl ⟨by rfl, ?_⟩) (by assumption) ?_
  rotate_left 1
  · intro w hSw
    (first | (go_simp; done) | (go_simp; with_reducible rfl))
  (try simp only [Act.put, List.getElem_toArray, List.getElem_cons_succ, List.getElem_cons_zero, List.setIfInBounds_toArray, List.set_cons_zero, List.set_cons_succ])
  refine wpAnyH_done (by kernel_rfl) ?_ _
  have hafter : After W0 w3 := by assumption
  have hrp3 := After.row hafter hrp
  have hbw3 : Below w.heap.size w w3 := hb0.trans (hafter.mono hb0.size)
  have hcl : ∀ W, After w3 W → Cip W w2.heap.size N ks := fun W h => hc3.next h
  have hoe : Aes.Ok (Aes.enc Gf.sub ks N lp) := Aes.ok_enc (fun c h => Gf.sub_lt h) hkb hok
  have hod : Aes.Ok (Aes.dec Gf.bk ks N lp) := Aes.ok_dec (fun c h => Gf.bk_lt h) hkb hok
  have h1 := fun W (h : After w3 W) => encrypt_any w2.heap.size N ks lp W (hcl W h) hok
  have h2 := fun W (h : After w3 W) => decrypt_any w2.heap.size N ks (Aes.enc Gf.sub ks N lp) W (hcl W h) hoe
  have h3 := fun W (h : After w3 W) => decrypt_any w2.heap.size N ks lp W (hcl W h) hok
  have h4 := fun W (h : After w3 W) => encrypt_any w2.heap.size N ks (Aes.dec Gf.bk ks N lp) W (hcl W h) hod
  rw [Aes.dec_enc (fun c h => Gf.sub_lt h) hkb (fun c h => Gf.bk_sub h) hN.1 hok] at h2
  rw [Aes.enc_dec (fun c h => Gf.bk_lt h) hkb (fun c h => Gf.sub_bk h) hN.1 hok] at h4
  have hq := fun W => equal_row 22 16 Try.underlying22 lp lp hp hp W
  rw [decide_eq_true rfl] at hq
  generalize Aes.enc Gf.sub ks N lp = le at *
  generalize Aes.dec Gf.bk ks N lp = ld at *
  rw [← HCP.out] at h1 h2 h3 h4 hq
  generalize rowV (bF le) 16 = xe at *
  generalize rowV (bF ld) 16 = xd at *
  have HB3 := Lib.hid hbw3
  have H1 := Lib.hid h1
  have H2 := Lib.hid h2
  have H3 := Lib.hid h3
  have H4 := Lib.hid h4
  clear h1 h2 h3 h4 hbw3 hoe hod hok hcl hkb hN hafter hc3 hia hib HKEY HNEW hra hrb hb0 hrp ha hb hp ha2 hb2 hp2
  go_wp2_with fail
  refine wp_region_class (After w3) (by kernel_rfl) (by kernel_rfl) (After.drew w3) ?_
  repeat (first
    | go_big_quiet_skip
    | (go_big_quiet_want; first
      | (with_reducible refine quiet_load 22 _ rfl _ _ rfl cp _ (fun w h => row_range (After.row h hrp3) HCP.out) hu rfl hip ?_; (simp only [Act.put, List.setIfInBounds_toArray, List.set_cons_zero, List.set_cons_succ]); go_big_quiet_on)
      | (go_big_quiet_op; first
        | go_big_quiet_on
        | ((with_reducible refine ⟨_, fun _ _ => rfl, ?_⟩); go_big_quiet_on)
        | ((with_reducible refine ⟨_, fun _ _ => ⟨rfl, rfl⟩, ?_⟩); go_big_quiet_on)
        | ((with_reducible refine ⟨_, fun W hW => calls_after hW (H1.out W hW), ?_⟩); go_big_quiet_on)
        | ((with_reducible refine ⟨_, fun W hW => calls_after hW (H2.out W hW), ?_⟩); go_big_quiet_on)
        | ((with_reducible refine ⟨_, fun W hW => calls_after hW (H3.out W hW), ?_⟩); go_big_quiet_on)
        | ((with_reducible refine ⟨_, fun W hW => calls_after hW (H4.out W hW), ?_⟩); go_big_quiet_on)
        | ((with_reducible refine ⟨_, fun W hW => calls_after hW (awake5_any W), ?_⟩); go_big_quiet_on))))
  refine wpQuiet_nil ?_
  intro W4 hW4
  go_wp2
  go_ret
  exact ⟨rfl, HB3.out.trans (hW4.mono HB3.out.size)⟩
end Go.Proofs.Ytimonlkelgpekaa
