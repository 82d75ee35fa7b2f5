/-
  Encrypt's walk.
-/
import Derived.Test.YthjpaligpojlnaaAesH
namespace Go.Proofs.Ythjpaligpojlnaa
open Go.RowKit Go
set_option linter.unusedVariables false
attribute [local irreducible] Gf.inv Gf.tm Gf.pw Gf.spread Gf.sub Gf.boxAt Gf.bk Gf.rm Gf.bit
attribute [local irreducible] Aes.encR Aes.enc
theorem encR_zero (sb : Nat → Nat) (ks s : List Nat) : Aes.encR sb ks s 0 = Aes.add s (Aes.rk ks 0) := by unfold Aes.encR; rfl
theorem encR_succ (sb : Nat → Nat) (ks s : List Nat) (n : Nat) : Aes.encR sb ks s (n + 1) = Aes.add (Aes.mix facM (Aes.shift 1 (Aes.sub sb (Aes.encR sb ks s n)))) (Aes.rk ks (n + 1)) := by rw [Aes.encR]
theorem enc_is (sb : Nat → Nat) (ks s : List Nat) (N : Nat) : Aes.enc sb ks N s = Aes.add (Aes.shift 1 (Aes.sub sb (Aes.encR sb ks s (N - 1)))) (Aes.rk ks N) := by unfold Aes.enc; rfl
theorem EncS.congr {w wr : World} {gs : Nat} {F G : Nat → Nat} (h : EncS w gs F wr) (e : ∀ i, i < 16 → F i = G i) : EncS w gs G wr := ⟨h.below, h.far, h.out, h.st.congr e⟩
set_option maxHeartbeats 1000000 in
set_option maxRecDepth 100000 in
theorem encrypt_any (g N : Nat) (ks p : List Nat) (w : World) (hc : Cip w g N ks) (hp : Aes.Ok p) :
    Calls Try.prog 78 #[.pointer (some ⟨g, 0, none⟩), .agg (rowV (bF p) 16)] w fun e w' => e = .returned (.agg (rowV (bF (Aes.enc Gf.sub ks N p)) 16)) ∧ Below w.heap.size w w' := by
  have hz := zero16
  have hzs := zero_st
  have hgw := hc.lt
  have hN := hc.some_
  have hby : ∀ n i, (Aes.encR Gf.sub ks p n).getD i 0 < 256 := fun n i => (Aes.ok_encR (fun c h => Gf.sub_lt h) hc.byte hp n).byte i
  have HBY := Lib.hid hby
  have HC := Lib.hid hc
  have HP := Lib.hid hp
  have e1 : ∀ o, (w.alloc o).heap.size = w.heap.size + 1 := fun o => by simp
  have b1 := blk_alloc (heap_alloc_new w (.cells (rowV (bF p) 16) 22)) (.cells (rowV (bF z16) 16) 22)
  have b2 := heap_alloc_new (w.alloc (.cells (rowV (bF p) 16) 22)) (.cells (rowV (bF z16) 16) 22)
  rw [e1] at b2
  have hb : Below w.heap.size w ((w.alloc (.cells (rowV (bF p) 16) 22)).alloc (.cells (rowV (bF z16) 16) 22)) := ((Below.refl _ _).alloc (Nat.le_refl _) _).alloc (by rw [e1]; omega) _
  have hsz : ((w.alloc (.cells (rowV (bF p) 16) 22)).alloc (.cells (rowV (bF z16) 16) 22)).heap.size = w.heap.size + 2 := by simp
  have HC0 := Lib.hid (hc.next hb)
  have B1 := Lib.hid b1
  have B2 := Lib.hid b2
  have HB0 := Lib.hid hb
  have HSZ := Lib.hid hsz
  have HI := Lib.hid (info16 p)
  clear hc hp e1 b1 b2 hb hsz hby
  go_enter Try.func78, Try.ntmps78
  go_wp2_with fail
  generalize ((w.alloc (.cells (rowV (bF p) 16) 22)).alloc (.cells (rowV (bF z16) 16) 22)) = W0 at *
  refine (none_no g N ks _ HC0.out).mono ?_
  rintro e w' ⟨rfl, rfl⟩
  clear hz
  go_wp2_with (with_reducible refine wpList_load_row rfl 22 (.tmp 3) rfl _ rfl 22 _ _ _ B1.out Try.underlying22 rfl HI.out ?_)
  refine (columns_any p _).mono ?_
  rintro e w2 ⟨rfl, hb2⟩
  have hsz0 := HSZ.out
  have hsz2 := hb2.size
  have hx2 := heap_alloc_new w2 (.cells zst 75)
  have HX2 := Lib.hid hx2
  have HI2 : Hid ((Try.prog.info? 75).map (·.size) = some (rowV (bF p) 16).size) := Lib.hid (info_st fun i => p.getD i 0)
  have HO := Lib.hid (one_row p 16)
  have HZ : Hid (zst.size = (rowV (bF p) 16).size) := Lib.hid (zst_size _ (rowV_size _ _))
  have hb3 : Below w2.heap.size w2 ((w2.alloc (.cells zst 75)).setRow w2.heap.size (rowV (bF p) 16)) := below_setRow ((Below.refl _ _).alloc (Nat.le_refl _) _) (Nat.le_refl _) _
  have hbb : Below W0.heap.size W0 ((w2.alloc (.cells zst 75)).setRow w2.heap.size (rowV (bF p) 16)) := hb2.trans (hb3.mono hsz2)
  have HE : Hid (EncS w w2.heap.size (fun i => p.getD i 0) ((w2.alloc (.cells zst 75)).setRow w2.heap.size (rowV (bF p) 16))) := Lib.hid
    ⟨HB0.out.trans (hbb.mono (by omega)), by omega, (hbb.block _ (by omega)).trans B2.out, setRow_heap _ _ _ (rowV (bF p) 16) _ _ hx2⟩
  clear hx2 hb2 hb3 hbb HC0 B1 B2 HB0 HSZ hsz0
  go_wp2_with (with_reducible refine wpList_store_row rfl 75 (.tmp 5) (.tmp 11) rfl _ _ rfl rfl 75 _ HX2.out HI2.out HZ.out HO.out ?_)
  generalize (w2.alloc (.cells zst 75)).setRow w2.heap.size (rowV (bF p) 16) = W3 at *
  generalize w2.heap.size = gs at *
  clear hzs HX2 HI2 HO HZ HI
  refine (round0 g _).mono ?_
  rintro e w4 ⟨rfl, hb4⟩
  have HE4 := Lib.hid (HE.out.next hb4)
  clear hb4 HE
  go_wp2_with fail
  refine (do_steps (k := 0) (n := 1) (fid := fid1) (T := T1) (cs := ops1) hgw HC.out HE4.out HP.out.byte (by omega) (by omega) ops1_at ok1).mono ?_
  rintro e w5 ⟨rfl, he5⟩
  have HE5 : Hid (EncRel w gs N ks p (.int .i64 1) w5) := Lib.hid ⟨1, rfl, by omega, by omega, he5.congr fun i hi => by
    rw [Nat.sub_self, encR_zero, add_is hi]; rfl⟩
  clear he5 HE4
  go_wp2
  go_loopw [6] (fun v wr => EncRel w gs N ks p v wr) (fun v _ => (N - intOf v).toNat)
  case atStart => exact HE5.out
  case round =>
    obtain ⟨k, rfl, hk1, hkN, he⟩ := hrel
    have HE := Lib.hid he
    have kr := (HC.out.below he.below hgw).rounds
    clear he HE5
    by_cases hlt : k < N
    · go_wp2_with fail
      clear kr
      refine (round_any g k (by omega) _).mono ?_
      rintro e w6 ⟨rfl, hb6⟩
      have HE6 := Lib.hid (HE.out.next hb6)
      clear hb6 HE
      go_wp2_with fail
      refine (do_steps (k := k) (n := 4) (fid := fid4) (T := T4) (cs := ops4) hgw HC.out HE6.out (HBY.out _) (by omega) (by omega) ops4_at ok4).mono ?_
      rintro e w7 ⟨rfl, he7⟩
      have HN : Hid (EncRel w gs N ks p (.int .i64 ((k : Int) + 1)) w7) := Lib.hid ⟨k + 1, rfl, by omega, by omega, he7.congr fun i hi => by
        obtain ⟨m, rfl⟩ : ∃ m, k = m + 1 := ⟨k - 1, by omega⟩
        rw [show m + 1 + 1 - 1 = m + 1 by omega, encR_succ, round_is _ _ hi]
        rfl⟩
      clear he7 HE6
      go_wp2
      go_roundw
      case rel => exact HN.out
      case measure => simp [intOf]; omega
    · obtain rfl : k = N := by omega
      go_wp2_with fail
      clear kr
      refine (round_any g k (by omega) _).mono ?_
      rintro e w6 ⟨rfl, hb6⟩
      have HE6 := Lib.hid (HE.out.next hb6)
      clear hb6 HE
      go_wp2_with fail
      refine (do_steps (k := k) (n := 3) (fid := fid3) (T := T3) (cs := ops3) hgw HC.out HE6.out (HBY.out _) (by omega) (by omega) ops3_at ok3).mono ?_
      rintro e w7 ⟨rfl, he7⟩
      have he8 : EncS w gs (fun i => (Aes.enc Gf.sub ks k p).getD i 0) w7 := he7.congr fun i hi => by
        rw [enc_is, last_is _ _ hi]
        rfl
      obtain ⟨q, hqe⟩ : ∃ q, q = Aes.enc Gf.sub ks k p := ⟨_, rfl⟩
      rw [← hqe] at he8
      have HQE := Lib.hid hqe
      clear hqe
      have C5 : Hid (w7.heap[gs]? = some (.cells (rowV (bF q) 16) 75 (0, 0))) := Lib.hid he8.st
      have HI5 : Hid ((Try.prog.info? 75).map (·.size) = some (rowV (bF q) 16).size) := Lib.hid (info_st fun i => q.getD i 0)
      have HE8 := Lib.hid he8
      clear he7 he8 HE6
      go_wp2_with (with_reducible refine wpList_load_row rfl 75 (.tmp 5) rfl _ rfl 75 _ _ _ C5.out Try.underlying75 rfl HI5.out ?_)
      refine (bytes_any q _).mono ?_
      rintro e w9 ⟨rfl, hb9⟩
      have he9 := HE8.out.next hb9
      have B9 := Lib.hid he9.out
      have HFX := Lib.hid (setRow_heap w9 _ _ (rowV (bF q) 16) _ _ he9.out)
      have HFB := Lib.hid (below_setRow (g := w.heap.size + 1) he9.below (by omega) (rowV (bF q) 16))
      have HI9 := Lib.hid (info16 q)
      have HO9 := Lib.hid (one_row q 16)
      have HZ9 : Hid ((rowV (bF z16) 16).size = (rowV (bF q) 16).size) := Lib.hid (by rw [rowV_size, rowV_size])
      clear hb9 he9 HE8 C5 HI5
      obtain ⟨dm, hdm⟩ : ∃ dm, dm = rowV (bF q) 16 := ⟨_, rfl⟩
      rw [← hdm] at HFX HFB HI9 HO9 HZ9 ⊢
      have HDM := Lib.hid hdm
      clear hdm
      go_wp2_with (with_reducible refine wpList_store_row rfl 22 (.tmp 4) (.tmp 38) rfl _ _ rfl rfl 22 _ B9.out HI9.out HZ9.out HO9.out ?_)
      exact bodyPost_ret (v := .agg dm) (results_cell_row rfl _ _ _ 22 _ (0, 0) _ rfl HFX.out Try.underlying22 rfl HI9.out) rfl ⟨by rw [HDM.out, HQE.out], HFB.out⟩
end Go.Proofs.Ythjpaligpojlnaa
