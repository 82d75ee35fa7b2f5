/-
  Decrypt's walk.
-/
import Derived.Test.YtimonlkelgpekaaAesI
namespace Go.Proofs.Ytimonlkelgpekaa
open Go.RowKit Go
set_option linter.unusedVariables false
attribute [local irreducible] Gf.inv Gf.tm Gf.pw Gf.spread Gf.sub Gf.boxAt Gf.bk Gf.rm Gf.bit
attribute [local irreducible] Aes.decR Aes.dec
theorem decR_zero (bk : Nat → Nat) (ks s : List Nat) (N : Nat) : Aes.decR bk ks N s 0 = Aes.sub bk (Aes.shift 3 (Aes.add s (Aes.rk ks N))) := by unfold Aes.decR; rfl
theorem decR_succ (bk : Nat → Nat) (ks s : List Nat) (N j : Nat) : Aes.decR bk ks N s (j + 1) = Aes.sub bk (Aes.shift 3 (Aes.mix facU (Aes.add (Aes.decR bk ks N s j) (Aes.rk ks (N - 1 - j))))) := by rw [Aes.decR]
theorem dec_is (bk : Nat → Nat) (ks s : List Nat) (N : Nat) : Aes.dec bk ks N s = Aes.add (Aes.decR bk ks N s (N - 1)) (Aes.rk ks 0) := by unfold Aes.dec; rfl
theorem tBk_congr {F G : Nat → Nat} (h : ∀ i, i < 16 → F i = G i) {i : Nat} (hi : i < 16) : tBk F i = tBk G i := by unfold tBk; rw [h i hi]
theorem unround_is (s : List Nat) (K : Nat → Nat) {i : Nat} (hi : i < 16) :
    (Aes.sub Gf.bk (Aes.shift 3 (Aes.mix facU (Aes.add s K)))).getD i 0 = tBk (shF 3 (tMix facU (tAdd K fun j => s.getD j 0))) i := by
  rw [bk_is hi]
  exact tBk_congr (fun j hj => (shift_is hj).trans (shF_congr (fun m hm => (mix_is hm).trans (tMix_congr (fun q hq => add_is hq) hm)) hj)) hi
theorem unfirst_is (s : List Nat) (K : Nat → Nat) {i : Nat} (hi : i < 16) :
    (Aes.sub Gf.bk (Aes.shift 3 (Aes.add s K))).getD i 0 = tBk (shF 3 (tAdd K fun j => s.getD j 0)) i := by
  rw [bk_is hi]
  exact tBk_congr (fun j hj => (shift_is hj).trans (shF_congr (fun q hq => add_is hq) hj)) hi
def fid4' (i : Nat) : FuncId := match i with | 0 => 33 | 1 => 43 | 2 => 41 | _ => 42
def fid3' (i : Nat) : FuncId := match i with | 0 => 33 | 1 => 41 | _ => 42
def T4' (K : Nat → Nat) (i : Nat) : (Nat → Nat) → Nat → Nat := match i with | 0 => tAdd K | 1 => tMix facU | 2 => shF 3 | _ => tBk
def T3' (K : Nat → Nat) (i : Nat) : (Nat → Nat) → Nat → Nat := match i with | 0 => tAdd K | 1 => shF 3 | _ => tBk
theorem ok4' {gb gk o : Nat} {K : Nat → Nat} (hK : ∀ i, K i < 256) : ∀ i, i < 4 → StepOk gb gk o K (fid4' i) (T4' K i) := fun i hi => by
  rcases (by omega : i = 0 ∨ i = 1 ∨ i = 2 ∨ i = 3) with rfl | rfl | rfl | rfl
  · exact ok_add_ hK
  · exact ok_unmix
  · exact ok_unshift
  · exact ok_unsub
theorem ok3' {gb gk o : Nat} {K : Nat → Nat} (hK : ∀ i, K i < 256) : ∀ i, i < 3 → StepOk gb gk o K (fid3' i) (T3' K i) := fun i hi => by
  rcases (by omega : i = 0 ∨ i = 1 ∨ i = 2) with rfl | rfl | rfl
  · exact ok_add_ hK
  · exact ok_unshift
  · exact ok_unsub
abbrev ops3' : Array Value := #[fn0 33, fn0 41, fn0 42]
abbrev ops4' : Array Value := #[fn0 33, fn0 43, fn0 41, fn0 42]
theorem ops3_at' : ∀ i, i < 3 → ops3'[i]? = some (.func (Fn.func (fid3' i)) #[] #[]) := fun i hi => by rcases (by omega : i = 0 ∨ i = 1 ∨ i = 2) with rfl | rfl | rfl <;> rfl
theorem ops4_at' : ∀ i, i < 4 → ops4'[i]? = some (.func (Fn.func (fid4' i)) #[] #[]) := fun i hi => by rcases (by omega : i = 0 ∨ i = 1 ∨ i = 2 ∨ i = 3) with rfl | rfl | rfl | rfl <;> rfl
def DecRel (w : World) (gs N : Nat) (ks p : List Nat) (v : Value) (wr : World) : Prop :=
  ∃ j : Nat, v = .int .i64 ((N - 1 - j : Nat) : Int) ∧ j ≤ N - 1 ∧ EncS w gs (fun i => (Aes.decR Gf.bk ks N p j).getD i 0) wr
set_option maxHeartbeats 1000000 in
set_option maxRecDepth 100000 in
theorem decrypt_any (g N : Nat) (ks p : List Nat) (w : World) (hc : Cip w g N ks) (hp : Aes.Ok p) :
    Calls Try.prog 18 #[.pointer (some ⟨g, 0, none⟩), .agg (rowV (bF p) 16)] w fun e w' => e = .returned (.agg (rowV (bF (Aes.dec Gf.bk ks N p)) 16)) ∧ Below w.heap.size w w' := by
  have hz := zero16
  have hzs := zero_st
  have hgw := hc.lt
  have hN := hc.some_
  have hby : ∀ n i, (Aes.decR Gf.bk ks N p n).getD i 0 < 256 := fun n i => (Aes.ok_decR (fun c h => Gf.bk_lt h) hc.byte hp n).byte i
  have HBY := Lib.hid hby
  have HC := Lib.hid hc
  have HP := Lib.hid hp
  have e1 : ∀ o, (w.alloc o).heap.size = w.heap.size + 1 := fun o => by simp
  have b1 := blk_alloc (heap_alloc_new w (.cells (rowV (bF p) 16) 22)) (.cells (rowV (bF z16) 16) 22)
  have b2 := heap_alloc_new (w.alloc (.cells (rowV (bF p) 16) 22)) (.cells (rowV (bF z16) 16) 22)
  rw [e1] at b2
  have hb : Below w.heap.size w ((w.alloc (.cells (rowV (bF p) 16) 22)).alloc (.cells (rowV (bF z16) 16) 22)) := ((Below.refl _ _).alloc (Nat.le_refl _) _).alloc (by rw [e1]; omega) _
  have hsz : ((w.alloc (.cells (rowV (bF p) 16) 22)).alloc (.cells (rowV (bF z16) 16) 22)).heap.size = w.heap.size + 2 := by simp
  have HC0 := Lib.hid (hc.next hb)
  have B1 := Lib.hid b1
  have B2 := Lib.hid b2
  have HB0 := Lib.hid hb
  have HSZ := Lib.hid hsz
  have HI := Lib.hid (info16 p)
  clear hc hp e1 b1 b2 hb hsz hby
  go_enter Try.func18, Try.ntmps18
  go_wp2_with fail
  generalize ((w.alloc (.cells (rowV (bF p) 16) 22)).alloc (.cells (rowV (bF z16) 16) 22)) = W0 at *
  refine (none_no g N ks _ HC0.out).mono ?_
  rintro e w' ⟨rfl, rfl⟩
  clear hz
  go_wp2_with (with_reducible refine wpList_load_row rfl 22 (.tmp 3) rfl _ rfl 22 _ _ _ B1.out Try.underlying22 rfl HI.out ?_)
  refine (columns_any p _).mono ?_
  rintro e w2 ⟨rfl, hb2⟩
  have hsz0 := HSZ.out
  have hsz2 := hb2.size
  have hx2 := heap_alloc_new w2 (.cells zst 59)
  have HX2 := Lib.hid hx2
  have HI2 : Hid ((Try.prog.info? 59).map (·.size) = some (rowV (bF p) 16).size) := Lib.hid (info_st fun i => p.getD i 0)
  have HO := Lib.hid (one_row p 16)
  have HZ : Hid (zst.size = (rowV (bF p) 16).size) := Lib.hid (zst_size _ (rowV_size _ _))
  have hb3 : Below w2.heap.size w2 ((w2.alloc (.cells zst 59)).setRow w2.heap.size (rowV (bF p) 16)) := below_setRow ((Below.refl _ _).alloc (Nat.le_refl _) _) (Nat.le_refl _) _
  have hbb : Below W0.heap.size W0 ((w2.alloc (.cells zst 59)).setRow w2.heap.size (rowV (bF p) 16)) := hb2.trans (hb3.mono hsz2)
  have HE : Hid (EncS w w2.heap.size (fun i => p.getD i 0) ((w2.alloc (.cells zst 59)).setRow w2.heap.size (rowV (bF p) 16))) := Lib.hid
    ⟨HB0.out.trans (hbb.mono (by omega)), by omega, (hbb.block _ (by omega)).trans B2.out, setRow_heap _ _ _ (rowV (bF p) 16) _ _ hx2⟩
  clear hx2 hb2 hb3 hbb HC0 B1 B2 HB0 HSZ hsz0
  have kr := (HC.out.below HE.out.below hgw).rounds
  go_wp2_with (with_reducible refine wpList_store_row rfl 59 (.tmp 5) (.tmp 11) rfl _ _ rfl rfl 59 _ HX2.out HI2.out HZ.out HO.out ?_)
  generalize (w2.alloc (.cells zst 59)).setRow w2.heap.size (rowV (bF p) 16) = W3 at *
  generalize w2.heap.size = gs at *
  clear hzs HX2 HI2 HO HZ HI
  clear kr
  refine (round_any g N (by omega) _).mono ?_
  rintro e w4 ⟨rfl, hb4⟩
  have HE4 := Lib.hid (HE.out.next hb4)
  clear hb4 HE
  go_wp2_with fail
  refine (do_steps (k := N) (n := 3) (fid := fid3') (T := T3') (cs := ops3') hgw HC.out HE4.out HP.out.byte (by omega) (by omega) ops3_at' ok3').mono ?_
  rintro e w5 ⟨rfl, he5⟩
  have hE5 : EncS w gs (fun i => (Aes.decR Gf.bk ks N p 0).getD i 0) w5 := he5.congr fun i hi => by
    rw [decR_zero, unfirst_is _ _ hi]; rfl
  have kr := (HC.out.below hE5.below hgw).rounds
  have HE5 : Hid (DecRel w gs N ks p (.int .i64 ((N : Int) - 1)) w5) := Lib.hid ⟨0, by congr 1; omega, by omega, hE5⟩
  clear he5 HE4 hE5
  go_wp2
  clear kr
  go_loopw [6] (fun v wr => DecRel w gs N ks p v wr) (fun v _ => (intOf v).toNat)
  case atStart => exact HE5.out
  case round =>
    obtain ⟨j, rfl, hj, he⟩ := hrel
    have HE := Lib.hid he
    clear he HE5
    obtain ⟨k, hkj⟩ : ∃ k, k = N - 1 - j := ⟨_, rfl⟩
    rw [← hkj]
    by_cases hlt : 0 < k
    · have hk1 : (0 : Int) < (k : Int) := by omega
      have HKJ := Lib.hid hkj
      have hkN : k ≤ 14 := by omega
      clear hkj
      go_wp2_with fail
      refine (round_any g k (by omega) _).mono ?_
      rintro e w6 ⟨rfl, hb6⟩
      have HE6 := Lib.hid (HE.out.next hb6)
      clear hb6 HE
      go_wp2_with fail
      refine (do_steps (k := k) (n := 4) (fid := fid4') (T := T4') (cs := ops4') hgw HC.out HE6.out (HBY.out _) (by omega) (by omega) ops4_at' ok4').mono ?_
      rintro e w7 ⟨rfl, he7⟩
      have HN : Hid (DecRel w gs N ks p (.int .i64 ((k : Int) - 1)) w7) := Lib.hid ⟨j + 1, by congr 1; have := HKJ.out; omega, by have := HKJ.out; omega, he7.congr fun i hi => by
        rw [decR_succ, ← HKJ.out, unround_is _ _ hi]
        rfl⟩
      clear he7 HE6
      go_wp2
      go_roundw
      case rel => exact HN.out
      case measure => simp [intOf]; omega
    · obtain rfl : k = 0 := by omega
      have hjN : j = N - 1 := by omega
      subst hjN
      clear hkj hlt
      go_wp2_with fail
      refine (round0 g _).mono ?_
      rintro e w6 ⟨rfl, hb6⟩
      have HE6 := Lib.hid (HE.out.next hb6)
      clear hb6 HE
      go_wp2_with fail
      refine (do_steps (k := 0) (n := 1) (fid := fid1) (T := T1) (cs := ops1) hgw HC.out HE6.out (HBY.out _) (by omega) (by omega) ops1_at ok1).mono ?_
      rintro e w7 ⟨rfl, he7⟩
      have he8 : EncS w gs (fun i => (Aes.dec Gf.bk ks N p).getD i 0) w7 := he7.congr fun i hi => by
        rw [dec_is, add_is hi]
        rfl
      obtain ⟨q, hqe⟩ : ∃ q, q = Aes.dec Gf.bk ks N p := ⟨_, rfl⟩
      rw [← hqe] at he8
      have HQE := Lib.hid hqe
      clear hqe
      have C5 : Hid (w7.heap[gs]? = some (.cells (rowV (bF q) 16) 59 (0, 0))) := Lib.hid he8.st
      have HI5 : Hid ((Try.prog.info? 59).map (·.size) = some (rowV (bF q) 16).size) := Lib.hid (info_st fun i => q.getD i 0)
      have HE8 := Lib.hid he8
      clear he7 he8 HE6
      go_wp2_with (with_reducible refine wpList_load_row rfl 59 (.tmp 5) rfl _ rfl 59 _ _ _ C5.out Try.underlying59 rfl HI5.out ?_)
      refine (bytes_any q _).mono ?_
      rintro e w9 ⟨rfl, hb9⟩
      have he9 := HE8.out.next hb9
      have B9 := Lib.hid he9.out
      have HFX := Lib.hid (setRow_heap w9 _ _ (rowV (bF q) 16) _ _ he9.out)
      have HFB := Lib.hid (below_setRow (g := w.heap.size + 1) he9.below (by omega) (rowV (bF q) 16))
      have HI9 := Lib.hid (info16 q)
      have HO9 := Lib.hid (one_row q 16)
      have HZ9 : Hid ((rowV (bF z16) 16).size = (rowV (bF q) 16).size) := Lib.hid (by rw [rowV_size, rowV_size])
      clear hb9 he9 HE8 C5 HI5
      obtain ⟨dm, hdm⟩ : ∃ dm, dm = rowV (bF q) 16 := ⟨_, rfl⟩
      rw [← hdm] at HFX HFB HI9 HO9 HZ9 ⊢
      have HDM := Lib.hid hdm
      clear hdm
      go_wp2_with (with_reducible refine wpList_store_row rfl 22 (.tmp 4) (.tmp 39) rfl _ _ rfl rfl 22 _ B9.out HI9.out HZ9.out HO9.out ?_)
      exact bodyPost_ret (v := .agg dm) (results_cell_row rfl _ _ _ 22 _ (0, 0) _ rfl HFX.out Try.underlying22 rfl HI9.out) rfl ⟨by rw [HDM.out, HQE.out], HFB.out⟩
end Go.Proofs.Ytimonlkelgpekaa
