/-
  AesWords' walk.
-/
import Derived.Test.YtplapepgedagoaaRefN
import Derived.Test.YtplapepgedagoaaAesS
import Derived.Test.YtplapepgedagoaaAesH
import Derived.Test.YtplapepgedagoaaClsC
namespace Go.Proofs.Ytplapepgedagoaa
open Go.RowKit Go
set_option linter.unusedVariables false
set_option linter.unusedSimpArgs false
attribute [local irreducible] Gf.inv Gf.tm Gf.pw Gf.spread Gf.sub Gf.boxAt Gf.bk Gf.rm Gf.bit
theorem ref_made {n N : Nat} {key ks : List Nat} (h : (n = 16 ∧ N = 10) ∨ (n = 32 ∧ N = 14)) (hks : ks = Aes.sch Gf.sub key (n / 4) (4 * (N + 1))) (b o c : Nat) (w : World) (hs : BS w w.heap.size (some ⟨b, o, none⟩) n c key) :
    Calls Try.prog 15 #[.slice (some ⟨b, o, none⟩) n c] w fun e w' => ∃ v, e = .returned (.pointer (some ⟨w.heap.size, 0, none⟩)) ∧ RefS w w.heap.size (twF 256) v (N : Int) (4 * (N + 1)) ks w' := by
  have hr := refNew_any (A := none) (n / 4) n (4 * (N + 1)) c (by omega) (by omega) (by omega) b o key w hs
  have e : ((n / 4 : Nat) : Int) + 6 = (N : Int) := by omega
  rw [e, ← hks] at hr
  exact hr
def wordL (ks : List Nat) (k : Nat) : List Nat := [ks.getD (4 * k + 0) 0, ks.getD (4 * k + 1) 0, ks.getD (4 * k + 2) 0, ks.getD (4 * k + 3) 0]
def wordV (a b c d : Nat) : Array Value := #[.int .u8 (a : Int), .int .u8 (b : Int), .int .u8 (c : Int), .int .u8 (d : Int)]
theorem wordV_row (a b c d : Nat) : wordV a b c d = rowV (bF [a, b, c, d]) 4 := rfl
theorem infoW (a b c d : Nat) : (Try.prog.info? 36).map (·.size) = some (wordV a b c d).size := by kernel_rfl
theorem builtW : Try.prog.built 36 [] = some (wordV 0 0 0 0) := by kernel_rfl
set_option maxHeartbeats 1000000 in
set_option maxRecDepth 100000 in
theorem word_in (g N k : Nat) (ks : List Nat) (w : World) (hC : Cip w g N ks) (hk : k < 4 * (N + 1)) :
    Calls Try.prog 18 #[.pointer (some ⟨g, 0, none⟩), .int .i64 (k : Int)] w fun e w' => e = .returned (.agg (wordV (ks.getD (4 * k + 0) 0) (ks.getD (4 * k + 1) 0) (ks.getD (4 * k + 2) 0) (ks.getD (4 * k + 3) 0))) ∧ Below w.heap.size w w' := by
  have hN := hC.some_
  obtain ⟨a, ha⟩ : ∃ a, a = ks.getD (4 * k + 0) 0 := ⟨_, rfl⟩
  obtain ⟨b, hb⟩ : ∃ a, a = ks.getD (4 * k + 1) 0 := ⟨_, rfl⟩
  obtain ⟨c, hc⟩ : ∃ a, a = ks.getD (4 * k + 2) 0 := ⟨_, rfl⟩
  obtain ⟨d, hd⟩ : ∃ a, a = ks.getD (4 * k + 3) 0 := ⟨_, rfl⟩
  have k0 : w.cell? ⟨g, 513 + k * 4, none⟩ = some (.int .u8 (a : Int)) := by have := hC.keys (4 * k + 0) (by omega); rw [ha, ← this]; congr 2; omega
  have k1 : w.cell? ⟨g, 513 + k * 4 + 1, none⟩ = some (.int .u8 (b : Int)) := by have := hC.keys (4 * k + 1) (by omega); rw [hb, ← this]; congr 2; omega
  have k2 : w.cell? ⟨g, 513 + k * 4 + 2, none⟩ = some (.int .u8 (c : Int)) := by have := hC.keys (4 * k + 2) (by omega); rw [hc, ← this]; congr 2; omega
  have k3 : w.cell? ⟨g, 513 + k * 4 + 3, none⟩ = some (.int .u8 (d : Int)) := by have := hC.keys (4 * k + 3) (by omega); rw [hd, ← this]; congr 2; omega
  have al : ∀ o p, p.block = g → (w.alloc o).cell? p = w.cell? p := fun o p hp => World.cell?_alloc_lt w o p (by rw [hp]; exact hC.lt)
  have a0 : ∀ o, (w.alloc o).cell? ⟨g, 513 + k * 4, none⟩ = some (.int .u8 (a : Int)) := fun o => (al o _ rfl).trans k0
  have a1 : ∀ o, (w.alloc o).cell? ⟨g, 513 + k * 4 + 1, none⟩ = some (.int .u8 (b : Int)) := fun o => (al o _ rfl).trans k1
  have a2 : ∀ o, (w.alloc o).cell? ⟨g, 513 + k * 4 + 2, none⟩ = some (.int .u8 (c : Int)) := fun o => (al o _ rfl).trans k2
  have a3 : ∀ o, (w.alloc o).cell? ⟨g, 513 + k * 4 + 3, none⟩ = some (.int .u8 (d : Int)) := fun o => (al o _ rfl).trans k3
  have ar : ∀ o, (w.alloc o).cell? ⟨g, 512, none⟩ = some (.int .i64 (N : Int)) := fun o => (al o _ rfl).trans hC.rounds
  have d0 : decide ((k : Int) < 0) = false := decide_eq_false (by omega)
  have d1 : ((k : Int) < 4 * ((N : Int) + 1)) := by omega
  have HNN := Lib.hid (fun o => none_no g N ks (w.alloc o) (hC.next ((Below.refl _ _).alloc (Nat.le_refl _) o)))
  have HAT := Lib.hid (fun W => at_any g k (by omega) W)
  have hn0 := hN.1
  have hn1 := hN.2
  rw [← ha, ← hb, ← hc, ← hd]
  clear ha hb hc hd k0 k1 k2 k3 al hC hk hN
  go_enter Try.func18, Try.ntmps18
  go_wp2_with fail
  refine (HNN.out _).mono ?_
  rintro e w' ⟨rfl, rfl⟩
  go_wp2_with fail
  refine (HAT.out _).mono ?_
  rintro e w' ⟨rfl, rfl⟩
  go_wp2
  have hf := heap_alloc_new w (.cells (wordV a b c d) 36)
  exact bodyPost_ret (v := .agg (wordV a b c d)) (results_cell_row rfl _ _ _ 36 _ (0, 0) _ rfl hf Try.underlying36 rfl (infoW a b c d)) rfl ⟨rfl, (Below.refl _ _).alloc (Nat.le_refl _) _⟩
set_option maxHeartbeats 1000000 in
set_option maxRecDepth 100000 in
theorem word_out (g N : Nat) (k : Int) (ks : List Nat) (w : World) (hC : Cip w g N ks) (hk : k < 0 ∨ 4 * ((N : Int) + 1) ≤ k) :
    Calls Try.prog 18 #[.pointer (some ⟨g, 0, none⟩), .int .i64 k] w fun e w' => e = .returned (.agg (wordV 0 0 0 0)) ∧ Below w.heap.size w w' := by
  have hN := hC.some_
  have al : ∀ o p, p.block = g → (w.alloc o).cell? p = w.cell? p := fun o p hp => World.cell?_alloc_lt w o p (by rw [hp]; exact hC.lt)
  have ar : ∀ o, (w.alloc o).cell? ⟨g, 512, none⟩ = some (.int .i64 (N : Int)) := fun o => (al o _ rfl).trans hC.rounds
  have HNN := Lib.hid (fun o => none_no g N ks (w.alloc o) (hC.next ((Below.refl _ _).alloc (Nat.le_refl _) o)))
  have hn0 := hN.1
  have hn1 := hN.2
  have hf := heap_alloc_new w (.cells (wordV 0 0 0 0) 36)
  have HF := Lib.hid hf
  clear hf al hN hC
  rcases hk with hk | hk
  · have d0 : decide (k < 0) = true := decide_eq_true hk
    go_enter Try.func18, Try.ntmps18
    go_wp2_with fail
    refine (HNN.out _).mono ?_
    rintro e w' ⟨rfl, rfl⟩
    go_wp2
    exact bodyPost_ret (v := .agg (wordV 0 0 0 0)) (results_cell_row rfl _ _ _ 36 _ (0, 0) _ rfl HF.out Try.underlying36 rfl (infoW 0 0 0 0)) rfl ⟨rfl, (Below.refl _ _).alloc (Nat.le_refl _) _⟩
  · have d0 : decide (k < 0) = false := decide_eq_false (by omega)
    have d1 : ¬ k < 4 * ((N : Int) + 1) := by omega
    go_enter Try.func18, Try.ntmps18
    go_wp2_with fail
    refine (HNN.out _).mono ?_
    rintro e w' ⟨rfl, rfl⟩
    go_wp2
    exact bodyPost_ret (v := .agg (wordV 0 0 0 0)) (results_cell_row rfl _ _ _ 36 _ (0, 0) _ rfl HF.out Try.underlying36 rfl (infoW 0 0 0 0)) rfl ⟨rfl, (Below.refl _ _).alloc (Nat.le_refl _) _⟩
set_option maxHeartbeats 2000000 in
set_option maxRecDepth 100000 in
theorem aesWords_any (la lb : List Nat) (ha : la.length = 16) (hb : lb.length = 16) (ha2 : ∀ i, la.getD i 0 < 256) (hb2 : ∀ i, lb.getD i 0 < 256) (lg : Bool) (z : Int) (w : World) :
    Calls Try.prog 4 #[.agg (rowV (bF la) 16), .agg (rowV (bF lb) 16), .bool lg, .int .i64 z] w fun e w' => e = .returned (.bool true) ∧ Below w.heap.size w w' := by
  obtain ⟨n, N, ks, key, hkey, hnew, hkb, hN, -, -, hnN, hks, -⟩ := made la lb ha hb ha2 hb2 lg
  obtain ⟨ca, hca, hla⟩ := list_of (bF la) 16
  obtain ⟨cb, hcb, hlb⟩ := list_of (bF lb) 16
  have hia : (Try.prog.info? 22).map (·.size) = some ca.toArray.size := by rw [List.size_toArray]; exact info_list hla
  have hib : (Try.prog.info? 22).map (·.size) = some cb.toArray.size := by rw [List.size_toArray]; exact info_list hlb
  have e1 : ∀ o, (w.alloc o).heap.size = w.heap.size + 1 := fun o => by simp
  have hra := blk_alloc (heap_alloc_new w (.cells (rowV (bF la) 16) 22)) (.cells (rowV (bF lb) 16) 22)
  have hrb := heap_alloc_new (w.alloc (.cells (rowV (bF la) 16) 22)) (.cells (rowV (bF lb) 16) 22)
  rw [e1] at hrb
  have hb0 : Below w.heap.size w ((w.alloc (.cells (rowV (bF la) 16) 22)).alloc (.cells (rowV (bF lb) 16) 22)) := ((Below.refl _ _).alloc (Nat.le_refl _) _).alloc (by rw [e1]; omega) _
  have HKEY := Lib.hid hkey
  have HNEW := Lib.hid hnew
  unfold KeyGives at HKEY
  unfold NewGives at HNEW
  rw [← hca, ← hcb] at HKEY
  rw [← hca, ← hcb]
  rw [← hca, ← hcb] at hra hrb hb0
  have HRA := Lib.hid hra
  have HRB := Lib.hid hrb
  have HB0 := Lib.hid hb0
  have HIA := Lib.hid hia
  have HIB := Lib.hid hib
  have HREF := Lib.hid (fun b o c W h => ref_made hnN hks b o c W h)
  have HKB := Lib.hid hkb
  have HNN := Lib.hid hN
  have HKL : Hid (ks.length = 4 * (4 * (N + 1))) := Lib.hid (by rw [hks, Aes.sch_len])
  clear e1 hla hlb hkey hnew hca hcb hra hrb hb0 hia hib hks hnN hkb hN ha hb ha2 hb2
  go_enter Try.func4, Try.ntmps4
  go_wp2_with (first
    | (with_reducible refine wpList_load_row rfl 22 (.tmp 4) rfl _ rfl 22 _ _ _ HRA.out Try.underlying22 rfl HIA.out ?_)
    | (with_reducible refine wpList_load_row rfl 22 (.tmp 5) rfl _ rfl 22 _ _ _ HRB.out Try.underlying22 rfl HIB.out ?_))
  refine (HKEY.out _).mono ?_
  rintro e w1 ⟨b, o, c, rfl, hb1, hs1⟩
  have HB1 := Lib.hid (HB0.out.trans (hb1.mono HB0.out.size))
  have HS1 := Lib.hid hs1
  clear hb1 hs1 HRA HRB
  go_wp2_with fail
  refine (newBox_any _).mono ?_
  rintro e w2 ⟨rfl, hb2, hbx2⟩
  have HS2 := Lib.hid ((HS1.out.below hb2).more hb2.size)
  have HB2 := Lib.hid (HB1.out.trans (hb2.mono HB1.out.size))
  have HBX := Lib.hid hbx2
  clear hb2 hbx2
  go_wp2_with fail
  refine (HNEW.out _ _ _ _ _ HBX.out HS2.out).mono ?_
  rintro e w3 ⟨rfl, hc3, hb3, -⟩
  have HS3 := Lib.hid ((HS2.out.below hb3).more hb3.size)
  have HB3 := Lib.hid (HB2.out.trans (hb3.mono HB2.out.size))
  have HC3 := Lib.hid hc3
  clear hb3 hc3 HS1 HS2 HBX
  go_wp2_with fail
  refine (HREF.out _ _ _ _ HS3.out).mono ?_
  rintro e w4 ⟨v, rfl, hr⟩
  have HC4 := Lib.hid (HC3.out.next hr.below)
  have HB4 := Lib.hid (HB3.out.trans (hr.below.mono HB3.out.size))
  obtain ⟨bv, cap, rfl, hgb, hbv, hcn, hcx, hwc⟩ := hr.word (by omega)
  have kr := hr.rounds
  have kw := hr.words
  have hlt4 := hr.cells.lt
  generalize w2.heap.size = g0 at *
  generalize w3.heap.size = g4 at *
  have HWC := Lib.hid hwc
  have hcn' := hcn
  clear hr hwc HC3 HB3 HB2 HB1 HS3
  have al : ∀ oo p, p.block < w4.heap.size → (w4.alloc oo).cell? p = w4.cell? p := fun oo p hp => World.cell?_alloc_lt w4 oo p hp
  have kr1 : ∀ oo, (w4.alloc oo).cell? ⟨g4, 513, none⟩ = some (.int .i64 (N : Int)) := fun oo => (al oo _ hlt4).trans kr
  have kw1 : ∀ oo, (w4.alloc oo).cell? ⟨g4, 512, none⟩ = some (.slice (some ⟨bv, 0, none⟩) (4 * (N + 1)) cap) := fun oo => (al oo _ hlt4).trans kw
  have hN1 := HNN.out.1
  have hN2 := HNN.out.2
  rcases Int.lt_or_le z 0 with hz | hz
  · have dz : decide (0 ≤ z) = false := decide_eq_false (by omega)
    have HWO : Hid (∀ W, After (w4.alloc (.cells #[.int .u8 0, .int .u8 0, .int .u8 0, .int .u8 0] 36)) W → Calls Try.prog 18 #[.pointer (some ⟨g0, 0, none⟩), .int .i64 z] W fun e w' => e = .returned (.agg (wordV 0 0 0 0)) ∧ Below W.heap.size W w') := Lib.hid (fun W hW => word_out g0 N z ks W ((HC4.out.next ((Below.refl _ _).alloc (Nat.le_refl _) _)).next hW) (.inl hz))
    clear al kr kw
    have hbk : ∃ w5, w5 = w4.alloc (.cells (wordV 0 0 0 0) 36) := ⟨_, rfl⟩
    obtain ⟨w5, hw5⟩ := hbk
    obtain ⟨wl, hwl, hwll⟩ : ∃ l : List Value, l.toArray = wordV 0 0 0 0 ∧ l.length = 4 := ⟨(wordV 0 0 0 0).toList, by simp, rfl⟩
    have HWL := Lib.hid hwl
    have hil : (Try.prog.info? 36).map (·.size) = some wl.length := by rw [hwll]; kernel_rfl
    have HR9 : Hid (∀ W, After w5 W → W.rangeAt w4.heap.size 0 wl) := Lib.hid (fun W h => by
      have h0 : Row w5 w4.heap.size 36 (bF [0, 0, 0, 0]) 4 := by rw [hw5]; exact heap_alloc_new w4 _
      exact row_range (After.row h h0) (by rw [HWL.out]; exact wordV_row 0 0 0 0))
    have HB5 : Hid (Below w.heap.size w w5) := Lib.hid (by rw [hw5]; exact HB4.out.alloc HB4.out.size _)
    have HCIP : Hid (∀ W, After w5 W → Cip W g0 N ks) := Lib.hid (fun W h => by rw [hw5] at h; exact (HC4.out.next ((Below.refl _ _).alloc (Nat.le_refl _) _)).next h)
    have hq : ∀ W, (Op.equalIn 10000 36 (.agg (wordV 0 0 0 0)) (.agg (wordV 0 0 0 0))).run Try.prog W = .ok true W := fun W => by
      have := equal_row 36 4 Try.underlying36 [0, 0, 0, 0] [0, 0, 0, 0] rfl rfl W
      rw [decide_eq_true rfl] at this
      exact this
    have HKR : Hid (∀ W, After w5 W → W.cell? ⟨g4, 513, none⟩ = some (.int .i64 (N : Int))) := Lib.hid (fun W h => by
      rw [hw5] at h
      exact (h.cell (p := ⟨g4, 513, none⟩) (by show g4 < (w4.alloc _).heap.size; simp; omega)).trans (kr1 _))
    go_wp2_with fail
    have hw6 : w4.alloc (.cells #[.int .u8 0, .int .u8 0, .int .u8 0, .int .u8 0] 36) = w5 := hw5.symm
    rw [hw6] at HWO ⊢
    rw [← hwl] at HWO hq
    clear hw6 hw5 hwl hwll
    refine wp_region_class (After w5) (by kernel_rfl) (by kernel_rfl) (After.drew w5) ?_
    repeat (first
      | go_big_quiet_skip
      | (go_big_quiet_want; first
        | (with_reducible refine quiet_cell 3 _ rfl _ _ rfl (.int .i64 (N : Int)) _ (fun W h => HKR.out W h) Try.underlying3 rfl ?_; (simp only [Act.put, List.setIfInBounds_toArray, List.set_cons_zero, List.set_cons_succ]); go_big_quiet_on)
        | (with_reducible refine quiet_load 36 _ rfl _ _ rfl wl _ (fun W h => HR9.out W h) Try.underlying36 rfl hil ?_; (simp only [Act.put, List.setIfInBounds_toArray, List.set_cons_zero, List.set_cons_succ]); go_big_quiet_on)
        | (go_big_quiet_op; first
          | go_big_quiet_on
          | ((with_reducible refine ⟨_, fun _ _ => rfl, ?_⟩); go_big_quiet_on)
          | ((with_reducible refine ⟨_, fun _ _ => ⟨rfl, rfl⟩, ?_⟩); go_big_quiet_on)
          | ((with_reducible refine ⟨_, fun W hW => calls_after hW (HWO.out W hW), ?_⟩); go_big_quiet_on)
          | ((with_reducible refine ⟨_, fun W hW => (rounds_any g0 N ks W (HCIP.out W hW)).mono fun _ _ ⟨he, hw⟩ => ⟨he, by rw [← hw]; exact hW⟩, ?_⟩); go_big_quiet_on)
          | ((with_reducible refine ⟨_, fun W hW => calls_after hW (awake5_any W), ?_⟩); go_big_quiet_on))))
    refine wpQuiet_nil ?_
    intro W4 hW4
    go_wp2
    go_ret
    exact ⟨rfl, HB5.out.trans (hW4.mono HB5.out.size)⟩
  · by_cases hz2 : z < 4 * ((N : Int) + 1)
    · obtain ⟨k, rfl⟩ : ∃ k : Nat, z = (k : Int) := ⟨z.toNat, by omega⟩
      have dz : decide (0 ≤ (k : Int)) = true := decide_eq_true (by omega)
      have hk : k < 4 * (N + 1) := by omega
      obtain ⟨xa, hxa⟩ : ∃ a, a = ks.getD (4 * k + 0) 0 := ⟨_, rfl⟩
      obtain ⟨xb, hxb⟩ : ∃ a, a = ks.getD (4 * k + 1) 0 := ⟨_, rfl⟩
      obtain ⟨xc, hxc⟩ : ∃ a, a = ks.getD (4 * k + 2) 0 := ⟨_, rfl⟩
      obtain ⟨xd, hxd⟩ : ∃ a, a = ks.getD (4 * k + 3) 0 := ⟨_, rfl⟩
      have k0 : ∀ oo, (w4.alloc oo).cell? ⟨bv, k * 4, none⟩ = some (.int .u8 (xa : Int)) := fun oo => by rw [hxa, Nat.mul_comm k 4]; exact (al oo _ hbv).trans (HWC.out _ (by omega))
      have k1 : ∀ oo, (w4.alloc oo).cell? ⟨bv, k * 4 + 1, none⟩ = some (.int .u8 (xb : Int)) := fun oo => by rw [hxb, Nat.mul_comm k 4]; exact (al oo _ hbv).trans (HWC.out _ (by omega))
      have k2 : ∀ oo, (w4.alloc oo).cell? ⟨bv, k * 4 + 2, none⟩ = some (.int .u8 (xc : Int)) := fun oo => by rw [hxc, Nat.mul_comm k 4]; exact (al oo _ hbv).trans (HWC.out _ (by omega))
      have k3 : ∀ oo, (w4.alloc oo).cell? ⟨bv, k * 4 + 3, none⟩ = some (.int .u8 (xd : Int)) := fun oo => by rw [hxd, Nat.mul_comm k 4]; exact (al oo _ hbv).trans (HWC.out _ (by omega))
      have HWO : Hid (∀ W, After (w4.alloc (.cells #[.int .u8 (xa : Int), .int .u8 (xb : Int), .int .u8 (xc : Int), .int .u8 (xd : Int)] 36)) W → Calls Try.prog 18 #[.pointer (some ⟨g0, 0, none⟩), .int .i64 (k : Int)] W fun e w' => e = .returned (.agg (wordV xa xb xc xd)) ∧ Below W.heap.size W w') := Lib.hid (fun W hW => by
        rw [hxa, hxb, hxc, hxd]
        exact word_in g0 N k ks W ((HC4.out.next ((Below.refl _ _).alloc (Nat.le_refl _) _)).next hW) hk)
      clear hxa hxb hxc hxd
      clear al kr kw
      have hbk : ∃ w5, w5 = w4.alloc (.cells (wordV xa xb xc xd) 36) := ⟨_, rfl⟩
      obtain ⟨w5, hw5⟩ := hbk
      obtain ⟨wl, hwl, hwll⟩ : ∃ l : List Value, l.toArray = wordV xa xb xc xd ∧ l.length = 4 := ⟨(wordV xa xb xc xd).toList, by simp, rfl⟩
      have HWL := Lib.hid hwl
      have hil : (Try.prog.info? 36).map (·.size) = some wl.length := by rw [hwll]; kernel_rfl
      have HR9 : Hid (∀ W, After w5 W → W.rangeAt w4.heap.size 0 wl) := Lib.hid (fun W h => by
        have h0 : Row w5 w4.heap.size 36 (bF [xa, xb, xc, xd]) 4 := by rw [hw5]; exact heap_alloc_new w4 _
        exact row_range (After.row h h0) (by rw [HWL.out]; exact wordV_row xa xb xc xd))
      have HB5 : Hid (Below w.heap.size w w5) := Lib.hid (by rw [hw5]; exact HB4.out.alloc HB4.out.size _)
      have HCIP : Hid (∀ W, After w5 W → Cip W g0 N ks) := Lib.hid (fun W h => by rw [hw5] at h; exact (HC4.out.next ((Below.refl _ _).alloc (Nat.le_refl _) _)).next h)
      have hq : ∀ W, (Op.equalIn 10000 36 (.agg (wordV xa xb xc xd)) (.agg (wordV xa xb xc xd))).run Try.prog W = .ok true W := fun W => by
        have := equal_row 36 4 Try.underlying36 [xa, xb, xc, xd] [xa, xb, xc, xd] rfl rfl W
        rw [decide_eq_true rfl] at this
        exact this
      have HKR : Hid (∀ W, After w5 W → W.cell? ⟨g4, 513, none⟩ = some (.int .i64 (N : Int))) := Lib.hid (fun W h => by
        rw [hw5] at h
        exact (h.cell (p := ⟨g4, 513, none⟩) (by show g4 < (w4.alloc _).heap.size; simp; omega)).trans (kr1 _))
      go_wp2_with fail
      have hw6 : w4.alloc (.cells #[.int .u8 (xa : Int), .int .u8 (xb : Int), .int .u8 (xc : Int), .int .u8 (xd : Int)] 36) = w5 := hw5.symm
      rw [hw6] at HWO ⊢
      rw [← hwl] at HWO hq
      clear hw6 hw5 hwl hwll
      refine wp_region_class (After w5) (by kernel_rfl) (by kernel_rfl) (After.drew w5) ?_
      repeat (first
        | go_big_quiet_skip
        | (go_big_quiet_want; first
          | (with_reducible refine quiet_cell 3 _ rfl _ _ rfl (.int .i64 (N : Int)) _ (fun W h => HKR.out W h) Try.underlying3 rfl ?_; (simp only [Act.put, List.setIfInBounds_toArray, List.set_cons_zero, List.set_cons_succ]); go_big_quiet_on)
          | (with_reducible refine quiet_load 36 _ rfl _ _ rfl wl _ (fun W h => HR9.out W h) Try.underlying36 rfl hil ?_; (simp only [Act.put, List.setIfInBounds_toArray, List.set_cons_zero, List.set_cons_succ]); go_big_quiet_on)
          | (go_big_quiet_op; first
            | go_big_quiet_on
            | ((with_reducible refine ⟨_, fun _ _ => rfl, ?_⟩); go_big_quiet_on)
            | ((with_reducible refine ⟨_, fun _ _ => ⟨rfl, rfl⟩, ?_⟩); go_big_quiet_on)
            | ((with_reducible refine ⟨_, fun W hW => calls_after hW (HWO.out W hW), ?_⟩); go_big_quiet_on)
            | ((with_reducible refine ⟨_, fun W hW => (rounds_any g0 N ks W (HCIP.out W hW)).mono fun _ _ ⟨he, hw⟩ => ⟨he, by rw [← hw]; exact hW⟩, ?_⟩); go_big_quiet_on)
            | ((with_reducible refine ⟨_, fun W hW => calls_after hW (awake5_any W), ?_⟩); go_big_quiet_on))))
      refine wpQuiet_nil ?_
      intro W4 hW4
      go_wp2
      go_ret
      exact ⟨rfl, HB5.out.trans (hW4.mono HB5.out.size)⟩
    · have dz : decide (0 ≤ z) = true := decide_eq_true hz
      have HWO : Hid (∀ W, After (w4.alloc (.cells #[.int .u8 0, .int .u8 0, .int .u8 0, .int .u8 0] 36)) W → Calls Try.prog 18 #[.pointer (some ⟨g0, 0, none⟩), .int .i64 z] W fun e w' => e = .returned (.agg (wordV 0 0 0 0)) ∧ Below W.heap.size W w') := Lib.hid (fun W hW => word_out g0 N z ks W ((HC4.out.next ((Below.refl _ _).alloc (Nat.le_refl _) _)).next hW) (.inr (by omega)))
      clear al kr kw
      have hbk : ∃ w5, w5 = w4.alloc (.cells (wordV 0 0 0 0) 36) := ⟨_, rfl⟩
      obtain ⟨w5, hw5⟩ := hbk
      obtain ⟨wl, hwl, hwll⟩ : ∃ l : List Value, l.toArray = wordV 0 0 0 0 ∧ l.length = 4 := ⟨(wordV 0 0 0 0).toList, by simp, rfl⟩
      have HWL := Lib.hid hwl
      have hil : (Try.prog.info? 36).map (·.size) = some wl.length := by rw [hwll]; kernel_rfl
      have HR9 : Hid (∀ W, After w5 W → W.rangeAt w4.heap.size 0 wl) := Lib.hid (fun W h => by
        have h0 : Row w5 w4.heap.size 36 (bF [0, 0, 0, 0]) 4 := by rw [hw5]; exact heap_alloc_new w4 _
        exact row_range (After.row h h0) (by rw [HWL.out]; exact wordV_row 0 0 0 0))
      have HB5 : Hid (Below w.heap.size w w5) := Lib.hid (by rw [hw5]; exact HB4.out.alloc HB4.out.size _)
      have HCIP : Hid (∀ W, After w5 W → Cip W g0 N ks) := Lib.hid (fun W h => by rw [hw5] at h; exact (HC4.out.next ((Below.refl _ _).alloc (Nat.le_refl _) _)).next h)
      have hq : ∀ W, (Op.equalIn 10000 36 (.agg (wordV 0 0 0 0)) (.agg (wordV 0 0 0 0))).run Try.prog W = .ok true W := fun W => by
        have := equal_row 36 4 Try.underlying36 [0, 0, 0, 0] [0, 0, 0, 0] rfl rfl W
        rw [decide_eq_true rfl] at this
        exact this
      have HKR : Hid (∀ W, After w5 W → W.cell? ⟨g4, 513, none⟩ = some (.int .i64 (N : Int))) := Lib.hid (fun W h => by
        rw [hw5] at h
        exact (h.cell (p := ⟨g4, 513, none⟩) (by show g4 < (w4.alloc _).heap.size; simp; omega)).trans (kr1 _))
      go_wp2_with fail
      have hw6 : w4.alloc (.cells #[.int .u8 0, .int .u8 0, .int .u8 0, .int .u8 0] 36) = w5 := hw5.symm
      rw [hw6] at HWO ⊢
      rw [← hwl] at HWO hq
      clear hw6 hw5 hwl hwll
      refine wp_region_class (After w5) (by kernel_rfl) (by kernel_rfl) (After.drew w5) ?_
      repeat (first
        | go_big_quiet_skip
        | (go_big_quiet_want; first
          | (with_reducible refine quiet_cell 3 _ rfl _ _ rfl (.int .i64 (N : Int)) _ (fun W h => HKR.out W h) Try.underlying3 rfl ?_; (simp only [Act.put, List.setIfInBounds_toArray, List.set_cons_zero, List.set_cons_succ]); go_big_quiet_on)
          | (with_reducible refine quiet_load 36 _ rfl _ _ rfl wl _ (fun W h => HR9.out W h) Try.underlying36 rfl hil ?_; (simp only [Act.put, List.setIfInBounds_toArray, List.set_cons_zero, List.set_cons_succ]); go_big_quiet_on)
          | (go_big_quiet_op; first
            | go_big_quiet_on
            | ((with_reducible refine ⟨_, fun _ _ => rfl, ?_⟩); go_big_quiet_on)
            | ((with_reducible refine ⟨_, fun _ _ => ⟨rfl, rfl⟩, ?_⟩); go_big_quiet_on)
            | ((with_reducible refine ⟨_, fun W hW => calls_after hW (HWO.out W hW), ?_⟩); go_big_quiet_on)
            | ((with_reducible refine ⟨_, fun W hW => (rounds_any g0 N ks W (HCIP.out W hW)).mono fun _ _ ⟨he, hw⟩ => ⟨he, by rw [← hw]; exact hW⟩, ?_⟩); go_big_quiet_on)
            | ((with_reducible refine ⟨_, fun W hW => calls_after hW (awake5_any W), ?_⟩); go_big_quiet_on))))
      refine wpQuiet_nil ?_
      intro W4 hW4
      go_wp2
      go_ret
      exact ⟨rfl, HB5.out.trans (hW4.mono HB5.out.size)⟩
end Go.Proofs.Ytplapepgedagoaa
