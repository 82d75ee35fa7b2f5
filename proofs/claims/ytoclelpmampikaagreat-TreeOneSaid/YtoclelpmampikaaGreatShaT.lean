/-
  The document's own sum.
-/
import Derived.Test.YtoclelpmampikaaGreatShaQ
import Derived.Test.YtoclelpmampikaaGreatShaJ
import Derived.Test.YtoclelpmampikaaGreatShaH
namespace Go.Proofs.YtoclelpmampikaaGreat
open Go.RowKit Go
set_option linter.unusedVariables false
theorem cut_chunk (A : Option Addr) (n c i j : Nat) (hij : i ≤ j) (hj : j ≤ c) (W : World) : (Instr.slice 89 (.slice A n c) (some (.int .i64 (i : Int))) (some (.int .i64 (j : Int))) none).run Tryz.prog W = .ok (.slice (cutA A c i) (j - i) (c - i)) W := by
  obtain ⟨q, hi', hz⟩ := Option.map_eq_some_iff.mp size_u8
  unfold cutA
  simp [Instr.slice, Instr.sliceBounds, Instr.sliceBound, run_underlying Tryz.underlying89, asIntOf, go_sem, sizeOf, typeInfo, hi', hz]
  rw [if_pos hj, if_pos hij]
def RsRel (w : World) (gs L c2 : Nat) (A2 : Option Addr) (b : List Nat) (v : Value) (wr : World) : Prop :=
  ∃ k : Nat, v = .int .i64 ((64 * k : Nat) : Int) ∧ 64 * k ≤ L ∧ Below w.heap.size w wr ∧ wr.heap[w.heap.size]? = some (.cells (zeros 32) 33 (0, 0)) ∧ BS wr gs A2 L c2 b ∧ w.heap.size < gs ∧
    wr.heap[gs]? = some (.cells (stA (Sha.blocks Sha.first b k)) 149 (0, 0))
theorem pad_mod (n : Nat) : (n + (Sha.pad n).length) % 64 = 0 := by
  unfold Sha.pad
  simp only [List.length_append, List.length_cons, List.length_replicate, List.length_reverse, putL_len]
  omega
theorem st_size (s : Sha.St) : (stA s).size = 8 := rfl
theorem plain_u32 : Tryz.prog.plainKey 78 = true := by kernel_rfl
theorem cells_u32 : Tryz.prog.cellsOf 78 = 1 := by kernel_rfl
theorem info_u32 : (Tryz.prog.info? 78).isSome = true := by kernel_rfl
def RdRel (w : World) (go : Nat) (D : Sha.St) (v : Value) (wr : World) : Prop :=
  ∃ k : Nat, v = .int .i64 (k : Int) ∧ k ≤ 8 ∧ Below w.heap.size w wr ∧ w.heap.size < go ∧ wr.heap[w.heap.size]? = some (.cells (zeros 32) 33 (0, 0)) ∧ Row wr go 33 (digF D k) 32
theorem rd_step {w wr : World} {go k : Nat} {D : Sha.St} {x : Nat} (hk : k < 8) (hx : D.at_ k = x) (hb : Below w.heap.size w wr) (hg : w.heap.size < go) (h0 : wr.heap[w.heap.size]? = some (.cells (zeros 32) 33 (0, 0))) (hr : Row wr go 33 (digF D k) 32) :
    RdRel w go D (.int .i64 ((k : Int) + 1)) ((((wr.setCell ⟨go, 4 * k, none⟩ (u8 (x / 16777216 % 256))).setCell ⟨go, 4 * k + 1, none⟩ (u8 (x / 65536 % 256))).setCell ⟨go, 4 * k + 2, none⟩ (u8 (x / 256 % 256))).setCell ⟨go, 4 * k + 3, none⟩ (u8 (x % 256))) := by
  subst hx
  refine ⟨k + 1, rfl, by omega, ?_, hg, ?_, ?_⟩
  · exact (((hb.setCell (by show w.heap.size ≤ go; omega) _).setCell (by show w.heap.size ≤ go; omega) _).setCell (by show w.heap.size ≤ go; omega) _).setCell (by show w.heap.size ≤ go; omega) _
  · have hne : w.heap.size ≠ go := by omega
    exact blk_far (blk_far (blk_far (blk_far h0 (p := ⟨go, 4 * k, none⟩) hne _) (p := ⟨go, 4 * k + 1, none⟩) hne _) (p := ⟨go, 4 * k + 2, none⟩) hne _) (p := ⟨go, 4 * k + 3, none⟩) hne _
  · refine ((((hr.set_ (4 * k) _).set_ (4 * k + 1) _).set_ (4 * k + 2) _).set_ (4 * k + 3) _).congr fun i hi => ?_
    have r4 : ∀ r, r < 4 → (Sha.digest D).getD (4 * k + r) 0 = D.at_ k / 256 ^ (3 - r) % 256 := fun r hr => by
      rw [dig_at D hk hr, reverse_at _ _ (by rw [putL_len]; exact hr), putL_len, putL_at, if_pos (by omega)]
    unfold digF
    by_cases c : i < 4 * k
    · rw [if_neg (by omega), if_neg (by omega), if_neg (by omega), if_neg (by omega), if_pos c, if_pos (by omega)]
    · by_cases c4 : i < 4 * (k + 1)
      · obtain ⟨r, rfl⟩ : ∃ r, i = 4 * k + r := ⟨i - 4 * k, by omega⟩
        rw [if_pos c4, r4 r (by omega)]
        rcases (by omega : r = 0 ∨ r = 1 ∨ r = 2 ∨ r = 3) with rfl | rfl | rfl | rfl
        · rw [if_neg (by omega), if_neg (by omega), if_neg (by omega), if_pos (by omega)]
        · rw [if_neg (by omega), if_neg (by omega), if_pos rfl]
        · rw [if_neg (by omega), if_pos rfl]
        · rw [if_pos rfl]; simp
      · rw [if_neg (by omega), if_neg (by omega), if_neg (by omega), if_neg (by omega), if_neg c, if_neg c4]
theorem info_d32 {cs : Array Value} (h : cs.size = 32) : (Tryz.prog.info? 33).map (·.size) = some cs.size := by
  rw [h]; kernel_rfl
theorem rd_step2 {w wr : World} {go k : Nat} {D : Sha.St} {x : Nat} (hxl : x < 4294967296) (hk : k < 8) (hx : D.at_ k = x) (hb : Below w.heap.size w wr) (hg : w.heap.size < go) (h0 : wr.heap[w.heap.size]? = some (.cells (zeros 32) 33 (0, 0))) (hr : Row wr go 33 (digF D k) 32) :
    RdRel w go D (.int .i64 ((k : Int) + 1)) ((((wr.setCell ⟨go, 4 * k, none⟩ (.int .u8 ((x : Int) / 16777216))).setCell ⟨go, 4 * k + 1, none⟩ (.int .u8 ((x : Int) / 65536 % 256))).setCell ⟨go, 4 * k + 2, none⟩ (.int .u8 ((x : Int) / 256 % 256))).setCell ⟨go, 4 * k + 3, none⟩ (.int .u8 ((x : Int) % 256))) := by
  have hn0 := rd_step hk hx hb hg h0 hr
  have e0 : u8 (x / 16777216 % 256) = .int .u8 ((x : Int) / 16777216) := by unfold u8; congr 1; omega
  have e1 : u8 (x / 65536 % 256) = .int .u8 ((x : Int) / 65536 % 256) := by unfold u8; congr 1
  have e2 : u8 (x / 256 % 256) = .int .u8 ((x : Int) / 256 % 256) := by unfold u8; congr 1
  have e3 : u8 (x % 256) = .int .u8 ((x : Int) % 256) := by unfold u8; congr 1
  rw [e0, e1, e2, e3] at hn0
  exact hn0
theorem zero32 (w : World) : (zeroValue 33).run Tryz.prog w = .ok (.agg (zeros 32)) w := by kernel_rfl
set_option maxHeartbeats 1000000 in
set_option maxRecDepth 100000 in
theorem refSum_any (A : Option Addr) (n c : Nat) (l : List Nat) (w : World) (hs : BS w w.heap.size A n c l) (hA : A = none → c = 0) (hn : n ≤ 900000) :
    Calls Tryz.prog 74 #[.slice A n c] w fun e w' => e = .returned (.agg (digA l)) ∧ Below w.heap.size w w' := by
  have hz := zero32
  have hB0 : Below w.heap.size w ((w.alloc (.cells (zeros 32) 33)).alloc (.cells #[] 5)) := ((Below.refl _ _).alloc (Nat.le_refl _) _).alloc (by simp) _
  have hx0 := blk_alloc (heap_alloc_new w (.cells (zeros 32) 33)) (.cells #[] 5)
  have hy0 := heap_alloc_new (w.alloc (.cells (zeros 32) 33)) (.cells #[] 5)
  have es : (w.alloc (.cells (zeros 32) 33)).heap.size = w.heap.size + 1 := by simp
  rw [es] at hy0
  have hsz : ((w.alloc (.cells (zeros 32) 33)).alloc (.cells #[] 5)).heap.size = w.heap.size + 2 := by simp
  have HO0 : Hid (Own ((w.alloc (.cells (zeros 32) 33)).alloc (.cells #[] 5)) (w.heap.size + 1) (.slice (some ⟨w.heap.size + 1, 0, none⟩) 0 0) []) :=
    Lib.hid (Own.blk (Nat.le_refl _) hy0 rfl (by omega) (by unfold maxLen; omega) rfl rfl)
  have HS0 := Lib.hid (hs.below hB0)
  have HA := Lib.hid hA
  have HB0 := Lib.hid hB0
  have HX0 := Lib.hid hx0
  have HSZ := Lib.hid hsz
  have HLEN := hs.len
  have HBY := Lib.hid hs.byte
  have HR := Lib.hid (fun W => refPad_yes n (by omega) W)
  clear hs hA hB0 hx0 hy0 es hsz
  go_enter Tryz.func74, Tryz.ntmps74
  go_wp2_with (at_builtin; refine wp_apps _ rfl (.tmp 9) (.tmp 10) rfl (w.heap.size + 1) (.slice (some ⟨w.heap.size + 1, 0, none⟩) 0 0) [] rfl HO0.out _ A n c l rfl HS0.out HA.out (by simp; omega) (by rw [HSZ.out]; omega) ?_; intro v1 w1 hown1 hb1)
  generalize (w.alloc (.cells (zeros 32) 33)).alloc (.cells #[] 5) = W0 at *
  have hB1 : Below w.heap.size w w1 := HB0.out.trans (hb1.mono (by omega))
  have hx1 := (hb1.block w.heap.size (by omega)).trans HX0.out
  have HB1 := Lib.hid hB1
  have HX1 := Lib.hid hx1
  have HO1 : Hid (Own w1 (w.heap.size + 1) v1 l) := Lib.hid hown1
  have hlt1 : w.heap.size + 1 ≤ w1.heap.size := by have := hb1.size; have := HSZ.out; omega
  clear hB1 hx1 hown1 hb1 HO0 HS0 HA HB0 HX0 hz
  refine (HR.out _).mono ?_
  rintro e w2 ⟨A2, c2, rfl, hb2, hbs2, hnew⟩
  have hB2 : Below w.heap.size w w2 := HB1.out.trans (hb2.mono (by omega))
  have hx2 := (hb2.block w.heap.size (by omega)).trans HX1.out
  have HB2 := Lib.hid hB2
  have HX2 := Lib.hid hx2
  have HO2 : Hid (Own w2 (w.heap.size + 1) v1 l) := Lib.hid (HO1.out.below hb2)
  have HPL := pad_len n
  have HBS2 := Lib.hid hbs2
  have hsz2 : w.heap.size + 1 ≤ w2.heap.size := by have := hb2.size; omega
  have hpl0 : 0 < (Sha.pad n).length := by unfold Sha.pad; simp
  have hA2 : A2 = none → c2 = 0 := fun h => by
    obtain ⟨b, o, e, _⟩ := hbs2.at_ hpl0
    rw [h] at e; cases e
  have HA2 := Lib.hid hA2
  clear hA2 hpl0
  clear hB2 hx2 hb2 hbs2 hnew HB1 HX1 HO1 HR HSZ
  have hlen2 : l.length + (Sha.pad n).length < 1000000000 := by omega
  have HL2 := Lib.hid hlen2
  clear hlen2
  go_wp2_with (at_builtin; refine wp_apps _ rfl (.tmp 11) (.tmp 14) rfl (w.heap.size + 1) v1 l rfl HO2.out _ A2 _ c2 (Sha.pad n) rfl HBS2.out HA2.out HL2.out hsz2 ?_; intro v3 w3 hown3 hb3)
  have hB3 : Below w.heap.size w w3 := HB2.out.trans (hb3.mono (by omega))
  have hx3 := (hb3.block w.heap.size (by omega)).trans HX2.out
  have hby : ∀ i, (l ++ Sha.pad n).getD i 0 < 256 := byte_app HBY.out (pad_byte n)
  obtain ⟨A3, c3, rfl, hbs3⟩ := hown3.bs hby
  have hsz3 : w.heap.size + 1 ≤ w3.heap.size := by have := hb3.size; omega
  have HB3 := Lib.hid hB3
  have HX3 := Lib.hid hx3
  have HBS3 := Lib.hid hbs3
  have HBY3 := Lib.hid hby
  clear hB3 hx3 hby hown3 hb3 hbs3 HB2 HX2 HO2 HBS2 HA2 hsz2 HBY
  have hmod : (l ++ Sha.pad n).length % 64 = 0 := by rw [List.length_append, HLEN]; exact pad_mod n
  have hbl : (l ++ Sha.pad n).length ≤ 1000000 := by rw [List.length_append]; omega
  have HDG : Hid (rowV (digF (Sha.blocks Sha.first (l ++ Sha.pad n) ((l ++ Sha.pad n).length / 64)) 8) 32 = digA l) := Lib.hid (by have := dig_end l; rw [HLEN] at this; exact this)
  refine (firsts_any _).mono ?_
  rintro e w4 ⟨rfl, hb4⟩
  have HI := Lib.hid (info_st Sha.first)
  have HON := Lib.hid (one_st Sha.first)
  have hgs := setRow_heap (w4.alloc (.cells z8 149)) w4.heap.size _ (stA Sha.first) _ _ (heap_alloc_new w4 (.cells z8 149))
  have hb5 : Below w3.heap.size w3 ((w4.alloc (.cells z8 149)).setRow w4.heap.size (stA Sha.first)) := below_setRow (hb4.alloc hb4.size _) hb4.size _
  have hsz4 : w.heap.size < w4.heap.size := by have := hb4.size; omega
  have hbs5 : BS ((w4.alloc (.cells z8 149)).setRow w4.heap.size (stA Sha.first)) w4.heap.size A3 _ c3 _ := (HBS3.out.below hb5).more hb4.size
  have H0 : Hid (RsRel w w4.heap.size (l ++ Sha.pad n).length c3 A3 (l ++ Sha.pad n) (.int .i64 0) ((w4.alloc (.cells z8 149)).setRow w4.heap.size (stA Sha.first))) :=
    Lib.hid ⟨0, rfl, by omega, HB3.out.trans (hb5.mono (by omega)), (hb5.block w.heap.size (by omega)).trans HX3.out, hbs5, hsz4, hgs⟩
  clear hgs hb5 hbs5 HB3 HX3 HBS3 hsz3
  unfold z8 at H0
  have hbL : (l ++ Sha.pad n).length = n + (Sha.pad n).length := by rw [List.length_append, HLEN]
  rw [hbL] at hmod hbl HDG H0
  have HBL := Lib.hid hbL
  obtain ⟨L, hL⟩ : ∃ L, L = n + (Sha.pad n).length := ⟨_, rfl⟩
  rw [← hL] at hmod hbl HDG H0 HBL
  obtain ⟨b, hb⟩ : ∃ b, b = l ++ Sha.pad n := ⟨_, rfl⟩
  rw [← hb] at HDG H0 HBL HBY3
  have hLi : (n : Int) + ((Sha.pad n).length : Int) = (L : Int) := by omega
  clear hbL hb HPL HL2
  go_wp2_with (with_reducible refine wpList_store_row rfl 149 (.tmp 4) (.tmp 16) rfl _ _ rfl rfl 149 _ (heap_alloc_new w4 _) HI.out rfl HON.out ?_)
  generalize (w4.alloc (.cells #[.int .u32 0, .int .u32 0, .int .u32 0, .int .u32 0, .int .u32 0, .int .u32 0, .int .u32 0, .int .u32 0] 149)).setRow w4.heap.size (stA Sha.first) = W5 at *
  generalize w4.heap.size = gs at *
  rw [← hL]
  clear hL hLi HON HI hsz4 hb4
  go_loopw [5] (fun v wr => RsRel w gs L c3 A3 b v wr) (fun v _ => (L - intOf v).toNat)
  case atStart => exact H0.out
  case round =>
    obtain ⟨k, rfl, hk, hbw, hx, hbs, hgs, hst⟩ := hrel
    have HB := Lib.hid hbw
    have HX := Lib.hid hx
    have HBS := Lib.hid hbs
    have HST := Lib.hid hst
    clear hbw hx hbs hst H0
    obtain ⟨i, hi⟩ : ∃ i, i = 64 * k := ⟨_, rfl⟩
    by_cases hlt : 64 * k < L
    · rw [← hi] at hlt hk ⊢
      have h64 : i + 64 ≤ L := by omega
      have HIK := Lib.hid hi
      have hcap := HBS.out.cap
      have q1 : IntKind.i64.wrap ((i : Int) + 64) = (i : Int) + 64 := IntWalk.i64_in _ (by omega)
      have hsl : ∀ W : World, (Instr.slice 89 (.slice A3 L c3) (some (.int .i64 (i : Int))) (some (.int .i64 ((i : Int) + 64))) none).run Tryz.prog W = .ok (.slice (cutA A3 c3 i) 64 (c3 - i)) W := fun W => by
        have h := cut_chunk A3 L c3 i (i + 64) (by omega) (by omega) W
        rw [Nat.add_sub_cancel_left] at h
        exact h
      have hok : (Sha.blocks Sha.first b k).Ok := Sha.blocks_ok Sha.first_ok _ _
      obtain ⟨W2, hW2⟩ : ∃ W2 : World, W2 = wr.drew := ⟨_, rfl⟩
      have HW2 := Lib.hid hW2
      have hch : BS W2 W2.heap.size (cutA A3 c3 i) 64 (c3 - i) ((b.drop i).take 64) := by
        rw [hW2]
        exact ((HBS.out.cut (k := i) (by omega)).take (by omega)).more (Nat.le_of_lt (blk_lt HST.out))
      have HCH := Lib.hid hch
      have HB2 : Hid (Below w.heap.size w W2) := Lib.hid (by rw [hW2]; exact ⟨HB.out.os, HB.out.tape, HB.out.output, HB.out.size, HB.out.block⟩)
      have HX2 : Hid (W2.heap[w.heap.size]? = some (.cells (zeros 32) 33 (0, 0))) := Lib.hid (by rw [hW2]; exact HX.out)
      have HBS2 : Hid (BS W2 gs A3 L c3 b) := Lib.hid (by rw [hW2]; exact HBS.out)
      have HST2 : Hid (W2.heap[gs]? = some (.cells (stA (Sha.blocks Sha.first b k)) 149 (0, 0))) := Lib.hid (by rw [hW2]; exact HST.out)
      clear hW2 hch HB HX HBS HST
      have HBK : Hid (Sha.blocks Sha.first b (k + 1) = Sha.block (Sha.blocks Sha.first b k) ((b.drop i).take 64)) := Lib.hid (by rw [hi]; rfl)
      clear hi
      obtain ⟨s, hs⟩ : ∃ s, s = Sha.blocks Sha.first b k := ⟨_, rfl⟩
      rw [← hs] at hok HST2 HBK
      clear hs
      have k0 := (blk_cell HST2.out 0).trans (stA_at s (by omega))
      have k1 := (blk_cell HST2.out 1).trans (stA_at s (by omega))
      have k2 := (blk_cell HST2.out 2).trans (stA_at s (by omega))
      have k3 := (blk_cell HST2.out 3).trans (stA_at s (by omega))
      have k4 := (blk_cell HST2.out 4).trans (stA_at s (by omega))
      have k5 := (blk_cell HST2.out 5).trans (stA_at s (by omega))
      have k6 := (blk_cell HST2.out 6).trans (stA_at s (by omega))
      have k7 := (blk_cell HST2.out 7).trans (stA_at s (by omega))
      go_wp2
      refine wp_region_qtail 6 W2 HW2.out (by kernel_rfl) (by kernel_rfl) ?_
      simp only [List.take_succ_cons, List.take_zero, List.drop_succ_cons, List.drop_zero]
      clear HW2
      repeat (first
        | go_big_quiet_skip
        | (go_big_quiet_want; go_big_quiet_op; go_big_quiet_on))
      refine wpQuiet_nil ?_
      clear k0 k1 k2 k3 k4 k5 k6 k7
      go_wp2_with fail
      refine (refBlock_any s hok _ _ _ _ HCH.out).mono ?_
      rintro e w6 ⟨rfl, hb6⟩
      have hlt2 := blk_lt HST2.out
      have hgsb : w.heap.size ≤ gs := by omega
      have h6 : w6.heap[gs]? = some (.cells (stA s) 149 (0, 0)) := (hb6.block gs hlt2).trans HST2.out
      have hb7 : Below gs W2 (w6.setRow gs (stA (Sha.block s ((b.drop i).take 64)))) := below_setRow (hb6.mono (Nat.le_of_lt hlt2)) (Nat.le_refl _) _
      have hb8 : Below w.heap.size w (w6.setRow gs (stA (Sha.block s ((b.drop i).take 64)))) := HB2.out.trans (hb7.mono hgsb)
      have hst8 := setRow_heap w6 gs _ (stA (Sha.block s ((b.drop i).take 64))) _ _ h6
      have hx8 := (hb7.block w.heap.size hgs).trans HX2.out
      have hbs8 := HBS2.out.below hb7
      rw [← HBK.out] at hst8 hb8 hx8 hbs8
      have HN : Hid (RsRel w gs L c3 A3 b (.int .i64 ((i : Int) + 64)) (w6.setRow gs (stA (Sha.blocks Sha.first b (k + 1))))) := Lib.hid ⟨k + 1, by congr 1; have := HIK.out; omega, by have := HIK.out; omega, hb8, hx8, hbs8, hgs, hst8⟩
      have H6 := Lib.hid h6
      have HIB := Lib.hid (info_st (Sha.blocks Sha.first b (k + 1)))
      have HOB := Lib.hid (one_st (Sha.blocks Sha.first b (k + 1)))
      have HSZ : Hid ((stA s).size = (stA (Sha.blocks Sha.first b (k + 1))).size) := Lib.hid (by rw [st_size, st_size])
      rw [← HBK.out]
      clear hb6 h6 hb7 hb8 hst8 hx8 hbs8 HB2 HX2 HBS2 HST2 HCH HBK hsl q1
      generalize stA (Sha.blocks Sha.first b (k + 1)) = sn at *
      go_wp2_with (with_reducible refine wpList_store_row rfl 149 (.tmp 4) (.tmp 29) rfl _ _ rfl rfl 149 _ H6.out HIB.out HSZ.out HOB.out ?_)
      go_roundw
      case rel => exact HN.out
      case measure => simp [intOf]; omega
    · have hkl : 64 * k = L := by omega
      have hk64 : L / 64 = k := by omega
      rw [hk64] at HDG
      obtain ⟨D, hD⟩ : ∃ D, D = Sha.blocks Sha.first b k := ⟨_, rfl⟩
      rw [← hD] at HDG HST
      have HLT := Lib.hid hkl
      have hok : D.Ok := by rw [hD]; exact Sha.blocks_ok Sha.first_ok _ _
      have hg2 := blk_lt HST.out
      have k0 := (blk_cell HST.out 0).trans (stA_at D (by omega))
      have k1 := (blk_cell HST.out 1).trans (stA_at D (by omega))
      have k2 := (blk_cell HST.out 2).trans (stA_at D (by omega))
      have k3 := (blk_cell HST.out 3).trans (stA_at D (by omega))
      have k4 := (blk_cell HST.out 4).trans (stA_at D (by omega))
      have k5 := (blk_cell HST.out 5).trans (stA_at D (by omega))
      have k6 := (blk_cell HST.out 6).trans (stA_at D (by omega))
      have k7 := (blk_cell HST.out 7).trans (stA_at D (by omega))
      have hz := zero32
      clear hkl hk64 hD hi
      have hge : ¬ ((64 * k : Nat) : Int) < (L : Int) := by omega
      have hgo : w.heap.size < wr.heap.size := by omega
      have h0 := blk_alloc HX.out (.cells (zeros 32) 33)
      have hrow : Row (wr.alloc (.cells (zeros 32) 33)) wr.heap.size 33 (digF D 0) 32 := by
        have h := heap_alloc_new wr (.cells (zeros 32) 33)
        unfold Row
        rw [← dig_zero D]
        exact h
      have HR0 : Hid (RdRel w wr.heap.size D (.int .i64 0) (wr.alloc (.cells (zeros 32) 33))) := Lib.hid ⟨0, rfl, by omega, HB.out.alloc HB.out.size _, hgo, h0, hrow⟩
      have HATS := Lib.hid (fun j (hj : j < 8) => at_ok hok hj)
      clear h0 hrow HB HX HBS HST hgo
      go_wp2_with fail
      clear hg2
      generalize wr.alloc (.cells (zeros 32) 33) = W7 at *
      generalize wr.heap.size = go at *
      clear hge k0 k1 k2 k3 k4 k5 k6 k7 hz
      go_loopw [31] (fun v wr => RdRel w go D v wr) (fun v _ => (8 - intOf v).toNat)
      case atStart => exact HR0.out
      case round =>
        obtain ⟨j, rfl, hj, hb, hg, h0, hr⟩ := hrel
        have HB := Lib.hid hb
        have H0 := Lib.hid h0
        have HR := Lib.hid hr
        clear hb h0 hr HR0
        by_cases hlt : j < 8
        · obtain ⟨x, hx⟩ : ∃ x, D.at_ j = x := ⟨_, rfl⟩
          have hi : ∀ W : World, (Instr.index 149 (.agg #[.int .u32 ((D.at_ 0 : Nat) : Int), .int .u32 ((D.at_ 1 : Nat) : Int), .int .u32 ((D.at_ 2 : Nat) : Int), .int .u32 ((D.at_ 3 : Nat) : Int), .int .u32 ((D.at_ 4 : Nat) : Int), .int .u32 ((D.at_ 5 : Nat) : Int), .int .u32 ((D.at_ 6 : Nat) : Int), .int .u32 ((D.at_ 7 : Nat) : Int)]) (.int .i64 (j : Int))).run Tryz.prog W = .ok (.int .u32 (x : Int)) W := fun W => by
            rw [← hx]
            exact run_index_arr 149 78 8 _ j _ W Tryz.underlying149 plain_u32 cells_u32 info_u32 hlt (stA_at D hlt)
          have hxl : x < 4294967296 := by rw [← hx]; exact HATS.out j hlt
          have HN := Lib.hid (rd_step2 hxl hlt hx HB.out hg H0.out HR.out)
          have c0 : wr.cell? ⟨go, 4 * j, none⟩ = some (digF D j (4 * j)) := HR.out.cell (by omega)
          have c1 : wr.cell? ⟨go, 4 * j + 1, none⟩ = some (digF D j (4 * j + 1)) := HR.out.cell (by omega)
          have c2' : wr.cell? ⟨go, 4 * j + 2, none⟩ = some (digF D j (4 * j + 2)) := HR.out.cell (by omega)
          have c3' : wr.cell? ⟨go, 4 * j + 3, none⟩ = some (digF D j (4 * j + 3)) := HR.out.cell (by omega)
          have f0 := HR.out.free (4 * j)
          have f1 := HR.out.free (4 * j + 1)
          have f2 := HR.out.free (4 * j + 2)
          have f3 := HR.out.free (4 * j + 3)
          generalize digF D j (4 * j) = o0 at *
          generalize digF D j (4 * j + 1) = o1 at *
          generalize digF D j (4 * j + 2) = o2 at *
          generalize digF D j (4 * j + 3) = o3 at *
          clear HB H0 HR hx
          go_wp2
          go_roundw
          case rel => exact HN.out
          case measure => simp [intOf]; omega
        · obtain rfl : j = 8 := by omega
          have hx2' : wr.heap[go]? = some (.cells (rowV (digF D 8) 32) 33 (0, 0)) := HR.out
          rw [HDG.out] at hx2'
          have hzs : (digA l).size = 32 := by unfold digA; rw [rowV_size]
          have HX3 := Lib.hid hx2'
          have HI2 := Lib.hid (info_d32 hzs)
          have HO3 := Lib.hid (one_dig l)
          have HZ3 : Hid ((zeros 32).size = (digA l).size) := Lib.hid (by rw [hzs]; simp [zeros])
          have hfx := setRow_heap wr _ _ (digA l) _ _ H0.out
          have hfb := below_setRow (g := w.heap.size) HB.out (Nat.le_refl _) (digA l)
          have HFX := Lib.hid hfx
          have HFB := Lib.hid hfb
          clear hx2' hzs hfx hfb HB HR HDG
          obtain ⟨dm, hdm⟩ : ∃ dm, dm = digA l := ⟨_, rfl⟩
          rw [← hdm] at HX3 HI2 HO3 HZ3 HFX HFB
          have HDM := Lib.hid hdm
          clear hdm
          go_wp2_with (first
            | (with_reducible refine wpList_load_row rfl 33 (.tmp 6) rfl _ rfl 33 _ _ _ HX3.out Tryz.underlying33 rfl HI2.out ?_)
            | (with_reducible refine wpList_store_row rfl 33 (.tmp 2) (.tmp 62) rfl _ _ rfl rfl 33 _ H0.out HI2.out HZ3.out HO3.out ?_))
          exact bodyPost_ret (v := .agg dm) (results_cell_row rfl _ _ _ 33 _ (0, 0) _ rfl HFX.out Tryz.underlying33 rfl HI2.out) rfl ⟨by rw [HDM.out], HFB.out⟩
end Go.Proofs.YtoclelpmampikaaGreat
