/-
  logf: LogfReads' walk.
-/
import Derived.Test.YtnalebocfbbpdaaLpD
import Derived.Deep.DeepCutAuto
import Derived.Deep.LoopGhost
namespace Go.Proofs.Ytnalebocfbbpdaa
open Go.RowKit Go Go.Deep
set_option linter.unusedVariables false
set_option linter.unusedSimpArgs false
set_option maxRecDepth 100000
theorem z256_blk {W2 w : World} {g : Nat} (hz : w.heap[g]? = some (.cells (zeros 256) 5 (0, 0))) (hr : w.heap[g + 1]? = some (.cells #[.slice (some ⟨g, 0, none⟩) 256 256] 42 (0, 0))) : Blk w (g + 1) [z256] := by
  refine ⟨blk_lt hr, fun i hi => ?_⟩
  have hi0 : i = 0 := by simp at hi; omega
  subst hi0
  have hl : z256.length = 256 := by unfold z256; simp
  refine ⟨some ⟨g, 0, none⟩, 256, (blk_cell hr 0).trans ?_, ?_⟩
  · rw [List.getD_cons_zero, hl]; rfl
  · rw [List.getD_cons_zero, hl]
    exact BS.of_blk hz (blk_lt hz) hl (Nat.le_refl _) (by omega) z256_byte (fun i hi => zeros_at2 hi)
def BInv (W2 : World) (t : Int) (v : Value) (wc : World) : Prop := ∃ (gb nb cb : Nat) (Ls : List (List Nat)), v = .slice (some ⟨gb, 0, none⟩) nb cb ∧ Blk wc gb Ls ∧ Ls.length = nb ∧ 1 ≤ nb ∧ (nb = 1 ∨ (nb : Int) ≤ t + 1) ∧ (∀ i, i < Ls.length → (Ls.getD i []).length = 256) ∧ Below W2.heap.size W2 wc
/-- the first block being turned, the row of blocks beside it -/
def TuR (w8 : World) (v9 : Value) (n1 : Nat) (iv : Value) (wr : World) : Prop := ∃ k : Nat, iv = .int .i64 (k : Int) ∧ k ≤ n1 ∧ Below w8.heap.size w8 wr ∧ ∃ m : List Nat, m.length = 256 ∧ (∀ i, m.getD i 0 < 256) ∧ Own wr w8.heap.size v9 m
set_option maxHeartbeats 8000000 in
theorem logfReads_any (p t : Int) (ca : Nat) (A : Option Addr) (n c : Nat) (ea : List (Int × List Nat)) (Ai : Option Addr) (ni ci : Nat) (Av : Option Addr) (nv cv : Nat) (lv : List Nat) (less : Int) (short : Bool) (w : World) (hca : ca < 2 ^ 64) (hv : EsV w A n ea) (hz : EsZ w A n) (hn : n ≤ 9223372036854775807) (hi : IntsE w Ai ni) (hvv : BS w w.heap.size Av nv cv lv) :
    Calls Try.prog 4 #[.agg #[.int .i64 p, .int .i64 t], .agg #[.int .u64 (ca : Int), .slice A n c], .slice Ai ni ci, .slice Av nv cv, .int .i64 less, .bool short] w fun e w' => e = .returned (.bool true) ∧ Below w.heap.size w w' := by
  obtain ⟨W1, hW⟩ : ∃ W1, W1 = (w.alloc (.cells #[.int .i64 p, .int .i64 t] 23)).alloc (.cells #[.int .u64 (ca : Int), .slice A n c] 27) := ⟨_, rfl⟩
  have hb1 : Below w.heap.size w W1 := by rw [hW]; exact ((Below.refl _ _).alloc (Nat.le_refl _) _).alloc (by simp) _
  have hx1 : W1.heap[w.heap.size]? = some (.cells #[.int .i64 p, .int .i64 t] 23 (0, 0)) := by rw [hW]; exact blk_alloc (heap_alloc_new w _) _
  have hx2 : W1.heap[w.heap.size + 1]? = some (.cells #[.int .u64 (ca : Int), .slice A n c] 27 (0, 0)) := by
    have := heap_alloc_new (w.alloc (.cells #[.int .i64 p, .int .i64 t] 23)) (.cells #[.int .u64 (ca : Int), .slice A n c] 27)
    rw [show (w.alloc (.cells #[.int .i64 p, .int .i64 t] 23)).heap.size = w.heap.size + 1 by simp, ← hW] at this
    exact this
  have HCA := Lib.hid (cut_any ca true A n c ea W1 (hv.below hb1) (hz.below hv hb1) hn)
  have HNA := Lib.hid (cutL_len true ea)
  have HDA := Lib.hid (cutL_d true ea)
  have HB1 := Lib.hid hb1
  have HX1 := Lib.hid hx1
  have HX2 := Lib.hid hx2
  have HW := Lib.hid hW
  have HI : Hid ((Try.prog.info? 23).map (·.size) = some (#[Value.int .i64 p, Value.int .i64 t] : Array Value).size) := Lib.hid (info_geo2 p t)
  have HUA := Lib.hid hca
  have HII := Lib.hid hi
  have HVV := Lib.hid hvv
  have z0 : W1.cell? ⟨w.heap.size + 1, 0, none⟩ = some (.int .u64 (ca : Int)) := blk_cell hx2 0
  have z1 : W1.cell? ⟨w.heap.size + 1, 1, none⟩ = some (.slice A n c) := blk_cell hx2 1
  rw [hW] at z0 z1
  clear hb1 hx1 hx2 hW hv hz hn hca hi hvv
  generalize cutL true ea = xa at *
  go_enter Try.func4, Try.ntmps4
  go_wp2_with fail
  rw [← HW.out]
  clear z0 z1
  refine HCA.out.mono ?_
  rintro e v1 ⟨A1, c1, rfl, hb2, hv1, hz1⟩
  have HBa : Hid (Below W1.heap.size W1 v1) := Lib.hid hb2
  have HOA : Hid (LgOk v1 A1 xa) := Lib.hid ⟨hv1, hz1, HNA.out, HDA.out⟩
  have hq2 := (hb2.block _ (blk_lt HX2.out)).trans HX2.out
  have HY2 := Lib.hid hq2
  have y0 : v1.cell? ⟨w.heap.size + 1, 0, none⟩ = some (.int .u64 (ca : Int)) := blk_cell hq2 0
  have y1 : v1.cell? ⟨w.heap.size + 1, 1, none⟩ = some (.slice A n c) := blk_cell hq2 1
  have y2 : v1.frozen? ⟨w.heap.size + 1, 0, none⟩ = false := blk_free hq2 0
  have y3 : v1.frozen? ⟨w.heap.size + 1, 1, none⟩ = false := blk_free hq2 1
  clear hb2 hv1 hz1 hq2
  go_upto_region 2 with (fail)
  obtain ⟨W2, hW2⟩ : ∃ W2, W2 = (v1.setCell ⟨w.heap.size + 1, 0, none⟩ (.int .u64 (ca : Int))).setCell ⟨w.heap.size + 1, 1, none⟩ (.slice A1 xa.length c1) := ⟨_, rfl⟩
  have hk : ∀ k, k ≠ w.heap.size + 1 → W2.heap[k]? = v1.heap[k]? := fun k hk => by rw [hW2]; exact (Below.heap_setCell _ _ _ k hk).trans (Below.heap_setCell _ _ _ k hk)
  have HQA : Hid (LgOk W2 A1 xa) := Lib.hid (HOA.out.box (x := ca) HY2.out hk (by rw [hW2, size_set, size_set]))
  have HZ2 : Hid (W2.heap[w.heap.size + 1]? = some (.cells #[.int .u64 (ca : Int), .slice A1 xa.length c1] 27 (0, 0))) := Lib.hid (by
    rw [hW2]
    have h := blk_set (blk_set HY2.out 0 (.int .u64 (ca : Int))) 1 (.slice A1 xa.length c1)
    simpa using h)
  have HZ1 : Hid (W2.heap[w.heap.size]? = some (.cells #[.int .i64 p, .int .i64 t] 23 (0, 0))) := Lib.hid ((hk _ (by omega)).trans ((HBa.out.block _ (blk_lt HX1.out)).trans HX1.out))
  have HB2 : Hid (Below w.heap.size w W2) := Lib.hid (by rw [hW2]; exact ((HB1.out.trans (HBa.out.mono HB1.out.size)).setCell (p := ⟨w.heap.size + 1, 0, none⟩) (by show w.heap.size ≤ w.heap.size + 1; omega) _).setCell (p := ⟨w.heap.size + 1, 1, none⟩) (by show w.heap.size ≤ w.heap.size + 1; omega) _)
  rw [← hW2]
  clear hW2 hk y0 y1 y2 y3 HY2 HOA HBa HX1 HX2 HB1 HW HCA HNA HDA
  clear v1 W1
  have HK2 : Hid (∀ W, Below W2.heap.size W2 W → W.cell? ⟨w.heap.size, 0, none⟩ = some (.int .i64 p) ∧ W.cell? ⟨w.heap.size, 1, none⟩ = some (.int .i64 t) ∧ W.cell? ⟨w.heap.size + 1, 0, none⟩ = some (.int .u64 (ca : Int)) ∧ W.cell? ⟨w.heap.size + 1, 1, none⟩ = some (.slice A1 xa.length c1) ∧ Below W2.heap.size W2 W) := Lib.hid (fun W h => by
    have h1 := (h.block _ (blk_lt HZ1.out)).trans HZ1.out
    have h2 := (h.block _ (blk_lt HZ2.out)).trans HZ2.out
    exact ⟨blk_cell h1 0, blk_cell h1 1, blk_cell h2 0, blk_cell h2 1, h⟩)
  have hmk : ∀ W : World, (Instr.makeSlice 42 (.int .i64 256) (.int .i64 256)).run Try.prog W = .ok (.slice (some ⟨W.heap.size, 0, none⟩) 256 256) (W.alloc (.cells (zeros 256) 5)) := make_bytes 256 (by omega)
  obtain ⟨W3, hW3⟩ : ∃ W3, W3 = (W2.alloc (.cells (zeros 256) 5)).alloc (.cells #[.slice (some ⟨W2.heap.size, 0, none⟩) 256 256] 42) := ⟨_, rfl⟩
  have hb3 : Below W2.heap.size W2 W3 := by rw [hW3]; exact ((Below.refl _ _).alloc (Nat.le_refl _) _).alloc (by simp) _
  have HBK3 : Hid (Blk W3 (W2.heap.size + 1) [z256]) := Lib.hid (by
    rw [hW3]
    refine z256_blk (W2 := W2) (blk_alloc (heap_alloc_new W2 _) _) ?_
    have := heap_alloc_new (W2.alloc (.cells (zeros 256) 5)) (.cells #[.slice (some ⟨W2.heap.size, 0, none⟩) 256 256] 42)
    rw [show (W2.alloc (.cells (zeros 256) 5)).heap.size = W2.heap.size + 1 by simp] at this
    exact this)
  have HB3 := Lib.hid hb3
  have HW3 := Lib.hid hW3
  obtain ⟨q0, q1, q2, q3, q4⟩ := HK2.out W3 hb3
  rw [hW3] at q0 q1 q2 q3
  clear hb3 hW3 q4
  generalize zeros 256 = Z256 at *
  go_upto_if 35 with (fail)
  rw [← HW3.out]
  have hn30 := HQA.out.n
  refine (rmay14_any p t ca xa.length c1 A1 xa (by omega) _ (HQA.out.below HB3.out).v).mono ?_
  rintro e v4 ⟨bm, rfl, hbm, hb4⟩
  have HBM := Lib.hid hbm
  have HB4 := Lib.hid (HB3.out.trans (hb4.mono HB3.out.size))
  have HBK4 := Lib.hid (HBK3.out.below hb4)
  clear hmk hbm hb4 q0 q1 q2 q3 HW3
  go_upto_if 35 with (fail)
  go_cut [13] (fun b wc => BInv W2 t b wc)
  case first =>
    cases bm
    · have HF : Hid (BInv W2 t (.slice (some ⟨W2.heap.size + 1, 0, none⟩) 1 1) v4) := Lib.hid ⟨_, 1, 1, [z256], rfl, HBK4.out, rfl, Nat.le_refl _, .inl rfl, fun i hi => by
        have hi0 : i = 0 := by simp at hi; omega
        subst hi0
        rw [List.getD_cons_zero]; unfold z256; simp, HB4.out⟩
      go_wp2
      go_meet
      case rel => exact HF.out
    · have hM := HBM.out.mp rfl
      have hg := hM.1
      have hx1 : (xa.length : Int) ≤ t := by have := hM.2.2.1; unfold Geo.May at hg; omega
      obtain ⟨q0, q1, q2, q3, q4⟩ := HK2.out v4 HB4.out
      clear q0 q1 q4
      go_wp2_with fail
      refine (rencode14_any ca xa.length c1 A1 xa HUA.out (mayG_k hM) (by omega) _ (HQA.out.below HB4.out).v).mono ?_
      rintro e v5 ⟨gE, cE, rfl, hblk, hb5⟩
      have HF : Hid (BInv W2 t (.slice (some ⟨gE, 0, none⟩) (xa.length + 1) cE) v5) := Lib.hid ⟨gE, xa.length + 1, cE, _, rfl, hblk, blks_len _ _, by omega, .inr (by omega), blks_256 hM ca, HB4.out.trans (hb5.mono HB4.out.size)⟩
      clear hblk hb5 q2 q3
      go_wp2
      go_meet
      case rel => exact HF.out
  case rest =>
    clear HBM HB4 HBK4 HB3 HBK3
    obtain ⟨gb, nb, cb, Ls, rfl, hblk, hln, h1n, hnt, h256, hb⟩ := hcut
    have HBLK := Lib.hid hblk
    have HLN := Lib.hid hln
    have H256 := Lib.hid h256
    have HBC := Lib.hid hb
    clear hblk hln h256 hb
    obtain ⟨q0, q1, q2, q3, q4⟩ := HK2.out wc HBC.out
    clear q2 q3 q4
    by_cases hg : Geo.May p t
    · skip
      obtain ⟨pn, hpn⟩ : ∃ q : Nat, p = (q : Int) := ⟨p.toNat, by unfold Geo.May at hg; omega⟩
      obtain ⟨tn, htn⟩ : ∃ q : Nat, t = (q : Int) := ⟨t.toNat, by unfold Geo.May at hg; omega⟩
      subst hpn htn
      have ht24 : tn ≤ 24 := by unfold Geo.May at hg; omega
      have ht4 : 4 ≤ tn := by unfold Geo.May at hg; omega
      have HG := Lib.hid hg
      clear hg
      go_wp2_with fail
      refine (rmay_yes pn tn HG.out _).mono ?_
      rintro e v6 ⟨rfl, hb6⟩
      have HB6 := Lib.hid (HBC.out.trans (hb6.mono HBC.out.size))
      have HBK6 := Lib.hid (HBLK.out.below hb6)
      clear q0 q1 hb6
      obtain ⟨q0, q1, q2, q3, q4⟩ := HK2.out v6 HB6.out
      clear q2 q3 q4
      go_wp2_with fail
      refine (filled_any pn tn 7 gb nb cb Ls ht24 (by omega) HLN.out h1n (by omega) (fun i hi => by rw [H256.out i hi]; omega) v6 HBK6.out).mono ?_
      rintro e v8 ⟨gF, cF, rfl, hblk8, hb8, hc1, hc2, hgn, hcur, Bb, hBb, hBg, hbr⟩
      have HLL : Hid ((Ls ++ List.replicate (tn + 1 - Ls.length) (fullL [7])).length = tn + 1) := Lib.hid (by rw [List.length_append, List.length_replicate, HLN.out]; omega)
      have HLE : Hid (∀ i, i < (Ls ++ List.replicate (tn + 1 - Ls.length) (fullL [7])).length → ((Ls ++ List.replicate (tn + 1 - Ls.length) (fullL [7])).getD i []).length = 256) := Lib.hid (fun i hi => by
        by_cases hl : i < Ls.length
        · rw [List.getD_eq_getElem?_getD, List.getElem?_append_left hl, ← List.getD_eq_getElem?_getD]
          exact H256.out i hl
        · rw [List.length_append, List.length_replicate] at hi
          rw [List.getD_eq_getElem?_getD, List.getElem?_append_right (by omega), List.getElem?_replicate, if_pos (by omega)]
          exact full_len [7])
      generalize Ls ++ List.replicate (tn + 1 - Ls.length) (fullL [7]) = FL at *
      have HV68 := Lib.hid hb8
      have HB8 := Lib.hid (HB6.out.trans (hb8.mono HB6.out.size))
      have HBR := Lib.hid hbr
      have HC1 := Lib.hid hc1
      have HC2 := Lib.hid hc2
      have HBb : Hid (v6.heap.size ≤ Bb ∧ Bb ≤ gF) := Lib.hid ⟨hBb, hBg⟩
      have HK8 := Lib.hid hblk8
      obtain ⟨A0, c0, z0, z1⟩ := hblk8.2 0 (by rw [HLL.out]; omega)
      rw [HLE.out 0 (by rw [HLL.out]; omega)] at z0 z1
      have HZ1' := Lib.hid z1
      obtain ⟨cur, hcur1, hcur2⟩ := hcur
      have HCUR : Hid (∃ cur, v8.heap[gF]? = some (.cells cur 42 (0, 0)) ∧ cur.size = cF) := Lib.hid ⟨cur, hcur1, hcur2⟩
      clear hblk8 hb8 hc1 hc2 hgn hcur1 hcur2 hBb hBg hbr q0 q1 HBK6 HBLK HLN H256 h1n hnt z1
      have htn1 : (0 : Int) < (tn : Int) + 1 := by omega
      have HOE : Hid (Own (v8.alloc (.cells #[] 5)) v8.heap.size (.slice (some ⟨v8.heap.size, 0, none⟩) 0 0) []) := Lib.hid (World.ownsRow_made v8 #[] 0 (Nat.le_refl _) (by unfold maxLen; omega) rfl)
      have HAE : Hid (Below v8.heap.size v8 (v8.alloc (.cells #[] 5))) := Lib.hid ((Below.refl _ _).alloc (Nat.le_refl _) _)
      have z2 := (HAE.out.cell (p := ⟨gF, 0, none⟩) HK8.out.1).trans z0
      clear z0
      go_wp2_with (at_builtin; refine wp_apps (v8.alloc (.cells #[] 5)) rfl (.tmp 55) (.tmp 58) rfl v8.heap.size _ [] rfl HOE.out v8.heap.size A0 256 c0 (FL.getD 0 []) rfl (HZ1'.out.below HAE.out) (fun e => by obtain ⟨b9, o9, e9, _⟩ := HZ1'.out.at_ (by omega); rw [e9] at e; cases e) (by simp) HAE.out.size ?_; intro v9 w9 hown9 hb9; rw [List.nil_append] at hown9; have HO9 := Lib.hid hown9; have HB9 : Hid (Below v8.heap.size v8 w9) := Lib.hid (((Below.refl _ _).alloc (Nat.le_refl _) _).trans hb9); clear hown9 hb9)
      have HF0 : Hid ((FL.getD 0 []).length = 256) := Lib.hid (HLE.out 0 (by rw [HLL.out]; omega))
      obtain ⟨g9, c9, rfl, hc9, hc99, hcl_⟩ := HO9.out.at256 (by rw [HF0.out]; omega)
      clear hcl_
      rw [HF0.out] at HO9 hc9 ⊢
      have hgB : v8.heap.size ≤ g9 := (HO9.out.lt (show Value.ownBlock (.slice (some ⟨g9, 0, none⟩) 256 c9) = some g9 from rfl)).1
      have HGB := Lib.hid hgB
      have HW8 : Hid (Below w.heap.size w v8) := Lib.hid (HB2.out.trans (HB8.out.mono HB2.out.size))
      have H1 := Lib.hid HII.out
      have H2 := Lib.hid HVV.out
      have HN1 := HII.out.1
      have hnv := HVV.out.cap.1
      have hnv2 := HVV.out.cap.2
      have HB9' : Hid (Own w9 v8.heap.size (.slice (some ⟨g9, 0, none⟩) 256 c9) (FL.getD 0 [])) := Lib.hid HO9.out
      have HFY : Hid (∀ i, (FL.getD 0 []).getD i 0 < 256) := Lib.hid HZ1'.out.byte
      clear HII HVV HOE HAE z2
      go_loopw [62] (fun iv wr => TuR v8 (.slice (some ⟨g9, 0, none⟩) 256 c9) ni iv wr) (fun iv _ => (ni - intOf iv).toNat)
      case atStart => exact ⟨0, rfl, by omega, HB9.out, FL.getD 0 [], HF0.out, HFY.out, HB9'.out⟩
      case round =>
        clear HO9 HB9 HB9' HFY HF0
        obtain ⟨k, rfl, hk, hb, m, hml, hmb, hown⟩ := hrel
        have hbw : Below w.heap.size w wr := HW8.out.trans (hb.mono HW8.out.size)
        have hcl : ∀ k, k < 256 → (∃ u, wr.cell? ⟨g9, k, none⟩ = some u) ∧ wr.frozen? ⟨g9, k, none⟩ = false := by
          obtain ⟨g', cap', he, _, _, h9⟩ := hown.at256 (by omega)
          injection he with e1 e2 e3
          injection e1 with e1
          injection e1 with e1 e4 e5
          subst e1
          rw [hml] at h9
          exact h9
        by_cases hlt : k < ni
        · obtain ⟨b1, o1, rfl, hb1, hcell⟩ := H1.out.2 (by omega)
          obtain ⟨zz, hzc⟩ := hcell k hlt
          have k1 : wr.cell? ⟨b1, o1 + k, none⟩ = some (.int .i64 zz) := (hbw.cell hb1).trans hzc
          have HSAME : Hid (TuR v8 (.slice (some ⟨g9, 0, none⟩) 256 c9) ni (.int .i64 ((k : Int) + 1)) wr) := Lib.hid ⟨k + 1, by simp, by omega, hb, m, hml, hmb, hown⟩
          by_cases h6 : k < 6
          · have h6i : decide ((k : Int) < 6) = true := decide_eq_true (by omega)
            by_cases h2n : k < nv
            · obtain ⟨b2, o2, rfl, hb2, hcell2⟩ := H2.out.at_ (by omega)
              have k2 : wr.cell? ⟨b2, o2 + k, none⟩ = some (.int .u8 ((lv.getD k 0 : Nat) : Int)) := (hbw.cell hb2).trans (hcell2 k h2n)
              have hy := H2.out.byte k
              obtain ⟨j, hj, hand⟩ := and255 zz
              obtain ⟨⟨old, k3⟩, k4⟩ := hcl j (by omega)
              have hset := hown.set (k := j) (x := lv.getD k 0) (by omega)
              have HN : Hid (TuR v8 (.slice (some ⟨g9, 0, none⟩) 256 c9) ni (.int .i64 ((k : Int) + 1)) (wr.setCell ⟨g9, j, none⟩ (.int .u8 ((lv.getD k 0 : Nat) : Int)))) := Lib.hid ⟨k + 1, by simp, by omega, hb.setCell (p := ⟨g9, j, none⟩) HGB.out _, m.set j (lv.getD k 0), by simpa using hml, fun i => by
                rw [List.getD_eq_getElem?_getD, List.getElem?_set]
                split
                · split
                  · exact hy
                  · decide
                · rw [← List.getD_eq_getElem?_getD]; exact hmb i, hset⟩
              generalize lv.getD k 0 = y at *
              clear hset hown hmb hml hcl hb hcell hcell2 hzc HSAME hbw
              go_wp2
              go_roundw
              case rel => exact HN.out
              case measure => simp [intOf]; omega
            · clear hown hmb hml hcl hb hcell hzc hbw
              go_wp2
              go_roundw
              case rel => exact HSAME.out
              case measure => simp [intOf]; omega
          · have h6i : decide ((k : Int) < 6) = false := decide_eq_false (by omega)
            clear hown hmb hml hcl hb hcell hzc hbw
            go_wp2
            go_roundw
            case rel => exact HSAME.out
            case measure => simp [intOf]; omega
        · obtain rfl : k = ni := by omega
          have HB9 := Lib.hid hb
          have HO9 := Lib.hid hown
          have HML := Lib.hid hml
          have HMB := Lib.hid hmb
          clear hb hown hcl hbw hml hmb
          obtain ⟨cur2, hq1, hq2⟩ := HCUR.out
          have hx := (HB9.out.block gF HK8.out.1).trans hq1
          have hbg := HBb.out
          have hgl := HK8.out.1
          obtain ⟨A0', c0', z0, z1⟩ := HK8.out.2 0 (by rw [HLL.out]; omega)
          have y0 : wr.cell? ⟨gF, 0, none⟩ = some (.slice A0' (FL.getD 0 []).length c0') := (HB9.out.cell (p := ⟨gF, 0, none⟩) hgl).trans z0
          have y1 : wr.frozen? ⟨gF, 0, none⟩ = false := blk_free hx 0
          obtain ⟨WS, hWS⟩ : ∃ WS, WS = wr.setCell ⟨gF, 0, none⟩ (.slice (some ⟨g9, 0, none⟩) 256 c9) := ⟨_, rfl⟩
          have hbr : BrM wr v6.heap.size Bb (.slice (some ⟨gF, 0, none⟩) (tn + 1) cF) FL := HBR.out.below hbg.1 (by omega) HB9.out
          have hei : EnI wr v6.heap.size Bb (some ⟨g9, 0, none⟩) c9 m := ⟨.inr ⟨by rw [HML.out]; exact HO9.out.base (by omega), HMB.out⟩, fun e => by cases e⟩
          have hbs : BrM WS v6.heap.size Bb (.slice (some ⟨gF, 0, none⟩) (tn + 1) cF) (FL.set 0 m) := by rw [hWS]; exact hbr.put hbg.1 (by rw [HLL.out]; omega) HML.out hei
          have hb6s : Below v6.heap.size v6 WS := by
            rw [hWS]
            exact (HV68.out.trans (HB9.out.mono HV68.out.size)).setCell (p := ⟨gF, 0, none⟩) (by show v6.heap.size ≤ gF; omega) _
          have HBS := Lib.hid hbs
          have HBg := Lib.hid hbg
          have HG2 : Hid (W2.heap.size ≤ gF) := Lib.hid (Nat.le_trans HB6.out.size (Nat.le_trans hbg.1 hbg.2))
          have HSL : Hid ((FL.set 0 m).length = tn + 1) := Lib.hid (by rw [List.length_set]; exact HLL.out)
          have HSE : Hid (∀ i, i < (FL.set 0 m).length → ((FL.set 0 m).getD i []).length = 256) := Lib.hid (fun i hi => by
            rw [List.length_set] at hi
            by_cases e : i = 0
            · subst e; simp [List.getD, hi, HML.out]
            · have e1 : (FL.set 0 m).getD i [] = FL.getD i [] := by simp only [List.getD_eq_getElem?_getD]; rw [List.getElem?_set_ne (by omega)]
              rw [e1]; exact HLE.out i hi)
          have hsz : Bb ≤ WS.heap.size := by rw [hWS, size_set]; have := HB9.out.size; omega
          have HSZ := Lib.hid hsz
          have HBL : Hid (Blk WS gF (FL.set 0 m)) := Lib.hid (by
            obtain ⟨g', cap', e, hblk, _⟩ := hbs.at_ hbg.1 hsz (by rw [HSL.out]; omega)
            injection e with e1 _ _
            injection e1 with e1
            injection e1 with e1 _ _
            subst e1; exact hblk)
          have HBW : Hid (Below W2.heap.size W2 WS) := Lib.hid (HB6.out.trans (hb6s.mono HB6.out.size))
          have HCS : Hid (∃ cur, WS.heap[gF]? = some (.cells cur 42 (0, 0)) ∧ cur.size = cF) := Lib.hid ⟨_, by rw [hWS]; exact blk_set hx 0 _, by simpa using hq2⟩
          have HWS := Lib.hid hWS
          clear hbr hei hbs hb6s hsz hWS z0 z1 hx hq1 hq2 hbg hgl
          generalize FL.set 0 m = FS at *
          clear HBR HK8 HLE HLL HCUR HBb
          go_upto_if 88 with (fail)
          rw [← HWS.out]
          clear y0 y1 HWS
          clear HB9 HO9
          by_cases hl : 0 < less
          · as_aux_lemma =>
              have hless : (0 : Int) < less := hl
              have hg1i : (1 : Int) ≤ (tn : Int) + 1 := by omega
              have hcF1 : ¬ cF = 1 := by have := HC1.out; omega
              have hcF2 : tn + 1 ≤ cF := HC1.out
              have hcF3 : cF ≤ 9223372036854775807 := HC2.out
              have HYW : Hid (Below W2.heap.size W2 WS) := Lib.hid HBW.out
              go_upto_region 18 with (fail)
              go_cut [19, 20] (fun bx er wx => er = .int .i64 1 ∧ Below WS.heap.size WS wx)
              case first =>
                obtain ⟨V, hV⟩ : ∃ V, V = WS.drew := ⟨_, rfl⟩
                have hBV : Below WS.heap.size WS V := by rw [hV]; exact (Below.refl _ _).drew
                have HK18 : Hid (∀ W, Below V.heap.size V W → W.cell? ⟨w.heap.size, 0, none⟩ = some (.int .i64 (pn : Int)) ∧ W.cell? ⟨w.heap.size, 1, none⟩ = some (.int .i64 (tn : Int))) := Lib.hid (fun W h => by
                  obtain ⟨g0, g1, _⟩ := HK2.out W (HYW.out.trans ((hBV.trans (h.mono hBV.size)).mono HYW.out.size))
                  exact ⟨g0, g1⟩)
                have HYV := Lib.hid hBV
                refine wp_region_F (S := fun (W : World) => W.cell? ⟨w.heap.size, 0, none⟩ = some (.int .i64 (pn : Int)) ∧ W.cell? ⟨w.heap.size, 1, none⟩ = some (.int .i64 (tn : Int))) [] (by kernel_rfl) (by rw [← hV]; exact HK18.out V (Below.refl _ _)) (fun hHeld => ?_)
                rw [← hV] at hHeld ⊢
                clear hV hBV
                refine wpAnyF_take (i := 0) (oi := _) (v := ?_) rfl (by kernel_rfl) (by kernel_rfl) (by kernel_rfl) (by kernel_rfl) (fun _ _ _ h => h) (Or.inl ⟨by rfl, ?_⟩) (by assumption) ?_
                rotate_left 1
                · intro w hSw
                  (try dsimp only at hSw)
                  (first | (go_simp; done) | (go_simp; with_reducible rfl))
                (try simp only [Act.put, List.getElem_toArray, List.getElem_cons_succ, List.getElem_cons_zero, List.setIfInBounds_toArray, List.set_cons_zero, List.set_cons_succ])
                refine wpAnyF_take (i := 1) (oi := _) (v := ?_) rfl (by kernel_rfl) (by kernel_rfl) (by kernel_rfl) (by kernel_rfl) (fun _ _ _ h => h) (Or.inl ⟨by rfl, ?_⟩) (by assumption) ?_
                rotate_left 1
                · intro w hSw
                  (try dsimp only at hSw)
                  (first | (go_simp; done) | (go_simp; with_reducible rfl))
                (try simp only [Act.put, List.getElem_toArray, List.getElem_cons_succ, List.getElem_cons_zero, List.setIfInBounds_toArray, List.set_cons_zero, List.set_cons_succ])
                refine wpAnyF_take (i := 2) (oi := _) (v := ?_) rfl (by kernel_rfl) (by kernel_rfl) (by kernel_rfl) (by kernel_rfl) (fun _ _ _ h => h) (Or.inl ⟨by rfl, ?_⟩) (by assumption) ?_
                rotate_left 1
                · intro w hSw
                  (try dsimp only at hSw)
                  (first | (go_simp; done) | (go_simp; with_reducible rfl))
                (try simp only [Act.put, List.getElem_toArray, List.getElem_cons_succ, List.getElem_cons_zero, List.setIfInBounds_toArray, List.set_cons_zero, List.set_cons_succ])
                refine wpAnyF_ready (rs := [3, 7]) (by kernel_rfl) (by simp) ?_
                refine AllReadyF.cons (o := _) rfl (fun K hK => ?_) (AllReadyF.cons (o := _) rfl (fun K hK => ?_) AllReadyF.nil)
                · as_aux_lemma =>
                    go_simp
                    (go_at_call 13)
                    refine (parse_len pn tn (some ⟨gF, 1, none⟩) tn (cF - 1) V HG.out (by omega)).mono ?_
                    rintro e y3 ⟨rfl, hb⟩
                    have HP := Lib.hid hb
                    have HDP := Lib.hid ((Below.refl V.heap.size V).trans (hb.mono (Below.refl V.heap.size V).size))
                    clear hb
                    refine hK.out _ _ (HK18.out _ HDP.out) (fun hHeld3 => ?_)
                    clear hK K
                    (try simp only [Act.put, List.getElem_toArray, List.getElem_cons_succ, List.getElem_cons_zero, List.setIfInBounds_toArray, List.set_cons_zero, List.set_cons_succ])
                    refine wpAnyF_take (i := 4) (oi := _) (v := ?_) rfl (by kernel_rfl) (by kernel_rfl) (by kernel_rfl) (by kernel_rfl) (fun _ _ _ h => h) (Or.inl ⟨by rfl, ?_⟩) (by assumption) ?_
                    rotate_left 1
                    · intro w hSw
                      (try dsimp only at hSw)
                      (first | (go_simp; done) | (go_simp; with_reducible rfl))
                    (try simp only [Act.put, List.getElem_toArray, List.getElem_cons_succ, List.getElem_cons_zero, List.setIfInBounds_toArray, List.set_cons_zero, List.set_cons_succ])
                    refine wpAnyF_take (i := 5) (oi := _) (v := ?_) rfl (by kernel_rfl) (by kernel_rfl) (by kernel_rfl) (by kernel_rfl) (fun _ _ _ h => h) (Or.inl ⟨by rfl, ?_⟩) (by assumption) ?_
                    rotate_left 1
                    · intro w hSw
                      (try dsimp only at hSw)
                      (first | (go_simp; done) | (go_simp; with_reducible rfl))
                    (try simp only [Act.put, List.getElem_toArray, List.getElem_cons_succ, List.getElem_cons_zero, List.setIfInBounds_toArray, List.set_cons_zero, List.set_cons_succ])
                    refine wpAnyF_take (i := 6) (oi := _) (v := ?_) rfl (by kernel_rfl) (by kernel_rfl) (by kernel_rfl) (by kernel_rfl) (fun _ _ _ h => h) (Or.inl ⟨by rfl, ?_⟩) (by assumption) ?_
                    rotate_left 1
                    · intro w hSw
                      (try dsimp only at hSw)
                      (first | (go_simp; done) | (go_simp; with_reducible rfl))
                    (try simp only [Act.put, List.getElem_toArray, List.getElem_cons_succ, List.getElem_cons_zero, List.setIfInBounds_toArray, List.set_cons_zero, List.set_cons_succ])
                    refine wpAnyF_ready (rs := [7]) (by kernel_rfl) (by simp) ?_
                    refine AllReadyF.cons (o := _) rfl (fun K hK => ?_) AllReadyF.nil
                    have hN := heap_alloc_new y3 (.cells #[.int .u64 0, .slice none 0 0] 35)
                    have HN := Lib.hid hN
                    have HAA : Hid (Below y3.heap.size y3 (y3.alloc (.cells #[.int .u64 0, .slice none 0 0] 35))) := Lib.hid ((Below.refl _ _).alloc (Nat.le_refl _) _)
                    have HDA : Hid (Below V.heap.size V (y3.alloc (.cells #[.int .u64 0, .slice none 0 0] 35))) := Lib.hid ((HDP.out).trans (HAA.out.mono (HDP.out).size))
                    clear hN
                    go_simp
                    refine hK.out _ _ (HK18.out _ HDA.out) (fun hHeld7 => ?_)
                    clear hK K
                    (try simp only [Act.put, List.getElem_toArray, List.getElem_cons_succ, List.getElem_cons_zero, List.setIfInBounds_toArray, List.set_cons_zero, List.set_cons_succ])
                    generalize y3.alloc (.cells #[.int .u64 0, .slice none 0 0] 35) = y7 at *
                    obtain ⟨b13, hb13⟩ : ∃ e, e = y3.heap.size := ⟨_, rfl⟩
                    have HB13 : Hid (V.heap.size ≤ b13) := Lib.hid (by rw [hb13]; exact (HDP.out).size)
                    rw [← hb13] at HN ⊢
                    clear hb13
                    have HX13 : Hid (y7.heap[b13]? = some (.cells #[.int .u64 0, .slice none 0 0] 35 (0, 0))) := Lib.hid HN.out
                    have q6 : y7.cell? ⟨b13, 0, none⟩ = some (.int .u64 0) := blk_cell HX13.out 0
                    have q7 : y7.cell? ⟨b13, 1, none⟩ = some (.slice none 0 0) := blk_cell HX13.out 1
                    have q8 : y7.frozen? ⟨b13, 0, none⟩ = false := blk_free HX13.out 0
                    have q9 : y7.frozen? ⟨b13, 1, none⟩ = false := blk_free HX13.out 1
                    have HDF : Hid (Below V.heap.size V ((y7.setCell ⟨b13, 0, none⟩ (.int .u64 0)).setCell ⟨b13, 1, none⟩ (.slice none 0 0))) := Lib.hid ((HDA.out.setCell (p := ⟨b13, 0, none⟩) HB13.out _).setCell (p := ⟨b13, 1, none⟩) HB13.out _)
                    refine wpAnyF_ready (rs := [8]) (by kernel_rfl) (by simp) ?_
                    refine AllReadyF.cons (o := _) rfl (fun K hK => ?_) AllReadyF.nil
                    go_simp
                    refine hK.out _ _ (HK18.out _ HDF.out) (fun hHeld8 => ?_)
                    clear hK K
                    (try simp only [Act.put, List.getElem_toArray, List.getElem_cons_succ, List.getElem_cons_zero, List.setIfInBounds_toArray, List.set_cons_zero, List.set_cons_succ])
                    refine wpAnyF_take (i := 9) (oi := _) (v := ?_) rfl (by kernel_rfl) (by kernel_rfl) (by kernel_rfl) (by kernel_rfl) (fun _ _ _ h => h) (Or.inl ⟨by rfl, ?_⟩) (by assumption) ?_
                    rotate_left 1
                    · intro w hSw
                      (try dsimp only at hSw)
                      (first | (go_simp; done) | (go_simp; with_reducible rfl))
                    (try simp only [Act.put, List.getElem_toArray, List.getElem_cons_succ, List.getElem_cons_zero, List.setIfInBounds_toArray, List.set_cons_zero, List.set_cons_succ])
                    refine wpAnyF_done (by kernel_rfl) ?_ _
                    go_wp2
                    go_meet
                    case rel => exact ⟨rfl, HYV.out.trans (HDF.out.mono HYV.out.size)⟩
                · as_aux_lemma =>
                    have hN := heap_alloc_new V (.cells #[.int .u64 0, .slice none 0 0] 35)
                    have HN := Lib.hid hN
                    have HAA : Hid (Below V.heap.size V (V.alloc (.cells #[.int .u64 0, .slice none 0 0] 35))) := Lib.hid ((Below.refl _ _).alloc (Nat.le_refl _) _)
                    have HDA : Hid (Below V.heap.size V (V.alloc (.cells #[.int .u64 0, .slice none 0 0] 35))) := Lib.hid ((Below.refl V.heap.size V).trans (HAA.out.mono (Below.refl V.heap.size V).size))
                    clear hN
                    go_simp
                    refine hK.out _ _ (HK18.out _ HDA.out) (fun hHeld7 => ?_)
                    clear hK K
                    (try simp only [Act.put, List.getElem_toArray, List.getElem_cons_succ, List.getElem_cons_zero, List.setIfInBounds_toArray, List.set_cons_zero, List.set_cons_succ])
                    generalize V.alloc (.cells #[.int .u64 0, .slice none 0 0] 35) = y7 at *
                    obtain ⟨b13, hb13⟩ : ∃ e, e = V.heap.size := ⟨_, rfl⟩
                    have HB13 : Hid (V.heap.size ≤ b13) := Lib.hid (by rw [hb13]; exact (Below.refl V.heap.size V).size)
                    rw [← hb13] at HN ⊢
                    clear hb13
                    have HX13 : Hid (y7.heap[b13]? = some (.cells #[.int .u64 0, .slice none 0 0] 35 (0, 0))) := Lib.hid HN.out
                    refine wpAnyF_ready (rs := [3]) (by kernel_rfl) (by simp) ?_
                    refine AllReadyF.cons (o := _) rfl (fun K hK => ?_) AllReadyF.nil
                    go_simp
                    (go_at_call 13)
                    refine (parse_len pn tn (some ⟨gF, 1, none⟩) tn (cF - 1) y7 HG.out (by omega)).mono ?_
                    rintro e y3 ⟨rfl, hb⟩
                    have HP := Lib.hid hb
                    have HDP := Lib.hid ((HDA.out).trans (hb.mono (HDA.out).size))
                    clear hb
                    refine hK.out _ _ (HK18.out _ HDP.out) (fun hHeld3 => ?_)
                    clear hK K
                    (try simp only [Act.put, List.getElem_toArray, List.getElem_cons_succ, List.getElem_cons_zero, List.setIfInBounds_toArray, List.set_cons_zero, List.set_cons_succ])
                    refine wpAnyF_take (i := 4) (oi := _) (v := ?_) rfl (by kernel_rfl) (by kernel_rfl) (by kernel_rfl) (by kernel_rfl) (fun _ _ _ h => h) (Or.inl ⟨by rfl, ?_⟩) (by assumption) ?_
                    rotate_left 1
                    · intro w hSw
                      (try dsimp only at hSw)
                      (first | (go_simp; done) | (go_simp; with_reducible rfl))
                    (try simp only [Act.put, List.getElem_toArray, List.getElem_cons_succ, List.getElem_cons_zero, List.setIfInBounds_toArray, List.set_cons_zero, List.set_cons_succ])
                    refine wpAnyF_take (i := 5) (oi := _) (v := ?_) rfl (by kernel_rfl) (by kernel_rfl) (by kernel_rfl) (by kernel_rfl) (fun _ _ _ h => h) (Or.inl ⟨by rfl, ?_⟩) (by assumption) ?_
                    rotate_left 1
                    · intro w hSw
                      (try dsimp only at hSw)
                      (first | (go_simp; done) | (go_simp; with_reducible rfl))
                    (try simp only [Act.put, List.getElem_toArray, List.getElem_cons_succ, List.getElem_cons_zero, List.setIfInBounds_toArray, List.set_cons_zero, List.set_cons_succ])
                    refine wpAnyF_take (i := 6) (oi := _) (v := ?_) rfl (by kernel_rfl) (by kernel_rfl) (by kernel_rfl) (by kernel_rfl) (fun _ _ _ h => h) (Or.inl ⟨by rfl, ?_⟩) (by assumption) ?_
                    rotate_left 1
                    · intro w hSw
                      (try dsimp only at hSw)
                      (first | (go_simp; done) | (go_simp; with_reducible rfl))
                    (try simp only [Act.put, List.getElem_toArray, List.getElem_cons_succ, List.getElem_cons_zero, List.setIfInBounds_toArray, List.set_cons_zero, List.set_cons_succ])
                    have HX13b : Hid (y3.heap[b13]? = some (.cells #[.int .u64 0, .slice none 0 0] 35 (0, 0))) := Lib.hid ((HP.out.block _ (blk_lt HX13.out)).trans HX13.out)
                    have q6 : y3.cell? ⟨b13, 0, none⟩ = some (.int .u64 0) := blk_cell HX13b.out 0
                    have q7 : y3.cell? ⟨b13, 1, none⟩ = some (.slice none 0 0) := blk_cell HX13b.out 1
                    have q8 : y3.frozen? ⟨b13, 0, none⟩ = false := blk_free HX13b.out 0
                    have q9 : y3.frozen? ⟨b13, 1, none⟩ = false := blk_free HX13b.out 1
                    have HDF : Hid (Below V.heap.size V ((y3.setCell ⟨b13, 0, none⟩ (.int .u64 0)).setCell ⟨b13, 1, none⟩ (.slice none 0 0))) := Lib.hid ((HDP.out.setCell (p := ⟨b13, 0, none⟩) HB13.out _).setCell (p := ⟨b13, 1, none⟩) HB13.out _)
                    refine wpAnyF_ready (rs := [8]) (by kernel_rfl) (by simp) ?_
                    refine AllReadyF.cons (o := _) rfl (fun K hK => ?_) AllReadyF.nil
                    go_simp
                    refine hK.out _ _ (HK18.out _ HDF.out) (fun hHeld8 => ?_)
                    clear hK K
                    (try simp only [Act.put, List.getElem_toArray, List.getElem_cons_succ, List.getElem_cons_zero, List.setIfInBounds_toArray, List.set_cons_zero, List.set_cons_succ])
                    refine wpAnyF_take (i := 9) (oi := _) (v := ?_) rfl (by kernel_rfl) (by kernel_rfl) (by kernel_rfl) (by kernel_rfl) (fun _ _ _ h => h) (Or.inl ⟨by rfl, ?_⟩) (by assumption) ?_
                    rotate_left 1
                    · intro w hSw
                      (try dsimp only at hSw)
                      (first | (go_simp; done) | (go_simp; with_reducible rfl))
                    (try simp only [Act.put, List.getElem_toArray, List.getElem_cons_succ, List.getElem_cons_zero, List.setIfInBounds_toArray, List.set_cons_zero, List.set_cons_succ])
                    refine wpAnyF_done (by kernel_rfl) ?_ _
                    go_wp2
                    go_meet
                    case rel => exact ⟨rfl, HYV.out.trans (HDF.out.mono HYV.out.size)⟩
              case rest =>
                obtain ⟨rfl, hbc⟩ := hcut
                obtain ⟨Y19, hY19⟩ : ∃ Y, Y = wc := ⟨_, rfl⟩
                rw [← hY19] at hbc ⊢
                have HYW : Hid (Below W2.heap.size W2 Y19) := Lib.hid (HBW.out.trans (hbc.mono HBW.out.size))
                have HBL2 := Lib.hid (HBL.out.below hbc)
                obtain ⟨A9, c9x, q90, q91⟩ := HBL2.out.2 0 (by rw [HSL.out]; omega)
                rw [HSE.out 0 (by rw [HSL.out]; omega)] at q90
                clear hbc hY19 q91
                go_upto_region 19 with (fail)
                go_cut [21, 22] (fun bx er wx => er = .int .i64 1 ∧ Below Y19.heap.size Y19 wx)
                case first =>
                  obtain ⟨V, hV⟩ : ∃ V, V = Y19.drew := ⟨_, rfl⟩
                  have hBV : Below Y19.heap.size Y19 V := by rw [hV]; exact (Below.refl _ _).drew
                  have HYV := Lib.hid hBV
                  have HBV := Lib.hid (HBL2.out.below hBV)
                  have HK19 : Hid (∀ W, Below V.heap.size V W → W.cell? ⟨w.heap.size, 0, none⟩ = some (.int .i64 (pn : Int)) ∧ W.cell? ⟨w.heap.size, 1, none⟩ = some (.int .i64 (tn : Int)) ∧ W.cell? ⟨gF, 0, none⟩ = some (.slice A9 256 c9x)) := Lib.hid (fun W h => by
                    have hY := HYV.out.trans (h.mono HYV.out.size)
                    obtain ⟨g0, g1, _⟩ := HK2.out W (HYW.out.trans (hY.mono HYW.out.size))
                    exact ⟨g0, g1, (hY.cell (p := ⟨gF, 0, none⟩) HBL2.out.1).trans q90⟩)
                  have HD_0 : Hid (Below V.heap.size V V) := Lib.hid (Below.refl _ _)
                  clear q90
                  refine wp_region_F (S := fun (W : World) => W.cell? ⟨w.heap.size, 0, none⟩ = some (.int .i64 (pn : Int)) ∧ W.cell? ⟨w.heap.size, 1, none⟩ = some (.int .i64 (tn : Int)) ∧ W.cell? ⟨gF, 0, none⟩ = some (.slice A9 256 c9x)) [] (by kernel_rfl) (by rw [← hV]; exact HK19.out V (Below.refl _ _)) (fun hHeld => ?_)
                  rw [← hV] at hHeld ⊢
                  clear hV hBV
                  refine wpAnyF_take (i := 0) (oi := _) (v := ?_) rfl (by kernel_rfl) (by kernel_rfl) (by kernel_rfl) (by kernel_rfl) (fun _ _ _ h => h) (Or.inl ⟨by rfl, ?_⟩) (by assumption) ?_
                  rotate_left 1
                  · intro w hSw
                    (try dsimp only at hSw)
                    (first | (go_simp; done) | (go_simp; with_reducible rfl))
                  (try simp only [Act.put, List.getElem_toArray, List.getElem_cons_succ, List.getElem_cons_zero, List.setIfInBounds_toArray, List.set_cons_zero, List.set_cons_succ])
                  refine wpAnyF_take (i := 2) (oi := _) (v := ?_) rfl (by kernel_rfl) (by kernel_rfl) (by kernel_rfl) (by kernel_rfl) (fun _ _ _ h => h) (Or.inl ⟨by rfl, ?_⟩) (by assumption) ?_
                  rotate_left 1
                  · intro w hSw
                    (try dsimp only at hSw)
                    (first | (go_simp; done) | (go_simp; with_reducible rfl))
                  (try simp only [Act.put, List.getElem_toArray, List.getElem_cons_succ, List.getElem_cons_zero, List.setIfInBounds_toArray, List.set_cons_zero, List.set_cons_succ])
                  refine wpAnyF_take (i := 4) (oi := _) (v := ?_) rfl (by kernel_rfl) (by kernel_rfl) (by kernel_rfl) (by kernel_rfl) (fun _ _ _ h => h) (Or.inl ⟨by rfl, ?_⟩) (by assumption) ?_
                  rotate_left 1
                  · intro w hSw
                    (try dsimp only at hSw)
                    (first | (go_simp; done) | (go_simp; with_reducible rfl))
                  (try simp only [Act.put, List.getElem_toArray, List.getElem_cons_succ, List.getElem_cons_zero, List.setIfInBounds_toArray, List.set_cons_zero, List.set_cons_succ])
                  refine wpAnyF_take (i := 5) (oi := _) (v := ?_) rfl (by kernel_rfl) (by kernel_rfl) (by kernel_rfl) (by kernel_rfl) (fun _ _ _ h => h) (Or.inl ⟨by rfl, ?_⟩) (by assumption) ?_
                  rotate_left 1
                  · intro w hSw
                    (try dsimp only at hSw)
                    (first | (go_simp; done) | (go_simp; with_reducible rfl))
                  (try simp only [Act.put, List.getElem_toArray, List.getElem_cons_succ, List.getElem_cons_zero, List.setIfInBounds_toArray, List.set_cons_zero, List.set_cons_succ])
                  refine wpAnyF_take (i := 6) (oi := _) (v := ?_) rfl (by kernel_rfl) (by kernel_rfl) (by kernel_rfl) (by kernel_rfl) (fun _ _ _ h => h) (Or.inl ⟨by rfl, ?_⟩) (by assumption) ?_
                  rotate_left 1
                  · intro w hSw
                    (try dsimp only at hSw)
                    (first | (go_simp; done) | (go_simp; with_reducible rfl))
                  (try simp only [Act.put, List.getElem_toArray, List.getElem_cons_succ, List.getElem_cons_zero, List.setIfInBounds_toArray, List.set_cons_zero, List.set_cons_succ])
                  refine wpAnyF_ready (rs := [1, 7, 13]) (by kernel_rfl) (by simp) ?_
                  refine AllReadyF.cons (o := _) rfl (fun K hK => ?_) (AllReadyF.cons (o := _) rfl (fun K hK => ?_) (AllReadyF.cons (o := _) rfl (fun K hK => ?_) AllReadyF.nil))
                  · as_aux_lemma =>
                      have hA : Below V.heap.size V (V.alloc (.cells #[] 42)) := (Below.refl _ _).alloc (Nat.le_refl _) _
                      have HA_1 := Lib.hid hA
                      have HD_1 : Hid (Below V.heap.size V (V.alloc (.cells #[] 42))) := Lib.hid (HD_0.out.trans (hA.mono HD_0.out.size))
                      have hN := heap_alloc_new V (.cells #[] 42)
                      have HN_1 := Lib.hid hN
                      clear hA hN
                      have HR1n : Hid (RowN (V.alloc (.cells #[] 42)) V.heap.size (.slice (some ⟨V.heap.size, 0, none⟩) 0 0) 0) := Lib.hid (RowN.none_ HD_0.out.size)
                      go_simp
                      refine hK.out _ _ (HK19.out _ HD_1.out) (fun hHeld_1 => ?_)
                      clear hK K
                      (try simp only [Act.put, List.getElem_toArray, List.getElem_cons_succ, List.getElem_cons_zero, List.setIfInBounds_toArray, List.set_cons_zero, List.set_cons_succ])
                      generalize V.alloc (.cells #[] 42) = Y1 at *
                      obtain ⟨e1, he1⟩ : ∃ e, e = V.heap.size := ⟨_, rfl⟩
                      have HSe1 := Lib.hid he1
                      rw [← he1] at HN_1 ⊢
                      clear he1
                      have HR1_1 : Hid (RowN Y1 V.heap.size (.slice (some ⟨e1, 0, none⟩) 0 0) 0) := Lib.hid (by rw [HSe1.out]; exact HR1n.out)
                      refine wpAnyF_ready (rs := [3, 7, 13]) (by kernel_rfl) (by simp) ?_
                      refine AllReadyF.cons (o := _) rfl (fun K hK => ?_) (AllReadyF.cons (o := _) rfl (fun K hK => ?_) (AllReadyF.cons (o := _) rfl (fun K hK => ?_) AllReadyF.nil))
                      · as_aux_lemma =>
                          obtain ⟨vs, hvl, hone, hvs⟩ := (HBV.out.below HD_1.out).vals
                          rw [if_pos (by kernel_rfl)]
                          refine step_appG Y1 (.tmp 98) (.tmp 99) rfl V.heap.size HD_1.out.size (.slice (some ⟨e1, 0, none⟩) 0 0) 0 rfl HR1_1.out gF (tn + 1) cF vs rfl (by rw [hvl]; exact HSL.out) hone (fun i hi => (hvs i (by rw [HSL.out]; exact hi)).1) (by omega) ?_
                          clear hvl hone hvs
                          clear vs
                          intro v3 Y2 hr hb hfar
                          rw [Nat.zero_add] at hr
                          have HD_2 : Hid (Below V.heap.size V Y2) := Lib.hid (HD_1.out.trans hb)
                          have HR3_2 := Lib.hid hr
                          obtain ⟨A3, c3, rfl⟩ := hr.form
                          have HSZ_2 : Hid (Y1.heap.size ≤ Y2.heap.size) := Lib.hid hb.size
                          clear hr hb hfar
                          refine hK.out _ _ (HK19.out _ HD_2.out) (fun hHeld_2 => ?_)
                          clear hK K
                          (try simp only [Act.put, List.getElem_toArray, List.getElem_cons_succ, List.getElem_cons_zero, List.setIfInBounds_toArray, List.set_cons_zero, List.set_cons_succ])
                          refine wpAnyF_ready (rs := [7, 13]) (by kernel_rfl) (by simp) ?_
                          refine AllReadyF.cons (o := _) rfl (fun K hK => ?_) (AllReadyF.cons (o := _) rfl (fun K hK => ?_) AllReadyF.nil)
                          · as_aux_lemma =>
                              have hA : Below Y2.heap.size Y2 (Y2.alloc (.cells #[.slice A9 256 c9x] 42)) := (Below.refl _ _).alloc (Nat.le_refl _) _
                              have HA_3 := Lib.hid hA
                              have HD_3 : Hid (Below V.heap.size V (Y2.alloc (.cells #[.slice A9 256 c9x] 42))) := Lib.hid (HD_2.out.trans (hA.mono HD_2.out.size))
                              have hN := heap_alloc_new Y2 (.cells #[.slice A9 256 c9x] 42)
                              have HN_3 := Lib.hid hN
                              clear hA hN
                              go_simp
                              refine hK.out _ _ (HK19.out _ HD_3.out) (fun hHeld_3 => ?_)
                              clear hK K
                              (try simp only [Act.put, List.getElem_toArray, List.getElem_cons_succ, List.getElem_cons_zero, List.setIfInBounds_toArray, List.set_cons_zero, List.set_cons_succ])
                              generalize Y2.alloc (.cells #[.slice A9 256 c9x] 42) = Y3 at *
                              obtain ⟨e7, he7⟩ : ∃ e, e = Y2.heap.size := ⟨_, rfl⟩
                              have HSe7 := Lib.hid he7
                              rw [← he7] at HN_3 ⊢
                              clear he7
                              have HC7_3 : Hid (Y3.heap[e7]? = some (.cells #[.slice A9 256 c9x] 42 (0, 0))) := Lib.hid HN_3.out
                              have HR3_3 := Lib.hid (HR3_2.out.below HA_3.out)
                              refine wpAnyF_ready (rs := [8, 13]) (by kernel_rfl) (by simp) ?_
                              refine AllReadyF.cons (o := _) rfl (fun K hK => ?_) (AllReadyF.cons (o := _) rfl (fun K hK => ?_) AllReadyF.nil)
                              · as_aux_lemma =>
                                  rw [if_pos (by kernel_rfl)]
                                  refine step_appG Y3 (.tmp 100) (.tmp 104) rfl V.heap.size HD_3.out.size (.slice A3 (tn + 1) c3) (tn + 1) rfl HR3_3.out e7 1 1 [.slice A9 256 c9x] rfl rfl (fun u hu => by simp at hu; subst hu; rfl) (fun i hi => by
                                    have hi0 : i = 0 := by omega
                                    subst hi0
                                    exact blk_cell HC7_3.out 0) (by omega) ?_
                                  intro v8 Y4 hr hb hfar
                                  have HD_4 : Hid (Below V.heap.size V Y4) := Lib.hid (HD_3.out.trans hb)
                                  obtain ⟨A8, c8, rfl⟩ := hr.form
                                  clear hr hb hfar
                                  refine hK.out _ _ (HK19.out _ HD_4.out) (fun hHeld_4 => ?_)
                                  clear hK K
                                  (try simp only [Act.put, List.getElem_toArray, List.getElem_cons_succ, List.getElem_cons_zero, List.setIfInBounds_toArray, List.set_cons_zero, List.set_cons_succ])
                                  refine wpAnyF_ready (rs := [9, 13]) (by kernel_rfl) (by simp) ?_
                                  refine AllReadyF.cons (o := _) rfl (fun K hK => ?_) (AllReadyF.cons (o := _) rfl (fun K hK => ?_) AllReadyF.nil)
                                  · as_aux_lemma =>
                                      go_simp
                                      (go_at_call 13)
                                      refine (parse_len pn tn A8 (tn + 1 + 1) c8 Y4 HG.out (by omega)).mono ?_
                                      rintro e Y5 ⟨rfl, hb⟩
                                      have HA_5 := Lib.hid hb
                                      have HD_5 := Lib.hid (HD_4.out.trans (hb.mono HD_4.out.size))
                                      clear hb
                                      refine hK.out _ _ (HK19.out _ HD_5.out) (fun hHeld_5 => ?_)
                                      clear hK K
                                      (try simp only [Act.put, List.getElem_toArray, List.getElem_cons_succ, List.getElem_cons_zero, List.setIfInBounds_toArray, List.set_cons_zero, List.set_cons_succ])
                                      refine wpAnyF_take (i := 10) (oi := _) (v := ?_) rfl (by kernel_rfl) (by kernel_rfl) (by kernel_rfl) (by kernel_rfl) (fun _ _ _ h => h) (Or.inl ⟨by rfl, ?_⟩) (by assumption) ?_
                                      rotate_left 1
                                      · intro w hSw
                                        (try dsimp only at hSw)
                                        (first | (go_simp; done) | (go_simp; with_reducible rfl))
                                      (try simp only [Act.put, List.getElem_toArray, List.getElem_cons_succ, List.getElem_cons_zero, List.setIfInBounds_toArray, List.set_cons_zero, List.set_cons_succ])
                                      refine wpAnyF_take (i := 11) (oi := _) (v := ?_) rfl (by kernel_rfl) (by kernel_rfl) (by kernel_rfl) (by kernel_rfl) (fun _ _ _ h => h) (Or.inl ⟨by rfl, ?_⟩) (by assumption) ?_
                                      rotate_left 1
                                      · intro w hSw
                                        (try dsimp only at hSw)
                                        (first | (go_simp; done) | (go_simp; with_reducible rfl))
                                      (try simp only [Act.put, List.getElem_toArray, List.getElem_cons_succ, List.getElem_cons_zero, List.setIfInBounds_toArray, List.set_cons_zero, List.set_cons_succ])
                                      refine wpAnyF_take (i := 12) (oi := _) (v := ?_) rfl (by kernel_rfl) (by kernel_rfl) (by kernel_rfl) (by kernel_rfl) (fun _ _ _ h => h) (Or.inl ⟨by rfl, ?_⟩) (by assumption) ?_
                                      rotate_left 1
                                      · intro w hSw
                                        (try dsimp only at hSw)
                                        (first | (go_simp; done) | (go_simp; with_reducible rfl))
                                      (try simp only [Act.put, List.getElem_toArray, List.getElem_cons_succ, List.getElem_cons_zero, List.setIfInBounds_toArray, List.set_cons_zero, List.set_cons_succ])
                                      refine wpAnyF_ready (rs := [13]) (by kernel_rfl) (by simp) ?_
                                      refine AllReadyF.cons (o := _) rfl (fun K hK => ?_) AllReadyF.nil
                                      have hA : Below Y5.heap.size Y5 (Y5.alloc (.cells #[.int .u64 0, .slice none 0 0] 35)) := (Below.refl _ _).alloc (Nat.le_refl _) _
                                      have HA_6 := Lib.hid hA
                                      have HD_6 : Hid (Below V.heap.size V (Y5.alloc (.cells #[.int .u64 0, .slice none 0 0] 35))) := Lib.hid (HD_5.out.trans (hA.mono HD_5.out.size))
                                      have hN := heap_alloc_new Y5 (.cells #[.int .u64 0, .slice none 0 0] 35)
                                      have HN_6 := Lib.hid hN
                                      clear hA hN
                                      go_simp
                                      refine hK.out _ _ (HK19.out _ HD_6.out) (fun hHeld_6 => ?_)
                                      clear hK K
                                      (try simp only [Act.put, List.getElem_toArray, List.getElem_cons_succ, List.getElem_cons_zero, List.setIfInBounds_toArray, List.set_cons_zero, List.set_cons_succ])
                                      generalize Y5.alloc (.cells #[.int .u64 0, .slice none 0 0] 35) = Y6 at *
                                      obtain ⟨b13, hb13⟩ : ∃ e, e = Y5.heap.size := ⟨_, rfl⟩
                                      have HSb13 := Lib.hid hb13
                                      rw [← hb13] at HN_6 ⊢
                                      clear hb13
                                      have HB13 : Hid (V.heap.size ≤ b13) := Lib.hid (by rw [HSb13.out]; exact HD_5.out.size)
                                      have HX13_6 : Hid (Y6.heap[b13]? = some (.cells #[.int .u64 0, .slice none 0 0] 35 (0, 0))) := Lib.hid HN_6.out
                                      have q6 : Y6.cell? ⟨b13, 0, none⟩ = some (.int .u64 0) := blk_cell HX13_6.out 0
                                      have q7 : Y6.cell? ⟨b13, 1, none⟩ = some (.slice none 0 0) := blk_cell HX13_6.out 1
                                      have q8 : Y6.frozen? ⟨b13, 0, none⟩ = false := blk_free HX13_6.out 0
                                      have q9 : Y6.frozen? ⟨b13, 1, none⟩ = false := blk_free HX13_6.out 1
                                      have HDF : Hid (Below V.heap.size V ((Y6.setCell ⟨b13, 0, none⟩ (.int .u64 0)).setCell ⟨b13, 1, none⟩ (.slice none 0 0))) := Lib.hid ((HD_6.out.setCell (p := ⟨b13, 0, none⟩) HB13.out _).setCell (p := ⟨b13, 1, none⟩) HB13.out _)
                                      refine wpAnyF_ready (rs := [14]) (by kernel_rfl) (by simp) ?_
                                      refine AllReadyF.cons (o := _) rfl (fun K hK => ?_) AllReadyF.nil
                                      go_simp
                                      refine hK.out _ _ (HK19.out _ HDF.out) (fun hHeld14 => ?_)
                                      clear hK K
                                      (try simp only [Act.put, List.getElem_toArray, List.getElem_cons_succ, List.getElem_cons_zero, List.setIfInBounds_toArray, List.set_cons_zero, List.set_cons_succ])
                                      refine wpAnyF_take (i := 15) (oi := _) (v := ?_) rfl (by kernel_rfl) (by kernel_rfl) (by kernel_rfl) (by kernel_rfl) (fun _ _ _ h => h) (Or.inl ⟨by rfl, ?_⟩) (by assumption) ?_
                                      rotate_left 1
                                      · intro w hSw
                                        (try dsimp only at hSw)
                                        (first | (go_simp; done) | (go_simp; with_reducible rfl))
                                      (try simp only [Act.put, List.getElem_toArray, List.getElem_cons_succ, List.getElem_cons_zero, List.setIfInBounds_toArray, List.set_cons_zero, List.set_cons_succ])
                                      refine wpAnyF_done (by kernel_rfl) ?_ _
                                      go_wp2
                                      go_meet
                                      case rel => exact ⟨rfl, HYV.out.trans (HDF.out.mono HYV.out.size)⟩
                                  · as_aux_lemma =>
                                      have hA : Below Y4.heap.size Y4 (Y4.alloc (.cells #[.int .u64 0, .slice none 0 0] 35)) := (Below.refl _ _).alloc (Nat.le_refl _) _
                                      have HA_5 := Lib.hid hA
                                      have HD_5 : Hid (Below V.heap.size V (Y4.alloc (.cells #[.int .u64 0, .slice none 0 0] 35))) := Lib.hid (HD_4.out.trans (hA.mono HD_4.out.size))
                                      have hN := heap_alloc_new Y4 (.cells #[.int .u64 0, .slice none 0 0] 35)
                                      have HN_5 := Lib.hid hN
                                      clear hA hN
                                      go_simp
                                      refine hK.out _ _ (HK19.out _ HD_5.out) (fun hHeld_5 => ?_)
                                      clear hK K
                                      (try simp only [Act.put, List.getElem_toArray, List.getElem_cons_succ, List.getElem_cons_zero, List.setIfInBounds_toArray, List.set_cons_zero, List.set_cons_succ])
                                      generalize Y4.alloc (.cells #[.int .u64 0, .slice none 0 0] 35) = Y5 at *
                                      obtain ⟨b13, hb13⟩ : ∃ e, e = Y4.heap.size := ⟨_, rfl⟩
                                      have HSb13 := Lib.hid hb13
                                      rw [← hb13] at HN_5 ⊢
                                      clear hb13
                                      have HB13 : Hid (V.heap.size ≤ b13) := Lib.hid (by rw [HSb13.out]; exact HD_4.out.size)
                                      have HX13_5 : Hid (Y5.heap[b13]? = some (.cells #[.int .u64 0, .slice none 0 0] 35 (0, 0))) := Lib.hid HN_5.out
                                      refine wpAnyF_ready (rs := [9]) (by kernel_rfl) (by simp) ?_
                                      refine AllReadyF.cons (o := _) rfl (fun K hK => ?_) AllReadyF.nil
                                      go_simp
                                      (go_at_call 13)
                                      refine (parse_len pn tn A8 (tn + 1 + 1) c8 Y5 HG.out (by omega)).mono ?_
                                      rintro e Y6 ⟨rfl, hb⟩
                                      have HA_6 := Lib.hid hb
                                      have HD_6 := Lib.hid (HD_5.out.trans (hb.mono HD_5.out.size))
                                      clear hb
                                      refine hK.out _ _ (HK19.out _ HD_6.out) (fun hHeld_6 => ?_)
                                      clear hK K
                                      (try simp only [Act.put, List.getElem_toArray, List.getElem_cons_succ, List.getElem_cons_zero, List.setIfInBounds_toArray, List.set_cons_zero, List.set_cons_succ])
                                      have HX13_6 : Hid (Y6.heap[b13]? = some (.cells #[.int .u64 0, .slice none 0 0] 35 (0, 0))) := Lib.hid ((HA_6.out.block _ (blk_lt HX13_5.out)).trans HX13_5.out)
                                      refine wpAnyF_take (i := 10) (oi := _) (v := ?_) rfl (by kernel_rfl) (by kernel_rfl) (by kernel_rfl) (by kernel_rfl) (fun _ _ _ h => h) (Or.inl ⟨by rfl, ?_⟩) (by assumption) ?_
                                      rotate_left 1
                                      · intro w hSw
                                        (try dsimp only at hSw)
                                        (first | (go_simp; done) | (go_simp; with_reducible rfl))
                                      (try simp only [Act.put, List.getElem_toArray, List.getElem_cons_succ, List.getElem_cons_zero, List.setIfInBounds_toArray, List.set_cons_zero, List.set_cons_succ])
                                      refine wpAnyF_take (i := 11) (oi := _) (v := ?_) rfl (by kernel_rfl) (by kernel_rfl) (by kernel_rfl) (by kernel_rfl) (fun _ _ _ h => h) (Or.inl ⟨by rfl, ?_⟩) (by assumption) ?_
                                      rotate_left 1
                                      · intro w hSw
                                        (try dsimp only at hSw)
                                        (first | (go_simp; done) | (go_simp; with_reducible rfl))
                                      (try simp only [Act.put, List.getElem_toArray, List.getElem_cons_succ, List.getElem_cons_zero, List.setIfInBounds_toArray, List.set_cons_zero, List.set_cons_succ])
                                      refine wpAnyF_take (i := 12) (oi := _) (v := ?_) rfl (by kernel_rfl) (by kernel_rfl) (by kernel_rfl) (by kernel_rfl) (fun _ _ _ h => h) (Or.inl ⟨by rfl, ?_⟩) (by assumption) ?_
                                      rotate_left 1
                                      · intro w hSw
                                        (try dsimp only at hSw)
                                        (first | (go_simp; done) | (go_simp; with_reducible rfl))
                                      (try simp only [Act.put, List.getElem_toArray, List.getElem_cons_succ, List.getElem_cons_zero, List.setIfInBounds_toArray, List.set_cons_zero, List.set_cons_succ])
                                      have q6 : Y6.cell? ⟨b13, 0, none⟩ = some (.int .u64 0) := blk_cell HX13_6.out 0
                                      have q7 : Y6.cell? ⟨b13, 1, none⟩ = some (.slice none 0 0) := blk_cell HX13_6.out 1
                                      have q8 : Y6.frozen? ⟨b13, 0, none⟩ = false := blk_free HX13_6.out 0
                                      have q9 : Y6.frozen? ⟨b13, 1, none⟩ = false := blk_free HX13_6.out 1
                                      have HDF : Hid (Below V.heap.size V ((Y6.setCell ⟨b13, 0, none⟩ (.int .u64 0)).setCell ⟨b13, 1, none⟩ (.slice none 0 0))) := Lib.hid ((HD_6.out.setCell (p := ⟨b13, 0, none⟩) HB13.out _).setCell (p := ⟨b13, 1, none⟩) HB13.out _)
                                      refine wpAnyF_ready (rs := [14]) (by kernel_rfl) (by simp) ?_
                                      refine AllReadyF.cons (o := _) rfl (fun K hK => ?_) AllReadyF.nil
                                      go_simp
                                      refine hK.out _ _ (HK19.out _ HDF.out) (fun hHeld14 => ?_)
                                      clear hK K
                                      (try simp only [Act.put, List.getElem_toArray, List.getElem_cons_succ, List.getElem_cons_zero, List.setIfInBounds_toArray, List.set_cons_zero, List.set_cons_succ])
                                      refine wpAnyF_take (i := 15) (oi := _) (v := ?_) rfl (by kernel_rfl) (by kernel_rfl) (by kernel_rfl) (by kernel_rfl) (fun _ _ _ h => h) (Or.inl ⟨by rfl, ?_⟩) (by assumption) ?_
                                      rotate_left 1
                                      · intro w hSw
                                        (try dsimp only at hSw)
                                        (first | (go_simp; done) | (go_simp; with_reducible rfl))
                                      (try simp only [Act.put, List.getElem_toArray, List.getElem_cons_succ, List.getElem_cons_zero, List.setIfInBounds_toArray, List.set_cons_zero, List.set_cons_succ])
                                      refine wpAnyF_done (by kernel_rfl) ?_ _
                                      go_wp2
                                      go_meet
                                      case rel => exact ⟨rfl, HYV.out.trans (HDF.out.mono HYV.out.size)⟩
                              · as_aux_lemma =>
                                  have hA : Below Y3.heap.size Y3 (Y3.alloc (.cells #[.int .u64 0, .slice none 0 0] 35)) := (Below.refl _ _).alloc (Nat.le_refl _) _
                                  have HA_4 := Lib.hid hA
                                  have HD_4 : Hid (Below V.heap.size V (Y3.alloc (.cells #[.int .u64 0, .slice none 0 0] 35))) := Lib.hid (HD_3.out.trans (hA.mono HD_3.out.size))
                                  have hN := heap_alloc_new Y3 (.cells #[.int .u64 0, .slice none 0 0] 35)
                                  have HN_4 := Lib.hid hN
                                  clear hA hN
                                  go_simp
                                  refine hK.out _ _ (HK19.out _ HD_4.out) (fun hHeld_4 => ?_)
                                  clear hK K
                                  (try simp only [Act.put, List.getElem_toArray, List.getElem_cons_succ, List.getElem_cons_zero, List.setIfInBounds_toArray, List.set_cons_zero, List.set_cons_succ])
                                  generalize Y3.alloc (.cells #[.int .u64 0, .slice none 0 0] 35) = Y4 at *
                                  obtain ⟨b13, hb13⟩ : ∃ e, e = Y3.heap.size := ⟨_, rfl⟩
                                  have HSb13 := Lib.hid hb13
                                  rw [← hb13] at HN_4 ⊢
                                  clear hb13
                                  have HB13 : Hid (V.heap.size ≤ b13) := Lib.hid (by rw [HSb13.out]; exact HD_3.out.size)
                                  have HX13_4 : Hid (Y4.heap[b13]? = some (.cells #[.int .u64 0, .slice none 0 0] 35 (0, 0))) := Lib.hid HN_4.out
                                  have HC7_4 : Hid (Y4.heap[e7]? = some (.cells #[.slice A9 256 c9x] 42 (0, 0))) := Lib.hid ((HA_4.out.block _ (blk_lt HC7_3.out)).trans HC7_3.out)
                                  have HR3_4 := Lib.hid (HR3_3.out.below HA_4.out)
                                  refine wpAnyF_ready (rs := [8]) (by kernel_rfl) (by simp) ?_
                                  refine AllReadyF.cons (o := _) rfl (fun K hK => ?_) AllReadyF.nil
                                  rw [if_pos (by kernel_rfl)]
                                  refine step_appG Y4 (.tmp 100) (.tmp 104) rfl V.heap.size HD_4.out.size (.slice A3 (tn + 1) c3) (tn + 1) rfl HR3_4.out e7 1 1 [.slice A9 256 c9x] rfl rfl (fun u hu => by simp at hu; subst hu; rfl) (fun i hi => by
                                    have hi0 : i = 0 := by omega
                                    subst hi0
                                    exact blk_cell HC7_4.out 0) (by omega) ?_
                                  intro v8 Y5 hr hb hfar
                                  have HD_5 : Hid (Below V.heap.size V Y5) := Lib.hid (HD_4.out.trans hb)
                                  obtain ⟨A8, c8, rfl⟩ := hr.form
                                  have HX13_5 : Hid (Y5.heap[b13]? = some (.cells #[.int .u64 0, .slice none 0 0] 35 (0, 0))) := Lib.hid ((hfar b13 (blk_lt HX13_4.out) (HR3_4.out.far HX13_4.out (by decide))).trans HX13_4.out)
                                  clear hr hb hfar
                                  refine hK.out _ _ (HK19.out _ HD_5.out) (fun hHeld_5 => ?_)
                                  clear hK K
                                  (try simp only [Act.put, List.getElem_toArray, List.getElem_cons_succ, List.getElem_cons_zero, List.setIfInBounds_toArray, List.set_cons_zero, List.set_cons_succ])
                                  refine wpAnyF_ready (rs := [9]) (by kernel_rfl) (by simp) ?_
                                  refine AllReadyF.cons (o := _) rfl (fun K hK => ?_) AllReadyF.nil
                                  go_simp
                                  (go_at_call 13)
                                  refine (parse_len pn tn A8 (tn + 1 + 1) c8 Y5 HG.out (by omega)).mono ?_
                                  rintro e Y6 ⟨rfl, hb⟩
                                  have HA_6 := Lib.hid hb
                                  have HD_6 := Lib.hid (HD_5.out.trans (hb.mono HD_5.out.size))
                                  clear hb
                                  refine hK.out _ _ (HK19.out _ HD_6.out) (fun hHeld_6 => ?_)
                                  clear hK K
                                  (try simp only [Act.put, List.getElem_toArray, List.getElem_cons_succ, List.getElem_cons_zero, List.setIfInBounds_toArray, List.set_cons_zero, List.set_cons_succ])
                                  have HX13_6 : Hid (Y6.heap[b13]? = some (.cells #[.int .u64 0, .slice none 0 0] 35 (0, 0))) := Lib.hid ((HA_6.out.block _ (blk_lt HX13_5.out)).trans HX13_5.out)
                                  refine wpAnyF_take (i := 10) (oi := _) (v := ?_) rfl (by kernel_rfl) (by kernel_rfl) (by kernel_rfl) (by kernel_rfl) (fun _ _ _ h => h) (Or.inl ⟨by rfl, ?_⟩) (by assumption) ?_
                                  rotate_left 1
                                  · intro w hSw
                                    (try dsimp only at hSw)
                                    (first | (go_simp; done) | (go_simp; with_reducible rfl))
                                  (try simp only [Act.put, List.getElem_toArray, List.getElem_cons_succ, List.getElem_cons_zero, List.setIfInBounds_toArray, List.set_cons_zero, List.set_cons_succ])
                                  refine wpAnyF_take (i := 11) (oi := _) (v := ?_) rfl (by kernel_rfl) (by kernel_rfl) (by kernel_rfl) (by kernel_rfl) (fun _ _ _ h => h) (Or.inl ⟨by rfl, ?_⟩) (by assumption) ?_
                                  rotate_left 1
                                  · intro w hSw
                                    (try dsimp only at hSw)
                                    (first | (go_simp; done) | (go_simp; with_reducible rfl))
                                  (try simp only [Act.put, List.getElem_toArray, List.getElem_cons_succ, List.getElem_cons_zero, List.setIfInBounds_toArray, List.set_cons_zero, List.set_cons_succ])
                                  refine wpAnyF_take (i := 12) (oi := _) (v := ?_) rfl (by kernel_rfl) (by kernel_rfl) (by kernel_rfl) (by kernel_rfl) (fun _ _ _ h => h) (Or.inl ⟨by rfl, ?_⟩) (by assumption) ?_
                                  rotate_left 1
                                  · intro w hSw
                                    (try dsimp only at hSw)
                                    (first | (go_simp; done) | (go_simp; with_reducible rfl))
                                  (try simp only [Act.put, List.getElem_toArray, List.getElem_cons_succ, List.getElem_cons_zero, List.setIfInBounds_toArray, List.set_cons_zero, List.set_cons_succ])
                                  have q6 : Y6.cell? ⟨b13, 0, none⟩ = some (.int .u64 0) := blk_cell HX13_6.out 0
                                  have q7 : Y6.cell? ⟨b13, 1, none⟩ = some (.slice none 0 0) := blk_cell HX13_6.out 1
                                  have q8 : Y6.frozen? ⟨b13, 0, none⟩ = false := blk_free HX13_6.out 0
                                  have q9 : Y6.frozen? ⟨b13, 1, none⟩ = false := blk_free HX13_6.out 1
                                  have HDF : Hid (Below V.heap.size V ((Y6.setCell ⟨b13, 0, none⟩ (.int .u64 0)).setCell ⟨b13, 1, none⟩ (.slice none 0 0))) := Lib.hid ((HD_6.out.setCell (p := ⟨b13, 0, none⟩) HB13.out _).setCell (p := ⟨b13, 1, none⟩) HB13.out _)
                                  refine wpAnyF_ready (rs := [14]) (by kernel_rfl) (by simp) ?_
                                  refine AllReadyF.cons (o := _) rfl (fun K hK => ?_) AllReadyF.nil
                                  go_simp
                                  refine hK.out _ _ (HK19.out _ HDF.out) (fun hHeld14 => ?_)
                                  clear hK K
                                  (try simp only [Act.put, List.getElem_toArray, List.getElem_cons_succ, List.getElem_cons_zero, List.setIfInBounds_toArray, List.set_cons_zero, List.set_cons_succ])
                                  refine wpAnyF_take (i := 15) (oi := _) (v := ?_) rfl (by kernel_rfl) (by kernel_rfl) (by kernel_rfl) (by kernel_rfl) (fun _ _ _ h => h) (Or.inl ⟨by rfl, ?_⟩) (by assumption) ?_
                                  rotate_left 1
                                  · intro w hSw
                                    (try dsimp only at hSw)
                                    (first | (go_simp; done) | (go_simp; with_reducible rfl))
                                  (try simp only [Act.put, List.getElem_toArray, List.getElem_cons_succ, List.getElem_cons_zero, List.setIfInBounds_toArray, List.set_cons_zero, List.set_cons_succ])
                                  refine wpAnyF_done (by kernel_rfl) ?_ _
                                  go_wp2
                                  go_meet
                                  case rel => exact ⟨rfl, HYV.out.trans (HDF.out.mono HYV.out.size)⟩
                          · as_aux_lemma =>
                              have hA : Below Y2.heap.size Y2 (Y2.alloc (.cells #[.int .u64 0, .slice none 0 0] 35)) := (Below.refl _ _).alloc (Nat.le_refl _) _
                              have HA_3 := Lib.hid hA
                              have HD_3 : Hid (Below V.heap.size V (Y2.alloc (.cells #[.int .u64 0, .slice none 0 0] 35))) := Lib.hid (HD_2.out.trans (hA.mono HD_2.out.size))
                              have hN := heap_alloc_new Y2 (.cells #[.int .u64 0, .slice none 0 0] 35)
                              have HN_3 := Lib.hid hN
                              clear hA hN
                              go_simp
                              refine hK.out _ _ (HK19.out _ HD_3.out) (fun hHeld_3 => ?_)
                              clear hK K
                              (try simp only [Act.put, List.getElem_toArray, List.getElem_cons_succ, List.getElem_cons_zero, List.setIfInBounds_toArray, List.set_cons_zero, List.set_cons_succ])
                              generalize Y2.alloc (.cells #[.int .u64 0, .slice none 0 0] 35) = Y3 at *
                              obtain ⟨b13, hb13⟩ : ∃ e, e = Y2.heap.size := ⟨_, rfl⟩
                              have HSb13 := Lib.hid hb13
                              rw [← hb13] at HN_3 ⊢
                              clear hb13
                              have HB13 : Hid (V.heap.size ≤ b13) := Lib.hid (by rw [HSb13.out]; exact HD_2.out.size)
                              have HX13_3 : Hid (Y3.heap[b13]? = some (.cells #[.int .u64 0, .slice none 0 0] 35 (0, 0))) := Lib.hid HN_3.out
                              have HR3_3 := Lib.hid (HR3_2.out.below HA_3.out)
                              refine wpAnyF_ready (rs := [7]) (by kernel_rfl) (by simp) ?_
                              refine AllReadyF.cons (o := _) rfl (fun K hK => ?_) AllReadyF.nil
                              have hA : Below Y3.heap.size Y3 (Y3.alloc (.cells #[.slice A9 256 c9x] 42)) := (Below.refl _ _).alloc (Nat.le_refl _) _
                              have HA_4 := Lib.hid hA
                              have HD_4 : Hid (Below V.heap.size V (Y3.alloc (.cells #[.slice A9 256 c9x] 42))) := Lib.hid (HD_3.out.trans (hA.mono HD_3.out.size))
                              have hN := heap_alloc_new Y3 (.cells #[.slice A9 256 c9x] 42)
                              have HN_4 := Lib.hid hN
                              clear hA hN
                              go_simp
                              refine hK.out _ _ (HK19.out _ HD_4.out) (fun hHeld_4 => ?_)
                              clear hK K
                              (try simp only [Act.put, List.getElem_toArray, List.getElem_cons_succ, List.getElem_cons_zero, List.setIfInBounds_toArray, List.set_cons_zero, List.set_cons_succ])
                              generalize Y3.alloc (.cells #[.slice A9 256 c9x] 42) = Y4 at *
                              obtain ⟨e7, he7⟩ : ∃ e, e = Y3.heap.size := ⟨_, rfl⟩
                              have HSe7 := Lib.hid he7
                              rw [← he7] at HN_4 ⊢
                              clear he7
                              have HC7_4 : Hid (Y4.heap[e7]? = some (.cells #[.slice A9 256 c9x] 42 (0, 0))) := Lib.hid HN_4.out
                              have HX13_4 : Hid (Y4.heap[b13]? = some (.cells #[.int .u64 0, .slice none 0 0] 35 (0, 0))) := Lib.hid ((HA_4.out.block _ (blk_lt HX13_3.out)).trans HX13_3.out)
                              have HR3_4 := Lib.hid (HR3_3.out.below HA_4.out)
                              refine wpAnyF_ready (rs := [8]) (by kernel_rfl) (by simp) ?_
                              refine AllReadyF.cons (o := _) rfl (fun K hK => ?_) AllReadyF.nil
                              rw [if_pos (by kernel_rfl)]
                              refine step_appG Y4 (.tmp 100) (.tmp 104) rfl V.heap.size HD_4.out.size (.slice A3 (tn + 1) c3) (tn + 1) rfl HR3_4.out e7 1 1 [.slice A9 256 c9x] rfl rfl (fun u hu => by simp at hu; subst hu; rfl) (fun i hi => by
                                have hi0 : i = 0 := by omega
                                subst hi0
                                exact blk_cell HC7_4.out 0) (by omega) ?_
                              intro v8 Y5 hr hb hfar
                              have HD_5 : Hid (Below V.heap.size V Y5) := Lib.hid (HD_4.out.trans hb)
                              obtain ⟨A8, c8, rfl⟩ := hr.form
                              have HX13_5 : Hid (Y5.heap[b13]? = some (.cells #[.int .u64 0, .slice none 0 0] 35 (0, 0))) := Lib.hid ((hfar b13 (blk_lt HX13_4.out) (HR3_4.out.far HX13_4.out (by decide))).trans HX13_4.out)
                              clear hr hb hfar
                              refine hK.out _ _ (HK19.out _ HD_5.out) (fun hHeld_5 => ?_)
                              clear hK K
                              (try simp only [Act.put, List.getElem_toArray, List.getElem_cons_succ, List.getElem_cons_zero, List.setIfInBounds_toArray, List.set_cons_zero, List.set_cons_succ])
                              refine wpAnyF_ready (rs := [9]) (by kernel_rfl) (by simp) ?_
                              refine AllReadyF.cons (o := _) rfl (fun K hK => ?_) AllReadyF.nil
                              go_simp
                              (go_at_call 13)
                              refine (parse_len pn tn A8 (tn + 1 + 1) c8 Y5 HG.out (by omega)).mono ?_
                              rintro e Y6 ⟨rfl, hb⟩
                              have HA_6 := Lib.hid hb
                              have HD_6 := Lib.hid (HD_5.out.trans (hb.mono HD_5.out.size))
                              clear hb
                              refine hK.out _ _ (HK19.out _ HD_6.out) (fun hHeld_6 => ?_)
                              clear hK K
                              (try simp only [Act.put, List.getElem_toArray, List.getElem_cons_succ, List.getElem_cons_zero, List.setIfInBounds_toArray, List.set_cons_zero, List.set_cons_succ])
                              have HX13_6 : Hid (Y6.heap[b13]? = some (.cells #[.int .u64 0, .slice none 0 0] 35 (0, 0))) := Lib.hid ((HA_6.out.block _ (blk_lt HX13_5.out)).trans HX13_5.out)
                              refine wpAnyF_take (i := 10) (oi := _) (v := ?_) rfl (by kernel_rfl) (by kernel_rfl) (by kernel_rfl) (by kernel_rfl) (fun _ _ _ h => h) (Or.inl ⟨by rfl, ?_⟩) (by assumption) ?_
                              rotate_left 1
                              · intro w hSw
                                (try dsimp only at hSw)
                                (first | (go_simp; done) | (go_simp; with_reducible rfl))
                              (try simp only [Act.put, List.getElem_toArray, List.getElem_cons_succ, List.getElem_cons_zero, List.setIfInBounds_toArray, List.set_cons_zero, List.set_cons_succ])
                              refine wpAnyF_take (i := 11) (oi := _) (v := ?_) rfl (by kernel_rfl) (by kernel_rfl) (by kernel_rfl) (by kernel_rfl) (fun _ _ _ h => h) (Or.inl ⟨by rfl, ?_⟩) (by assumption) ?_
                              rotate_left 1
                              · intro w hSw
                                (try dsimp only at hSw)
                                (first | (go_simp; done) | (go_simp; with_reducible rfl))
                              (try simp only [Act.put, List.getElem_toArray, List.getElem_cons_succ, List.getElem_cons_zero, List.setIfInBounds_toArray, List.set_cons_zero, List.set_cons_succ])
                              refine wpAnyF_take (i := 12) (oi := _) (v := ?_) rfl (by kernel_rfl) (by kernel_rfl) (by kernel_rfl) (by kernel_rfl) (fun _ _ _ h => h) (Or.inl ⟨by rfl, ?_⟩) (by assumption) ?_
                              rotate_left 1
                              · intro w hSw
                                (try dsimp only at hSw)
                                (first | (go_simp; done) | (go_simp; with_reducible rfl))
                              (try simp only [Act.put, List.getElem_toArray, List.getElem_cons_succ, List.getElem_cons_zero, List.setIfInBounds_toArray, List.set_cons_zero, List.set_cons_succ])
                              have q6 : Y6.cell? ⟨b13, 0, none⟩ = some (.int .u64 0) := blk_cell HX13_6.out 0
                              have q7 : Y6.cell? ⟨b13, 1, none⟩ = some (.slice none 0 0) := blk_cell HX13_6.out 1
                              have q8 : Y6.frozen? ⟨b13, 0, none⟩ = false := blk_free HX13_6.out 0
                              have q9 : Y6.frozen? ⟨b13, 1, none⟩ = false := blk_free HX13_6.out 1
                              have HDF : Hid (Below V.heap.size V ((Y6.setCell ⟨b13, 0, none⟩ (.int .u64 0)).setCell ⟨b13, 1, none⟩ (.slice none 0 0))) := Lib.hid ((HD_6.out.setCell (p := ⟨b13, 0, none⟩) HB13.out _).setCell (p := ⟨b13, 1, none⟩) HB13.out _)
                              refine wpAnyF_ready (rs := [14]) (by kernel_rfl) (by simp) ?_
                              refine AllReadyF.cons (o := _) rfl (fun K hK => ?_) AllReadyF.nil
                              go_simp
                              refine hK.out _ _ (HK19.out _ HDF.out) (fun hHeld14 => ?_)
                              clear hK K
                              (try simp only [Act.put, List.getElem_toArray, List.getElem_cons_succ, List.getElem_cons_zero, List.setIfInBounds_toArray, List.set_cons_zero, List.set_cons_succ])
                              refine wpAnyF_take (i := 15) (oi := _) (v := ?_) rfl (by kernel_rfl) (by kernel_rfl) (by kernel_rfl) (by kernel_rfl) (fun _ _ _ h => h) (Or.inl ⟨by rfl, ?_⟩) (by assumption) ?_
                              rotate_left 1
                              · intro w hSw
                                (try dsimp only at hSw)
                                (first | (go_simp; done) | (go_simp; with_reducible rfl))
                              (try simp only [Act.put, List.getElem_toArray, List.getElem_cons_succ, List.getElem_cons_zero, List.setIfInBounds_toArray, List.set_cons_zero, List.set_cons_succ])
                              refine wpAnyF_done (by kernel_rfl) ?_ _
                              go_wp2
                              go_meet
                              case rel => exact ⟨rfl, HYV.out.trans (HDF.out.mono HYV.out.size)⟩
                      · as_aux_lemma =>
                          have hA : Below Y1.heap.size Y1 (Y1.alloc (.cells #[.slice A9 256 c9x] 42)) := (Below.refl _ _).alloc (Nat.le_refl _) _
                          have HA_2 := Lib.hid hA
                          have HD_2 : Hid (Below V.heap.size V (Y1.alloc (.cells #[.slice A9 256 c9x] 42))) := Lib.hid (HD_1.out.trans (hA.mono HD_1.out.size))
                          have hN := heap_alloc_new Y1 (.cells #[.slice A9 256 c9x] 42)
                          have HN_2 := Lib.hid hN
                          clear hA hN
                          go_simp
                          refine hK.out _ _ (HK19.out _ HD_2.out) (fun hHeld_2 => ?_)
                          clear hK K
                          (try simp only [Act.put, List.getElem_toArray, List.getElem_cons_succ, List.getElem_cons_zero, List.setIfInBounds_toArray, List.set_cons_zero, List.set_cons_succ])
                          generalize Y1.alloc (.cells #[.slice A9 256 c9x] 42) = Y2 at *
                          obtain ⟨e7, he7⟩ : ∃ e, e = Y1.heap.size := ⟨_, rfl⟩
                          have HSe7 := Lib.hid he7
                          rw [← he7] at HN_2 ⊢
                          clear he7
                          have HE17 : Hid (e1 ≠ e7) := Lib.hid (by rw [HSe7.out]; exact Nat.ne_of_lt (HR1_1.out.lt rfl))
                          have HC7_2 : Hid (Y2.heap[e7]? = some (.cells #[.slice A9 256 c9x] 42 (0, 0))) := Lib.hid HN_2.out
                          have HR1_2 := Lib.hid (HR1_1.out.below HA_2.out)
                          refine wpAnyF_ready (rs := [3, 13]) (by kernel_rfl) (by simp) ?_
                          refine AllReadyF.cons (o := _) rfl (fun K hK => ?_) (AllReadyF.cons (o := _) rfl (fun K hK => ?_) AllReadyF.nil)
                          · as_aux_lemma =>
                              obtain ⟨vs, hvl, hone, hvs⟩ := (HBV.out.below HD_2.out).vals
                              rw [if_pos (by kernel_rfl)]
                              refine step_appG Y2 (.tmp 98) (.tmp 99) rfl V.heap.size HD_2.out.size (.slice (some ⟨e1, 0, none⟩) 0 0) 0 rfl HR1_2.out gF (tn + 1) cF vs rfl (by rw [hvl]; exact HSL.out) hone (fun i hi => (hvs i (by rw [HSL.out]; exact hi)).1) (by omega) ?_
                              clear hvl hone hvs
                              clear vs
                              intro v3 Y3 hr hb hfar
                              rw [Nat.zero_add] at hr
                              have HD_3 : Hid (Below V.heap.size V Y3) := Lib.hid (HD_2.out.trans hb)
                              have HR3_3 := Lib.hid hr
                              obtain ⟨A3, c3, rfl⟩ := hr.form
                              have HSZ_3 : Hid (Y2.heap.size ≤ Y3.heap.size) := Lib.hid hb.size
                              have HC7_3 : Hid (Y3.heap[e7]? = some (.cells #[.slice A9 256 c9x] 42 (0, 0))) := Lib.hid ((hfar e7 (blk_lt HC7_2.out) (fun e => HE17.out (Option.some.inj e))).trans HC7_2.out)
                              clear hr hb hfar
                              refine hK.out _ _ (HK19.out _ HD_3.out) (fun hHeld_3 => ?_)
                              clear hK K
                              (try simp only [Act.put, List.getElem_toArray, List.getElem_cons_succ, List.getElem_cons_zero, List.setIfInBounds_toArray, List.set_cons_zero, List.set_cons_succ])
                              refine wpAnyF_ready (rs := [8, 13]) (by kernel_rfl) (by simp) ?_
                              refine AllReadyF.cons (o := _) rfl (fun K hK => ?_) (AllReadyF.cons (o := _) rfl (fun K hK => ?_) AllReadyF.nil)
                              · as_aux_lemma =>
                                  rw [if_pos (by kernel_rfl)]
                                  refine step_appG Y3 (.tmp 100) (.tmp 104) rfl V.heap.size HD_3.out.size (.slice A3 (tn + 1) c3) (tn + 1) rfl HR3_3.out e7 1 1 [.slice A9 256 c9x] rfl rfl (fun u hu => by simp at hu; subst hu; rfl) (fun i hi => by
                                    have hi0 : i = 0 := by omega
                                    subst hi0
                                    exact blk_cell HC7_3.out 0) (by omega) ?_
                                  intro v8 Y4 hr hb hfar
                                  have HD_4 : Hid (Below V.heap.size V Y4) := Lib.hid (HD_3.out.trans hb)
                                  obtain ⟨A8, c8, rfl⟩ := hr.form
                                  clear hr hb hfar
                                  refine hK.out _ _ (HK19.out _ HD_4.out) (fun hHeld_4 => ?_)
                                  clear hK K
                                  (try simp only [Act.put, List.getElem_toArray, List.getElem_cons_succ, List.getElem_cons_zero, List.setIfInBounds_toArray, List.set_cons_zero, List.set_cons_succ])
                                  refine wpAnyF_ready (rs := [9, 13]) (by kernel_rfl) (by simp) ?_
                                  refine AllReadyF.cons (o := _) rfl (fun K hK => ?_) (AllReadyF.cons (o := _) rfl (fun K hK => ?_) AllReadyF.nil)
                                  · as_aux_lemma =>
                                      go_simp
                                      (go_at_call 13)
                                      refine (parse_len pn tn A8 (tn + 1 + 1) c8 Y4 HG.out (by omega)).mono ?_
                                      rintro e Y5 ⟨rfl, hb⟩
                                      have HA_5 := Lib.hid hb
                                      have HD_5 := Lib.hid (HD_4.out.trans (hb.mono HD_4.out.size))
                                      clear hb
                                      refine hK.out _ _ (HK19.out _ HD_5.out) (fun hHeld_5 => ?_)
                                      clear hK K
                                      (try simp only [Act.put, List.getElem_toArray, List.getElem_cons_succ, List.getElem_cons_zero, List.setIfInBounds_toArray, List.set_cons_zero, List.set_cons_succ])
                                      refine wpAnyF_take (i := 10) (oi := _) (v := ?_) rfl (by kernel_rfl) (by kernel_rfl) (by kernel_rfl) (by kernel_rfl) (fun _ _ _ h => h) (Or.inl ⟨by rfl, ?_⟩) (by assumption) ?_
                                      rotate_left 1
                                      · intro w hSw
                                        (try dsimp only at hSw)
                                        (first | (go_simp; done) | (go_simp; with_reducible rfl))
                                      (try simp only [Act.put, List.getElem_toArray, List.getElem_cons_succ, List.getElem_cons_zero, List.setIfInBounds_toArray, List.set_cons_zero, List.set_cons_succ])
                                      refine wpAnyF_take (i := 11) (oi := _) (v := ?_) rfl (by kernel_rfl) (by kernel_rfl) (by kernel_rfl) (by kernel_rfl) (fun _ _ _ h => h) (Or.inl ⟨by rfl, ?_⟩) (by assumption) ?_
                                      rotate_left 1
                                      · intro w hSw
                                        (try dsimp only at hSw)
                                        (first | (go_simp; done) | (go_simp; with_reducible rfl))
                                      (try simp only [Act.put, List.getElem_toArray, List.getElem_cons_succ, List.getElem_cons_zero, List.setIfInBounds_toArray, List.set_cons_zero, List.set_cons_succ])
                                      refine wpAnyF_take (i := 12) (oi := _) (v := ?_) rfl (by kernel_rfl) (by kernel_rfl) (by kernel_rfl) (by kernel_rfl) (fun _ _ _ h => h) (Or.inl ⟨by rfl, ?_⟩) (by assumption) ?_
                                      rotate_left 1
                                      · intro w hSw
                                        (try dsimp only at hSw)
                                        (first | (go_simp; done) | (go_simp; with_reducible rfl))
                                      (try simp only [Act.put, List.getElem_toArray, List.getElem_cons_succ, List.getElem_cons_zero, List.setIfInBounds_toArray, List.set_cons_zero, List.set_cons_succ])
                                      refine wpAnyF_ready (rs := [13]) (by kernel_rfl) (by simp) ?_
                                      refine AllReadyF.cons (o := _) rfl (fun K hK => ?_) AllReadyF.nil
                                      have hA : Below Y5.heap.size Y5 (Y5.alloc (.cells #[.int .u64 0, .slice none 0 0] 35)) := (Below.refl _ _).alloc (Nat.le_refl _) _
                                      have HA_6 := Lib.hid hA
                                      have HD_6 : Hid (Below V.heap.size V (Y5.alloc (.cells #[.int .u64 0, .slice none 0 0] 35))) := Lib.hid (HD_5.out.trans (hA.mono HD_5.out.size))
                                      have hN := heap_alloc_new Y5 (.cells #[.int .u64 0, .slice none 0 0] 35)
                                      have HN_6 := Lib.hid hN
                                      clear hA hN
                                      go_simp
                                      refine hK.out _ _ (HK19.out _ HD_6.out) (fun hHeld_6 => ?_)
                                      clear hK K
                                      (try simp only [Act.put, List.getElem_toArray, List.getElem_cons_succ, List.getElem_cons_zero, List.setIfInBounds_toArray, List.set_cons_zero, List.set_cons_succ])
                                      generalize Y5.alloc (.cells #[.int .u64 0, .slice none 0 0] 35) = Y6 at *
                                      obtain ⟨b13, hb13⟩ : ∃ e, e = Y5.heap.size := ⟨_, rfl⟩
                                      have HSb13 := Lib.hid hb13
                                      rw [← hb13] at HN_6 ⊢
                                      clear hb13
                                      have HB13 : Hid (V.heap.size ≤ b13) := Lib.hid (by rw [HSb13.out]; exact HD_5.out.size)
                                      have HX13_6 : Hid (Y6.heap[b13]? = some (.cells #[.int .u64 0, .slice none 0 0] 35 (0, 0))) := Lib.hid HN_6.out
                                      have q6 : Y6.cell? ⟨b13, 0, none⟩ = some (.int .u64 0) := blk_cell HX13_6.out 0
                                      have q7 : Y6.cell? ⟨b13, 1, none⟩ = some (.slice none 0 0) := blk_cell HX13_6.out 1
                                      have q8 : Y6.frozen? ⟨b13, 0, none⟩ = false := blk_free HX13_6.out 0
                                      have q9 : Y6.frozen? ⟨b13, 1, none⟩ = false := blk_free HX13_6.out 1
                                      have HDF : Hid (Below V.heap.size V ((Y6.setCell ⟨b13, 0, none⟩ (.int .u64 0)).setCell ⟨b13, 1, none⟩ (.slice none 0 0))) := Lib.hid ((HD_6.out.setCell (p := ⟨b13, 0, none⟩) HB13.out _).setCell (p := ⟨b13, 1, none⟩) HB13.out _)
                                      refine wpAnyF_ready (rs := [14]) (by kernel_rfl) (by simp) ?_
                                      refine AllReadyF.cons (o := _) rfl (fun K hK => ?_) AllReadyF.nil
                                      go_simp
                                      refine hK.out _ _ (HK19.out _ HDF.out) (fun hHeld14 => ?_)
                                      clear hK K
                                      (try simp only [Act.put, List.getElem_toArray, List.getElem_cons_succ, List.getElem_cons_zero, List.setIfInBounds_toArray, List.set_cons_zero, List.set_cons_succ])
                                      refine wpAnyF_take (i := 15) (oi := _) (v := ?_) rfl (by kernel_rfl) (by kernel_rfl) (by kernel_rfl) (by kernel_rfl) (fun _ _ _ h => h) (Or.inl ⟨by rfl, ?_⟩) (by assumption) ?_
                                      rotate_left 1
                                      · intro w hSw
                                        (try dsimp only at hSw)
                                        (first | (go_simp; done) | (go_simp; with_reducible rfl))
                                      (try simp only [Act.put, List.getElem_toArray, List.getElem_cons_succ, List.getElem_cons_zero, List.setIfInBounds_toArray, List.set_cons_zero, List.set_cons_succ])
                                      refine wpAnyF_done (by kernel_rfl) ?_ _
                                      go_wp2
                                      go_meet
                                      case rel => exact ⟨rfl, HYV.out.trans (HDF.out.mono HYV.out.size)⟩
                                  · as_aux_lemma =>
                                      have hA : Below Y4.heap.size Y4 (Y4.alloc (.cells #[.int .u64 0, .slice none 0 0] 35)) := (Below.refl _ _).alloc (Nat.le_refl _) _
                                      have HA_5 := Lib.hid hA
                                      have HD_5 : Hid (Below V.heap.size V (Y4.alloc (.cells #[.int .u64 0, .slice none 0 0] 35))) := Lib.hid (HD_4.out.trans (hA.mono HD_4.out.size))
                                      have hN := heap_alloc_new Y4 (.cells #[.int .u64 0, .slice none 0 0] 35)
                                      have HN_5 := Lib.hid hN
                                      clear hA hN
                                      go_simp
                                      refine hK.out _ _ (HK19.out _ HD_5.out) (fun hHeld_5 => ?_)
                                      clear hK K
                                      (try simp only [Act.put, List.getElem_toArray, List.getElem_cons_succ, List.getElem_cons_zero, List.setIfInBounds_toArray, List.set_cons_zero, List.set_cons_succ])
                                      generalize Y4.alloc (.cells #[.int .u64 0, .slice none 0 0] 35) = Y5 at *
                                      obtain ⟨b13, hb13⟩ : ∃ e, e = Y4.heap.size := ⟨_, rfl⟩
                                      have HSb13 := Lib.hid hb13
                                      rw [← hb13] at HN_5 ⊢
                                      clear hb13
                                      have HB13 : Hid (V.heap.size ≤ b13) := Lib.hid (by rw [HSb13.out]; exact HD_4.out.size)
                                      have HX13_5 : Hid (Y5.heap[b13]? = some (.cells #[.int .u64 0, .slice none 0 0] 35 (0, 0))) := Lib.hid HN_5.out
                                      refine wpAnyF_ready (rs := [9]) (by kernel_rfl) (by simp) ?_
                                      refine AllReadyF.cons (o := _) rfl (fun K hK => ?_) AllReadyF.nil
                                      go_simp
                                      (go_at_call 13)
                                      refine (parse_len pn tn A8 (tn + 1 + 1) c8 Y5 HG.out (by omega)).mono ?_
                                      rintro e Y6 ⟨rfl, hb⟩
                                      have HA_6 := Lib.hid hb
                                      have HD_6 := Lib.hid (HD_5.out.trans (hb.mono HD_5.out.size))
                                      clear hb
                                      refine hK.out _ _ (HK19.out _ HD_6.out) (fun hHeld_6 => ?_)
                                      clear hK K
                                      (try simp only [Act.put, List.getElem_toArray, List.getElem_cons_succ, List.getElem_cons_zero, List.setIfInBounds_toArray, List.set_cons_zero, List.set_cons_succ])
                                      have HX13_6 : Hid (Y6.heap[b13]? = some (.cells #[.int .u64 0, .slice none 0 0] 35 (0, 0))) := Lib.hid ((HA_6.out.block _ (blk_lt HX13_5.out)).trans HX13_5.out)
                                      refine wpAnyF_take (i := 10) (oi := _) (v := ?_) rfl (by kernel_rfl) (by kernel_rfl) (by kernel_rfl) (by kernel_rfl) (fun _ _ _ h => h) (Or.inl ⟨by rfl, ?_⟩) (by assumption) ?_
                                      rotate_left 1
                                      · intro w hSw
                                        (try dsimp only at hSw)
                                        (first | (go_simp; done) | (go_simp; with_reducible rfl))
                                      (try simp only [Act.put, List.getElem_toArray, List.getElem_cons_succ, List.getElem_cons_zero, List.setIfInBounds_toArray, List.set_cons_zero, List.set_cons_succ])
                                      refine wpAnyF_take (i := 11) (oi := _) (v := ?_) rfl (by kernel_rfl) (by kernel_rfl) (by kernel_rfl) (by kernel_rfl) (fun _ _ _ h => h) (Or.inl ⟨by rfl, ?_⟩) (by assumption) ?_
                                      rotate_left 1
                                      · intro w hSw
                                        (try dsimp only at hSw)
                                        (first | (go_simp; done) | (go_simp; with_reducible rfl))
                                      (try simp only [Act.put, List.getElem_toArray, List.getElem_cons_succ, List.getElem_cons_zero, List.setIfInBounds_toArray, List.set_cons_zero, List.set_cons_succ])
                                      refine wpAnyF_take (i := 12) (oi := _) (v := ?_) rfl (by kernel_rfl) (by kernel_rfl) (by kernel_rfl) (by kernel_rfl) (fun _ _ _ h => h) (Or.inl ⟨by rfl, ?_⟩) (by assumption) ?_
                                      rotate_left 1
                                      · intro w hSw
                                        (try dsimp only at hSw)
                                        (first | (go_simp; done) | (go_simp; with_reducible rfl))
                                      (try simp only [Act.put, List.getElem_toArray, List.getElem_cons_succ, List.getElem_cons_zero, List.setIfInBounds_toArray, List.set_cons_zero, List.set_cons_succ])
                                      have q6 : Y6.cell? ⟨b13, 0, none⟩ = some (.int .u64 0) := blk_cell HX13_6.out 0
                                      have q7 : Y6.cell? ⟨b13, 1, none⟩ = some (.slice none 0 0) := blk_cell HX13_6.out 1
                                      have q8 : Y6.frozen? ⟨b13, 0, none⟩ = false := blk_free HX13_6.out 0
                                      have q9 : Y6.frozen? ⟨b13, 1, none⟩ = false := blk_free HX13_6.out 1
                                      have HDF : Hid (Below V.heap.size V ((Y6.setCell ⟨b13, 0, none⟩ (.int .u64 0)).setCell ⟨b13, 1, none⟩ (.slice none 0 0))) := Lib.hid ((HD_6.out.setCell (p := ⟨b13, 0, none⟩) HB13.out _).setCell (p := ⟨b13, 1, none⟩) HB13.out _)
                                      refine wpAnyF_ready (rs := [14]) (by kernel_rfl) (by simp) ?_
                                      refine AllReadyF.cons (o := _) rfl (fun K hK => ?_) AllReadyF.nil
                                      go_simp
                                      refine hK.out _ _ (HK19.out _ HDF.out) (fun hHeld14 => ?_)
                                      clear hK K
                                      (try simp only [Act.put, List.getElem_toArray, List.getElem_cons_succ, List.getElem_cons_zero, List.setIfInBounds_toArray, List.set_cons_zero, List.set_cons_succ])
                                      refine wpAnyF_take (i := 15) (oi := _) (v := ?_) rfl (by kernel_rfl) (by kernel_rfl) (by kernel_rfl) (by kernel_rfl) (fun _ _ _ h => h) (Or.inl ⟨by rfl, ?_⟩) (by assumption) ?_
                                      rotate_left 1
                                      · intro w hSw
                                        (try dsimp only at hSw)
                                        (first | (go_simp; done) | (go_simp; with_reducible rfl))
                                      (try simp only [Act.put, List.getElem_toArray, List.getElem_cons_succ, List.getElem_cons_zero, List.setIfInBounds_toArray, List.set_cons_zero, List.set_cons_succ])
                                      refine wpAnyF_done (by kernel_rfl) ?_ _
                                      go_wp2
                                      go_meet
                                      case rel => exact ⟨rfl, HYV.out.trans (HDF.out.mono HYV.out.size)⟩
                              · as_aux_lemma =>
                                  have hA : Below Y3.heap.size Y3 (Y3.alloc (.cells #[.int .u64 0, .slice none 0 0] 35)) := (Below.refl _ _).alloc (Nat.le_refl _) _
                                  have HA_4 := Lib.hid hA
                                  have HD_4 : Hid (Below V.heap.size V (Y3.alloc (.cells #[.int .u64 0, .slice none 0 0] 35))) := Lib.hid (HD_3.out.trans (hA.mono HD_3.out.size))
                                  have hN := heap_alloc_new Y3 (.cells #[.int .u64 0, .slice none 0 0] 35)
                                  have HN_4 := Lib.hid hN
                                  clear hA hN
                                  go_simp
                                  refine hK.out _ _ (HK19.out _ HD_4.out) (fun hHeld_4 => ?_)
                                  clear hK K
                                  (try simp only [Act.put, List.getElem_toArray, List.getElem_cons_succ, List.getElem_cons_zero, List.setIfInBounds_toArray, List.set_cons_zero, List.set_cons_succ])
                                  generalize Y3.alloc (.cells #[.int .u64 0, .slice none 0 0] 35) = Y4 at *
                                  obtain ⟨b13, hb13⟩ : ∃ e, e = Y3.heap.size := ⟨_, rfl⟩
                                  have HSb13 := Lib.hid hb13
                                  rw [← hb13] at HN_4 ⊢
                                  clear hb13
                                  have HB13 : Hid (V.heap.size ≤ b13) := Lib.hid (by rw [HSb13.out]; exact HD_3.out.size)
                                  have HX13_4 : Hid (Y4.heap[b13]? = some (.cells #[.int .u64 0, .slice none 0 0] 35 (0, 0))) := Lib.hid HN_4.out
                                  have HC7_4 : Hid (Y4.heap[e7]? = some (.cells #[.slice A9 256 c9x] 42 (0, 0))) := Lib.hid ((HA_4.out.block _ (blk_lt HC7_3.out)).trans HC7_3.out)
                                  have HR3_4 := Lib.hid (HR3_3.out.below HA_4.out)
                                  refine wpAnyF_ready (rs := [8]) (by kernel_rfl) (by simp) ?_
                                  refine AllReadyF.cons (o := _) rfl (fun K hK => ?_) AllReadyF.nil
                                  rw [if_pos (by kernel_rfl)]
                                  refine step_appG Y4 (.tmp 100) (.tmp 104) rfl V.heap.size HD_4.out.size (.slice A3 (tn + 1) c3) (tn + 1) rfl HR3_4.out e7 1 1 [.slice A9 256 c9x] rfl rfl (fun u hu => by simp at hu; subst hu; rfl) (fun i hi => by
                                    have hi0 : i = 0 := by omega
                                    subst hi0
                                    exact blk_cell HC7_4.out 0) (by omega) ?_
                                  intro v8 Y5 hr hb hfar
                                  have HD_5 : Hid (Below V.heap.size V Y5) := Lib.hid (HD_4.out.trans hb)
                                  obtain ⟨A8, c8, rfl⟩ := hr.form
                                  have HX13_5 : Hid (Y5.heap[b13]? = some (.cells #[.int .u64 0, .slice none 0 0] 35 (0, 0))) := Lib.hid ((hfar b13 (blk_lt HX13_4.out) (HR3_4.out.far HX13_4.out (by decide))).trans HX13_4.out)
                                  clear hr hb hfar
                                  refine hK.out _ _ (HK19.out _ HD_5.out) (fun hHeld_5 => ?_)
                                  clear hK K
                                  (try simp only [Act.put, List.getElem_toArray, List.getElem_cons_succ, List.getElem_cons_zero, List.setIfInBounds_toArray, List.set_cons_zero, List.set_cons_succ])
                                  refine wpAnyF_ready (rs := [9]) (by kernel_rfl) (by simp) ?_
                                  refine AllReadyF.cons (o := _) rfl (fun K hK => ?_) AllReadyF.nil
                                  go_simp
                                  (go_at_call 13)
                                  refine (parse_len pn tn A8 (tn + 1 + 1) c8 Y5 HG.out (by omega)).mono ?_
                                  rintro e Y6 ⟨rfl, hb⟩
                                  have HA_6 := Lib.hid hb
                                  have HD_6 := Lib.hid (HD_5.out.trans (hb.mono HD_5.out.size))
                                  clear hb
                                  refine hK.out _ _ (HK19.out _ HD_6.out) (fun hHeld_6 => ?_)
                                  clear hK K
                                  (try simp only [Act.put, List.getElem_toArray, List.getElem_cons_succ, List.getElem_cons_zero, List.setIfInBounds_toArray, List.set_cons_zero, List.set_cons_succ])
                                  have HX13_6 : Hid (Y6.heap[b13]? = some (.cells #[.int .u64 0, .slice none 0 0] 35 (0, 0))) := Lib.hid ((HA_6.out.block _ (blk_lt HX13_5.out)).trans HX13_5.out)
                                  refine wpAnyF_take (i := 10) (oi := _) (v := ?_) rfl (by kernel_rfl) (by kernel_rfl) (by kernel_rfl) (by kernel_rfl) (fun _ _ _ h => h) (Or.inl ⟨by rfl, ?_⟩) (by assumption) ?_
                                  rotate_left 1
                                  · intro w hSw
                                    (try dsimp only at hSw)
                                    (first | (go_simp; done) | (go_simp; with_reducible rfl))
                                  (try simp only [Act.put, List.getElem_toArray, List.getElem_cons_succ, List.getElem_cons_zero, List.setIfInBounds_toArray, List.set_cons_zero, List.set_cons_succ])
                                  refine wpAnyF_take (i := 11) (oi := _) (v := ?_) rfl (by kernel_rfl) (by kernel_rfl) (by kernel_rfl) (by kernel_rfl) (fun _ _ _ h => h) (Or.inl ⟨by rfl, ?_⟩) (by assumption) ?_
                                  rotate_left 1
                                  · intro w hSw
                                    (try dsimp only at hSw)
                                    (first | (go_simp; done) | (go_simp; with_reducible rfl))
                                  (try simp only [Act.put, List.getElem_toArray, List.getElem_cons_succ, List.getElem_cons_zero, List.setIfInBounds_toArray, List.set_cons_zero, List.set_cons_succ])
                                  refine wpAnyF_take (i := 12) (oi := _) (v := ?_) rfl (by kernel_rfl) (by kernel_rfl) (by kernel_rfl) (by kernel_rfl) (fun _ _ _ h => h) (Or.inl ⟨by rfl, ?_⟩) (by assumption) ?_
                                  rotate_left 1
                                  · intro w hSw
                                    (try dsimp only at hSw)
                                    (first | (go_simp; done) | (go_simp; with_reducible rfl))
                                  (try simp only [Act.put, List.getElem_toArray, List.getElem_cons_succ, List.getElem_cons_zero, List.setIfInBounds_toArray, List.set_cons_zero, List.set_cons_succ])
                                  have q6 : Y6.cell? ⟨b13, 0, none⟩ = some (.int .u64 0) := blk_cell HX13_6.out 0
                                  have q7 : Y6.cell? ⟨b13, 1, none⟩ = some (.slice none 0 0) := blk_cell HX13_6.out 1
                                  have q8 : Y6.frozen? ⟨b13, 0, none⟩ = false := blk_free HX13_6.out 0
                                  have q9 : Y6.frozen? ⟨b13, 1, none⟩ = false := blk_free HX13_6.out 1
                                  have HDF : Hid (Below V.heap.size V ((Y6.setCell ⟨b13, 0, none⟩ (.int .u64 0)).setCell ⟨b13, 1, none⟩ (.slice none 0 0))) := Lib.hid ((HD_6.out.setCell (p := ⟨b13, 0, none⟩) HB13.out _).setCell (p := ⟨b13, 1, none⟩) HB13.out _)
                                  refine wpAnyF_ready (rs := [14]) (by kernel_rfl) (by simp) ?_
                                  refine AllReadyF.cons (o := _) rfl (fun K hK => ?_) AllReadyF.nil
                                  go_simp
                                  refine hK.out _ _ (HK19.out _ HDF.out) (fun hHeld14 => ?_)
                                  clear hK K
                                  (try simp only [Act.put, List.getElem_toArray, List.getElem_cons_succ, List.getElem_cons_zero, List.setIfInBounds_toArray, List.set_cons_zero, List.set_cons_succ])
                                  refine wpAnyF_take (i := 15) (oi := _) (v := ?_) rfl (by kernel_rfl) (by kernel_rfl) (by kernel_rfl) (by kernel_rfl) (fun _ _ _ h => h) (Or.inl ⟨by rfl, ?_⟩) (by assumption) ?_
                                  rotate_left 1
                                  · intro w hSw
                                    (try dsimp only at hSw)
                                    (first | (go_simp; done) | (go_simp; with_reducible rfl))
                                  (try simp only [Act.put, List.getElem_toArray, List.getElem_cons_succ, List.getElem_cons_zero, List.setIfInBounds_toArray, List.set_cons_zero, List.set_cons_succ])
                                  refine wpAnyF_done (by kernel_rfl) ?_ _
                                  go_wp2
                                  go_meet
                                  case rel => exact ⟨rfl, HYV.out.trans (HDF.out.mono HYV.out.size)⟩
                          · as_aux_lemma =>
                              have hA : Below Y2.heap.size Y2 (Y2.alloc (.cells #[.int .u64 0, .slice none 0 0] 35)) := (Below.refl _ _).alloc (Nat.le_refl _) _
                              have HA_3 := Lib.hid hA
                              have HD_3 : Hid (Below V.heap.size V (Y2.alloc (.cells #[.int .u64 0, .slice none 0 0] 35))) := Lib.hid (HD_2.out.trans (hA.mono HD_2.out.size))
                              have hN := heap_alloc_new Y2 (.cells #[.int .u64 0, .slice none 0 0] 35)
                              have HN_3 := Lib.hid hN
                              clear hA hN
                              go_simp
                              refine hK.out _ _ (HK19.out _ HD_3.out) (fun hHeld_3 => ?_)
                              clear hK K
                              (try simp only [Act.put, List.getElem_toArray, List.getElem_cons_succ, List.getElem_cons_zero, List.setIfInBounds_toArray, List.set_cons_zero, List.set_cons_succ])
                              generalize Y2.alloc (.cells #[.int .u64 0, .slice none 0 0] 35) = Y3 at *
                              obtain ⟨b13, hb13⟩ : ∃ e, e = Y2.heap.size := ⟨_, rfl⟩
                              have HSb13 := Lib.hid hb13
                              rw [← hb13] at HN_3 ⊢
                              clear hb13
                              have HB13 : Hid (V.heap.size ≤ b13) := Lib.hid (by rw [HSb13.out]; exact HD_2.out.size)
                              have HX13_3 : Hid (Y3.heap[b13]? = some (.cells #[.int .u64 0, .slice none 0 0] 35 (0, 0))) := Lib.hid HN_3.out
                              have HR1_3 := Lib.hid (HR1_2.out.below HA_3.out)
                              have HC7_3 : Hid (Y3.heap[e7]? = some (.cells #[.slice A9 256 c9x] 42 (0, 0))) := Lib.hid ((HA_3.out.block _ (blk_lt HC7_2.out)).trans HC7_2.out)
                              refine wpAnyF_ready (rs := [3]) (by kernel_rfl) (by simp) ?_
                              refine AllReadyF.cons (o := _) rfl (fun K hK => ?_) AllReadyF.nil
                              obtain ⟨vs, hvl, hone, hvs⟩ := (HBV.out.below HD_3.out).vals
                              rw [if_pos (by kernel_rfl)]
                              refine step_appG Y3 (.tmp 98) (.tmp 99) rfl V.heap.size HD_3.out.size (.slice (some ⟨e1, 0, none⟩) 0 0) 0 rfl HR1_3.out gF (tn + 1) cF vs rfl (by rw [hvl]; exact HSL.out) hone (fun i hi => (hvs i (by rw [HSL.out]; exact hi)).1) (by omega) ?_
                              clear hvl hone hvs
                              clear vs
                              intro v3 Y4 hr hb hfar
                              rw [Nat.zero_add] at hr
                              have HD_4 : Hid (Below V.heap.size V Y4) := Lib.hid (HD_3.out.trans hb)
                              have HR3_4 := Lib.hid hr
                              obtain ⟨A3, c3, rfl⟩ := hr.form
                              have HSZ_4 : Hid (Y3.heap.size ≤ Y4.heap.size) := Lib.hid hb.size
                              have HC7_4 : Hid (Y4.heap[e7]? = some (.cells #[.slice A9 256 c9x] 42 (0, 0))) := Lib.hid ((hfar e7 (blk_lt HC7_3.out) (fun e => HE17.out (Option.some.inj e))).trans HC7_3.out)
                              have HX13_4 : Hid (Y4.heap[b13]? = some (.cells #[.int .u64 0, .slice none 0 0] 35 (0, 0))) := Lib.hid ((hfar b13 (blk_lt HX13_3.out) (HR1_3.out.far HX13_3.out (by decide))).trans HX13_3.out)
                              clear hr hb hfar
                              refine hK.out _ _ (HK19.out _ HD_4.out) (fun hHeld_4 => ?_)
                              clear hK K
                              (try simp only [Act.put, List.getElem_toArray, List.getElem_cons_succ, List.getElem_cons_zero, List.setIfInBounds_toArray, List.set_cons_zero, List.set_cons_succ])
                              refine wpAnyF_ready (rs := [8]) (by kernel_rfl) (by simp) ?_
                              refine AllReadyF.cons (o := _) rfl (fun K hK => ?_) AllReadyF.nil
                              rw [if_pos (by kernel_rfl)]
                              refine step_appG Y4 (.tmp 100) (.tmp 104) rfl V.heap.size HD_4.out.size (.slice A3 (tn + 1) c3) (tn + 1) rfl HR3_4.out e7 1 1 [.slice A9 256 c9x] rfl rfl (fun u hu => by simp at hu; subst hu; rfl) (fun i hi => by
                                have hi0 : i = 0 := by omega
                                subst hi0
                                exact blk_cell HC7_4.out 0) (by omega) ?_
                              intro v8 Y5 hr hb hfar
                              have HD_5 : Hid (Below V.heap.size V Y5) := Lib.hid (HD_4.out.trans hb)
                              obtain ⟨A8, c8, rfl⟩ := hr.form
                              have HX13_5 : Hid (Y5.heap[b13]? = some (.cells #[.int .u64 0, .slice none 0 0] 35 (0, 0))) := Lib.hid ((hfar b13 (blk_lt HX13_4.out) (HR3_4.out.far HX13_4.out (by decide))).trans HX13_4.out)
                              clear hr hb hfar
                              refine hK.out _ _ (HK19.out _ HD_5.out) (fun hHeld_5 => ?_)
                              clear hK K
                              (try simp only [Act.put, List.getElem_toArray, List.getElem_cons_succ, List.getElem_cons_zero, List.setIfInBounds_toArray, List.set_cons_zero, List.set_cons_succ])
                              refine wpAnyF_ready (rs := [9]) (by kernel_rfl) (by simp) ?_
                              refine AllReadyF.cons (o := _) rfl (fun K hK => ?_) AllReadyF.nil
                              go_simp
                              (go_at_call 13)
                              refine (parse_len pn tn A8 (tn + 1 + 1) c8 Y5 HG.out (by omega)).mono ?_
                              rintro e Y6 ⟨rfl, hb⟩
                              have HA_6 := Lib.hid hb
                              have HD_6 := Lib.hid (HD_5.out.trans (hb.mono HD_5.out.size))
                              clear hb
                              refine hK.out _ _ (HK19.out _ HD_6.out) (fun hHeld_6 => ?_)
                              clear hK K
                              (try simp only [Act.put, List.getElem_toArray, List.getElem_cons_succ, List.getElem_cons_zero, List.setIfInBounds_toArray, List.set_cons_zero, List.set_cons_succ])
                              have HX13_6 : Hid (Y6.heap[b13]? = some (.cells #[.int .u64 0, .slice none 0 0] 35 (0, 0))) := Lib.hid ((HA_6.out.block _ (blk_lt HX13_5.out)).trans HX13_5.out)
                              refine wpAnyF_take (i := 10) (oi := _) (v := ?_) rfl (by kernel_rfl) (by kernel_rfl) (by kernel_rfl) (by kernel_rfl) (fun _ _ _ h => h) (Or.inl ⟨by rfl, ?_⟩) (by assumption) ?_
                              rotate_left 1
                              · intro w hSw
                                (try dsimp only at hSw)
                                (first | (go_simp; done) | (go_simp; with_reducible rfl))
                              (try simp only [Act.put, List.getElem_toArray, List.getElem_cons_succ, List.getElem_cons_zero, List.setIfInBounds_toArray, List.set_cons_zero, List.set_cons_succ])
                              refine wpAnyF_take (i := 11) (oi := _) (v := ?_) rfl (by kernel_rfl) (by kernel_rfl) (by kernel_rfl) (by kernel_rfl) (fun _ _ _ h => h) (Or.inl ⟨by rfl, ?_⟩) (by assumption) ?_
                              rotate_left 1
                              · intro w hSw
                                (try dsimp only at hSw)
                                (first | (go_simp; done) | (go_simp; with_reducible rfl))
                              (try simp only [Act.put, List.getElem_toArray, List.getElem_cons_succ, List.getElem_cons_zero, List.setIfInBounds_toArray, List.set_cons_zero, List.set_cons_succ])
                              refine wpAnyF_take (i := 12) (oi := _) (v := ?_) rfl (by kernel_rfl) (by kernel_rfl) (by kernel_rfl) (by kernel_rfl) (fun _ _ _ h => h) (Or.inl ⟨by rfl, ?_⟩) (by assumption) ?_
                              rotate_left 1
                              · intro w hSw
                                (try dsimp only at hSw)
                                (first | (go_simp; done) | (go_simp; with_reducible rfl))
                              (try simp only [Act.put, List.getElem_toArray, List.getElem_cons_succ, List.getElem_cons_zero, List.setIfInBounds_toArray, List.set_cons_zero, List.set_cons_succ])
                              have q6 : Y6.cell? ⟨b13, 0, none⟩ = some (.int .u64 0) := blk_cell HX13_6.out 0
                              have q7 : Y6.cell? ⟨b13, 1, none⟩ = some (.slice none 0 0) := blk_cell HX13_6.out 1
                              have q8 : Y6.frozen? ⟨b13, 0, none⟩ = false := blk_free HX13_6.out 0
                              have q9 : Y6.frozen? ⟨b13, 1, none⟩ = false := blk_free HX13_6.out 1
                              have HDF : Hid (Below V.heap.size V ((Y6.setCell ⟨b13, 0, none⟩ (.int .u64 0)).setCell ⟨b13, 1, none⟩ (.slice none 0 0))) := Lib.hid ((HD_6.out.setCell (p := ⟨b13, 0, none⟩) HB13.out _).setCell (p := ⟨b13, 1, none⟩) HB13.out _)
                              refine wpAnyF_ready (rs := [14]) (by kernel_rfl) (by simp) ?_
                              refine AllReadyF.cons (o := _) rfl (fun K hK => ?_) AllReadyF.nil
                              go_simp
                              refine hK.out _ _ (HK19.out _ HDF.out) (fun hHeld14 => ?_)
                              clear hK K
                              (try simp only [Act.put, List.getElem_toArray, List.getElem_cons_succ, List.getElem_cons_zero, List.setIfInBounds_toArray, List.set_cons_zero, List.set_cons_succ])
                              refine wpAnyF_take (i := 15) (oi := _) (v := ?_) rfl (by kernel_rfl) (by kernel_rfl) (by kernel_rfl) (by kernel_rfl) (fun _ _ _ h => h) (Or.inl ⟨by rfl, ?_⟩) (by assumption) ?_
                              rotate_left 1
                              · intro w hSw
                                (try dsimp only at hSw)
                                (first | (go_simp; done) | (go_simp; with_reducible rfl))
                              (try simp only [Act.put, List.getElem_toArray, List.getElem_cons_succ, List.getElem_cons_zero, List.setIfInBounds_toArray, List.set_cons_zero, List.set_cons_succ])
                              refine wpAnyF_done (by kernel_rfl) ?_ _
                              go_wp2
                              go_meet
                              case rel => exact ⟨rfl, HYV.out.trans (HDF.out.mono HYV.out.size)⟩
                      · as_aux_lemma =>
                          have hA : Below Y1.heap.size Y1 (Y1.alloc (.cells #[.int .u64 0, .slice none 0 0] 35)) := (Below.refl _ _).alloc (Nat.le_refl _) _
                          have HA_2 := Lib.hid hA
                          have HD_2 : Hid (Below V.heap.size V (Y1.alloc (.cells #[.int .u64 0, .slice none 0 0] 35))) := Lib.hid (HD_1.out.trans (hA.mono HD_1.out.size))
                          have hN := heap_alloc_new Y1 (.cells #[.int .u64 0, .slice none 0 0] 35)
                          have HN_2 := Lib.hid hN
                          clear hA hN
                          go_simp
                          refine hK.out _ _ (HK19.out _ HD_2.out) (fun hHeld_2 => ?_)
                          clear hK K
                          (try simp only [Act.put, List.getElem_toArray, List.getElem_cons_succ, List.getElem_cons_zero, List.setIfInBounds_toArray, List.set_cons_zero, List.set_cons_succ])
                          generalize Y1.alloc (.cells #[.int .u64 0, .slice none 0 0] 35) = Y2 at *
                          obtain ⟨b13, hb13⟩ : ∃ e, e = Y1.heap.size := ⟨_, rfl⟩
                          have HSb13 := Lib.hid hb13
                          rw [← hb13] at HN_2 ⊢
                          clear hb13
                          have HB13 : Hid (V.heap.size ≤ b13) := Lib.hid (by rw [HSb13.out]; exact HD_1.out.size)
                          have HX13_2 : Hid (Y2.heap[b13]? = some (.cells #[.int .u64 0, .slice none 0 0] 35 (0, 0))) := Lib.hid HN_2.out
                          have HR1_2 := Lib.hid (HR1_1.out.below HA_2.out)
                          refine wpAnyF_ready (rs := [3, 7]) (by kernel_rfl) (by simp) ?_
                          refine AllReadyF.cons (o := _) rfl (fun K hK => ?_) (AllReadyF.cons (o := _) rfl (fun K hK => ?_) AllReadyF.nil)
                          · as_aux_lemma =>
                              obtain ⟨vs, hvl, hone, hvs⟩ := (HBV.out.below HD_2.out).vals
                              rw [if_pos (by kernel_rfl)]
                              refine step_appG Y2 (.tmp 98) (.tmp 99) rfl V.heap.size HD_2.out.size (.slice (some ⟨e1, 0, none⟩) 0 0) 0 rfl HR1_2.out gF (tn + 1) cF vs rfl (by rw [hvl]; exact HSL.out) hone (fun i hi => (hvs i (by rw [HSL.out]; exact hi)).1) (by omega) ?_
                              clear hvl hone hvs
                              clear vs
                              intro v3 Y3 hr hb hfar
                              rw [Nat.zero_add] at hr
                              have HD_3 : Hid (Below V.heap.size V Y3) := Lib.hid (HD_2.out.trans hb)
                              have HR3_3 := Lib.hid hr
                              obtain ⟨A3, c3, rfl⟩ := hr.form
                              have HSZ_3 : Hid (Y2.heap.size ≤ Y3.heap.size) := Lib.hid hb.size
                              have HX13_3 : Hid (Y3.heap[b13]? = some (.cells #[.int .u64 0, .slice none 0 0] 35 (0, 0))) := Lib.hid ((hfar b13 (blk_lt HX13_2.out) (HR1_2.out.far HX13_2.out (by decide))).trans HX13_2.out)
                              clear hr hb hfar
                              refine hK.out _ _ (HK19.out _ HD_3.out) (fun hHeld_3 => ?_)
                              clear hK K
                              (try simp only [Act.put, List.getElem_toArray, List.getElem_cons_succ, List.getElem_cons_zero, List.setIfInBounds_toArray, List.set_cons_zero, List.set_cons_succ])
                              refine wpAnyF_ready (rs := [7]) (by kernel_rfl) (by simp) ?_
                              refine AllReadyF.cons (o := _) rfl (fun K hK => ?_) AllReadyF.nil
                              have hA : Below Y3.heap.size Y3 (Y3.alloc (.cells #[.slice A9 256 c9x] 42)) := (Below.refl _ _).alloc (Nat.le_refl _) _
                              have HA_4 := Lib.hid hA
                              have HD_4 : Hid (Below V.heap.size V (Y3.alloc (.cells #[.slice A9 256 c9x] 42))) := Lib.hid (HD_3.out.trans (hA.mono HD_3.out.size))
                              have hN := heap_alloc_new Y3 (.cells #[.slice A9 256 c9x] 42)
                              have HN_4 := Lib.hid hN
                              clear hA hN
                              go_simp
                              refine hK.out _ _ (HK19.out _ HD_4.out) (fun hHeld_4 => ?_)
                              clear hK K
                              (try simp only [Act.put, List.getElem_toArray, List.getElem_cons_succ, List.getElem_cons_zero, List.setIfInBounds_toArray, List.set_cons_zero, List.set_cons_succ])
                              generalize Y3.alloc (.cells #[.slice A9 256 c9x] 42) = Y4 at *
                              obtain ⟨e7, he7⟩ : ∃ e, e = Y3.heap.size := ⟨_, rfl⟩
                              have HSe7 := Lib.hid he7
                              rw [← he7] at HN_4 ⊢
                              clear he7
                              have HC7_4 : Hid (Y4.heap[e7]? = some (.cells #[.slice A9 256 c9x] 42 (0, 0))) := Lib.hid HN_4.out
                              have HX13_4 : Hid (Y4.heap[b13]? = some (.cells #[.int .u64 0, .slice none 0 0] 35 (0, 0))) := Lib.hid ((HA_4.out.block _ (blk_lt HX13_3.out)).trans HX13_3.out)
                              have HR3_4 := Lib.hid (HR3_3.out.below HA_4.out)
                              refine wpAnyF_ready (rs := [8]) (by kernel_rfl) (by simp) ?_
                              refine AllReadyF.cons (o := _) rfl (fun K hK => ?_) AllReadyF.nil
                              rw [if_pos (by kernel_rfl)]
                              refine step_appG Y4 (.tmp 100) (.tmp 104) rfl V.heap.size HD_4.out.size (.slice A3 (tn + 1) c3) (tn + 1) rfl HR3_4.out e7 1 1 [.slice A9 256 c9x] rfl rfl (fun u hu => by simp at hu; subst hu; rfl) (fun i hi => by
                                have hi0 : i = 0 := by omega
                                subst hi0
                                exact blk_cell HC7_4.out 0) (by omega) ?_
                              intro v8 Y5 hr hb hfar
                              have HD_5 : Hid (Below V.heap.size V Y5) := Lib.hid (HD_4.out.trans hb)
                              obtain ⟨A8, c8, rfl⟩ := hr.form
                              have HX13_5 : Hid (Y5.heap[b13]? = some (.cells #[.int .u64 0, .slice none 0 0] 35 (0, 0))) := Lib.hid ((hfar b13 (blk_lt HX13_4.out) (HR3_4.out.far HX13_4.out (by decide))).trans HX13_4.out)
                              clear hr hb hfar
                              refine hK.out _ _ (HK19.out _ HD_5.out) (fun hHeld_5 => ?_)
                              clear hK K
                              (try simp only [Act.put, List.getElem_toArray, List.getElem_cons_succ, List.getElem_cons_zero, List.setIfInBounds_toArray, List.set_cons_zero, List.set_cons_succ])
                              refine wpAnyF_ready (rs := [9]) (by kernel_rfl) (by simp) ?_
                              refine AllReadyF.cons (o := _) rfl (fun K hK => ?_) AllReadyF.nil
                              go_simp
                              (go_at_call 13)
                              refine (parse_len pn tn A8 (tn + 1 + 1) c8 Y5 HG.out (by omega)).mono ?_
                              rintro e Y6 ⟨rfl, hb⟩
                              have HA_6 := Lib.hid hb
                              have HD_6 := Lib.hid (HD_5.out.trans (hb.mono HD_5.out.size))
                              clear hb
                              refine hK.out _ _ (HK19.out _ HD_6.out) (fun hHeld_6 => ?_)
                              clear hK K
                              (try simp only [Act.put, List.getElem_toArray, List.getElem_cons_succ, List.getElem_cons_zero, List.setIfInBounds_toArray, List.set_cons_zero, List.set_cons_succ])
                              have HX13_6 : Hid (Y6.heap[b13]? = some (.cells #[.int .u64 0, .slice none 0 0] 35 (0, 0))) := Lib.hid ((HA_6.out.block _ (blk_lt HX13_5.out)).trans HX13_5.out)
                              refine wpAnyF_take (i := 10) (oi := _) (v := ?_) rfl (by kernel_rfl) (by kernel_rfl) (by kernel_rfl) (by kernel_rfl) (fun _ _ _ h => h) (Or.inl ⟨by rfl, ?_⟩) (by assumption) ?_
                              rotate_left 1
                              · intro w hSw
                                (try dsimp only at hSw)
                                (first | (go_simp; done) | (go_simp; with_reducible rfl))
                              (try simp only [Act.put, List.getElem_toArray, List.getElem_cons_succ, List.getElem_cons_zero, List.setIfInBounds_toArray, List.set_cons_zero, List.set_cons_succ])
                              refine wpAnyF_take (i := 11) (oi := _) (v := ?_) rfl (by kernel_rfl) (by kernel_rfl) (by kernel_rfl) (by kernel_rfl) (fun _ _ _ h => h) (Or.inl ⟨by rfl, ?_⟩) (by assumption) ?_
                              rotate_left 1
                              · intro w hSw
                                (try dsimp only at hSw)
                                (first | (go_simp; done) | (go_simp; with_reducible rfl))
                              (try simp only [Act.put, List.getElem_toArray, List.getElem_cons_succ, List.getElem_cons_zero, List.setIfInBounds_toArray, List.set_cons_zero, List.set_cons_succ])
                              refine wpAnyF_take (i := 12) (oi := _) (v := ?_) rfl (by kernel_rfl) (by kernel_rfl) (by kernel_rfl) (by kernel_rfl) (fun _ _ _ h => h) (Or.inl ⟨by rfl, ?_⟩) (by assumption) ?_
                              rotate_left 1
                              · intro w hSw
                                (try dsimp only at hSw)
                                (first | (go_simp; done) | (go_simp; with_reducible rfl))
                              (try simp only [Act.put, List.getElem_toArray, List.getElem_cons_succ, List.getElem_cons_zero, List.setIfInBounds_toArray, List.set_cons_zero, List.set_cons_succ])
                              have q6 : Y6.cell? ⟨b13, 0, none⟩ = some (.int .u64 0) := blk_cell HX13_6.out 0
                              have q7 : Y6.cell? ⟨b13, 1, none⟩ = some (.slice none 0 0) := blk_cell HX13_6.out 1
                              have q8 : Y6.frozen? ⟨b13, 0, none⟩ = false := blk_free HX13_6.out 0
                              have q9 : Y6.frozen? ⟨b13, 1, none⟩ = false := blk_free HX13_6.out 1
                              have HDF : Hid (Below V.heap.size V ((Y6.setCell ⟨b13, 0, none⟩ (.int .u64 0)).setCell ⟨b13, 1, none⟩ (.slice none 0 0))) := Lib.hid ((HD_6.out.setCell (p := ⟨b13, 0, none⟩) HB13.out _).setCell (p := ⟨b13, 1, none⟩) HB13.out _)
                              refine wpAnyF_ready (rs := [14]) (by kernel_rfl) (by simp) ?_
                              refine AllReadyF.cons (o := _) rfl (fun K hK => ?_) AllReadyF.nil
                              go_simp
                              refine hK.out _ _ (HK19.out _ HDF.out) (fun hHeld14 => ?_)
                              clear hK K
                              (try simp only [Act.put, List.getElem_toArray, List.getElem_cons_succ, List.getElem_cons_zero, List.setIfInBounds_toArray, List.set_cons_zero, List.set_cons_succ])
                              refine wpAnyF_take (i := 15) (oi := _) (v := ?_) rfl (by kernel_rfl) (by kernel_rfl) (by kernel_rfl) (by kernel_rfl) (fun _ _ _ h => h) (Or.inl ⟨by rfl, ?_⟩) (by assumption) ?_
                              rotate_left 1
                              · intro w hSw
                                (try dsimp only at hSw)
                                (first | (go_simp; done) | (go_simp; with_reducible rfl))
                              (try simp only [Act.put, List.getElem_toArray, List.getElem_cons_succ, List.getElem_cons_zero, List.setIfInBounds_toArray, List.set_cons_zero, List.set_cons_succ])
                              refine wpAnyF_done (by kernel_rfl) ?_ _
                              go_wp2
                              go_meet
                              case rel => exact ⟨rfl, HYV.out.trans (HDF.out.mono HYV.out.size)⟩
                          · as_aux_lemma =>
                              have hA : Below Y2.heap.size Y2 (Y2.alloc (.cells #[.slice A9 256 c9x] 42)) := (Below.refl _ _).alloc (Nat.le_refl _) _
                              have HA_3 := Lib.hid hA
                              have HD_3 : Hid (Below V.heap.size V (Y2.alloc (.cells #[.slice A9 256 c9x] 42))) := Lib.hid (HD_2.out.trans (hA.mono HD_2.out.size))
                              have hN := heap_alloc_new Y2 (.cells #[.slice A9 256 c9x] 42)
                              have HN_3 := Lib.hid hN
                              clear hA hN
                              go_simp
                              refine hK.out _ _ (HK19.out _ HD_3.out) (fun hHeld_3 => ?_)
                              clear hK K
                              (try simp only [Act.put, List.getElem_toArray, List.getElem_cons_succ, List.getElem_cons_zero, List.setIfInBounds_toArray, List.set_cons_zero, List.set_cons_succ])
                              generalize Y2.alloc (.cells #[.slice A9 256 c9x] 42) = Y3 at *
                              obtain ⟨e7, he7⟩ : ∃ e, e = Y2.heap.size := ⟨_, rfl⟩
                              have HSe7 := Lib.hid he7
                              rw [← he7] at HN_3 ⊢
                              clear he7
                              have HE17 : Hid (e1 ≠ e7) := Lib.hid (by rw [HSe7.out]; exact Nat.ne_of_lt (HR1_2.out.lt rfl))
                              have HC7_3 : Hid (Y3.heap[e7]? = some (.cells #[.slice A9 256 c9x] 42 (0, 0))) := Lib.hid HN_3.out
                              have HR1_3 := Lib.hid (HR1_2.out.below HA_3.out)
                              have HX13_3 : Hid (Y3.heap[b13]? = some (.cells #[.int .u64 0, .slice none 0 0] 35 (0, 0))) := Lib.hid ((HA_3.out.block _ (blk_lt HX13_2.out)).trans HX13_2.out)
                              refine wpAnyF_ready (rs := [3]) (by kernel_rfl) (by simp) ?_
                              refine AllReadyF.cons (o := _) rfl (fun K hK => ?_) AllReadyF.nil
                              obtain ⟨vs, hvl, hone, hvs⟩ := (HBV.out.below HD_3.out).vals
                              rw [if_pos (by kernel_rfl)]
                              refine step_appG Y3 (.tmp 98) (.tmp 99) rfl V.heap.size HD_3.out.size (.slice (some ⟨e1, 0, none⟩) 0 0) 0 rfl HR1_3.out gF (tn + 1) cF vs rfl (by rw [hvl]; exact HSL.out) hone (fun i hi => (hvs i (by rw [HSL.out]; exact hi)).1) (by omega) ?_
                              clear hvl hone hvs
                              clear vs
                              intro v3 Y4 hr hb hfar
                              rw [Nat.zero_add] at hr
                              have HD_4 : Hid (Below V.heap.size V Y4) := Lib.hid (HD_3.out.trans hb)
                              have HR3_4 := Lib.hid hr
                              obtain ⟨A3, c3, rfl⟩ := hr.form
                              have HSZ_4 : Hid (Y3.heap.size ≤ Y4.heap.size) := Lib.hid hb.size
                              have HC7_4 : Hid (Y4.heap[e7]? = some (.cells #[.slice A9 256 c9x] 42 (0, 0))) := Lib.hid ((hfar e7 (blk_lt HC7_3.out) (fun e => HE17.out (Option.some.inj e))).trans HC7_3.out)
                              have HX13_4 : Hid (Y4.heap[b13]? = some (.cells #[.int .u64 0, .slice none 0 0] 35 (0, 0))) := Lib.hid ((hfar b13 (blk_lt HX13_3.out) (HR1_3.out.far HX13_3.out (by decide))).trans HX13_3.out)
                              clear hr hb hfar
                              refine hK.out _ _ (HK19.out _ HD_4.out) (fun hHeld_4 => ?_)
                              clear hK K
                              (try simp only [Act.put, List.getElem_toArray, List.getElem_cons_succ, List.getElem_cons_zero, List.setIfInBounds_toArray, List.set_cons_zero, List.set_cons_succ])
                              refine wpAnyF_ready (rs := [8]) (by kernel_rfl) (by simp) ?_
                              refine AllReadyF.cons (o := _) rfl (fun K hK => ?_) AllReadyF.nil
                              rw [if_pos (by kernel_rfl)]
                              refine step_appG Y4 (.tmp 100) (.tmp 104) rfl V.heap.size HD_4.out.size (.slice A3 (tn + 1) c3) (tn + 1) rfl HR3_4.out e7 1 1 [.slice A9 256 c9x] rfl rfl (fun u hu => by simp at hu; subst hu; rfl) (fun i hi => by
                                have hi0 : i = 0 := by omega
                                subst hi0
                                exact blk_cell HC7_4.out 0) (by omega) ?_
                              intro v8 Y5 hr hb hfar
                              have HD_5 : Hid (Below V.heap.size V Y5) := Lib.hid (HD_4.out.trans hb)
                              obtain ⟨A8, c8, rfl⟩ := hr.form
                              have HX13_5 : Hid (Y5.heap[b13]? = some (.cells #[.int .u64 0, .slice none 0 0] 35 (0, 0))) := Lib.hid ((hfar b13 (blk_lt HX13_4.out) (HR3_4.out.far HX13_4.out (by decide))).trans HX13_4.out)
                              clear hr hb hfar
                              refine hK.out _ _ (HK19.out _ HD_5.out) (fun hHeld_5 => ?_)
                              clear hK K
                              (try simp only [Act.put, List.getElem_toArray, List.getElem_cons_succ, List.getElem_cons_zero, List.setIfInBounds_toArray, List.set_cons_zero, List.set_cons_succ])
                              refine wpAnyF_ready (rs := [9]) (by kernel_rfl) (by simp) ?_
                              refine AllReadyF.cons (o := _) rfl (fun K hK => ?_) AllReadyF.nil
                              go_simp
                              (go_at_call 13)
                              refine (parse_len pn tn A8 (tn + 1 + 1) c8 Y5 HG.out (by omega)).mono ?_
                              rintro e Y6 ⟨rfl, hb⟩
                              have HA_6 := Lib.hid hb
                              have HD_6 := Lib.hid (HD_5.out.trans (hb.mono HD_5.out.size))
                              clear hb
                              refine hK.out _ _ (HK19.out _ HD_6.out) (fun hHeld_6 => ?_)
                              clear hK K
                              (try simp only [Act.put, List.getElem_toArray, List.getElem_cons_succ, List.getElem_cons_zero, List.setIfInBounds_toArray, List.set_cons_zero, List.set_cons_succ])
                              have HX13_6 : Hid (Y6.heap[b13]? = some (.cells #[.int .u64 0, .slice none 0 0] 35 (0, 0))) := Lib.hid ((HA_6.out.block _ (blk_lt HX13_5.out)).trans HX13_5.out)
                              refine wpAnyF_take (i := 10) (oi := _) (v := ?_) rfl (by kernel_rfl) (by kernel_rfl) (by kernel_rfl) (by kernel_rfl) (fun _ _ _ h => h) (Or.inl ⟨by rfl, ?_⟩) (by assumption) ?_
                              rotate_left 1
                              · intro w hSw
                                (try dsimp only at hSw)
                                (first | (go_simp; done) | (go_simp; with_reducible rfl))
                              (try simp only [Act.put, List.getElem_toArray, List.getElem_cons_succ, List.getElem_cons_zero, List.setIfInBounds_toArray, List.set_cons_zero, List.set_cons_succ])
                              refine wpAnyF_take (i := 11) (oi := _) (v := ?_) rfl (by kernel_rfl) (by kernel_rfl) (by kernel_rfl) (by kernel_rfl) (fun _ _ _ h => h) (Or.inl ⟨by rfl, ?_⟩) (by assumption) ?_
                              rotate_left 1
                              · intro w hSw
                                (try dsimp only at hSw)
                                (first | (go_simp; done) | (go_simp; with_reducible rfl))
                              (try simp only [Act.put, List.getElem_toArray, List.getElem_cons_succ, List.getElem_cons_zero, List.setIfInBounds_toArray, List.set_cons_zero, List.set_cons_succ])
                              refine wpAnyF_take (i := 12) (oi := _) (v := ?_) rfl (by kernel_rfl) (by kernel_rfl) (by kernel_rfl) (by kernel_rfl) (fun _ _ _ h => h) (Or.inl ⟨by rfl, ?_⟩) (by assumption) ?_
                              rotate_left 1
                              · intro w hSw
                                (try dsimp only at hSw)
                                (first | (go_simp; done) | (go_simp; with_reducible rfl))
                              (try simp only [Act.put, List.getElem_toArray, List.getElem_cons_succ, List.getElem_cons_zero, List.setIfInBounds_toArray, List.set_cons_zero, List.set_cons_succ])
                              have q6 : Y6.cell? ⟨b13, 0, none⟩ = some (.int .u64 0) := blk_cell HX13_6.out 0
                              have q7 : Y6.cell? ⟨b13, 1, none⟩ = some (.slice none 0 0) := blk_cell HX13_6.out 1
                              have q8 : Y6.frozen? ⟨b13, 0, none⟩ = false := blk_free HX13_6.out 0
                              have q9 : Y6.frozen? ⟨b13, 1, none⟩ = false := blk_free HX13_6.out 1
                              have HDF : Hid (Below V.heap.size V ((Y6.setCell ⟨b13, 0, none⟩ (.int .u64 0)).setCell ⟨b13, 1, none⟩ (.slice none 0 0))) := Lib.hid ((HD_6.out.setCell (p := ⟨b13, 0, none⟩) HB13.out _).setCell (p := ⟨b13, 1, none⟩) HB13.out _)
                              refine wpAnyF_ready (rs := [14]) (by kernel_rfl) (by simp) ?_
                              refine AllReadyF.cons (o := _) rfl (fun K hK => ?_) AllReadyF.nil
                              go_simp
                              refine hK.out _ _ (HK19.out _ HDF.out) (fun hHeld14 => ?_)
                              clear hK K
                              (try simp only [Act.put, List.getElem_toArray, List.getElem_cons_succ, List.getElem_cons_zero, List.setIfInBounds_toArray, List.set_cons_zero, List.set_cons_succ])
                              refine wpAnyF_take (i := 15) (oi := _) (v := ?_) rfl (by kernel_rfl) (by kernel_rfl) (by kernel_rfl) (by kernel_rfl) (fun _ _ _ h => h) (Or.inl ⟨by rfl, ?_⟩) (by assumption) ?_
                              rotate_left 1
                              · intro w hSw
                                (try dsimp only at hSw)
                                (first | (go_simp; done) | (go_simp; with_reducible rfl))
                              (try simp only [Act.put, List.getElem_toArray, List.getElem_cons_succ, List.getElem_cons_zero, List.setIfInBounds_toArray, List.set_cons_zero, List.set_cons_succ])
                              refine wpAnyF_done (by kernel_rfl) ?_ _
                              go_wp2
                              go_meet
                              case rel => exact ⟨rfl, HYV.out.trans (HDF.out.mono HYV.out.size)⟩
                  · as_aux_lemma =>
                      have hA : Below V.heap.size V (V.alloc (.cells #[.slice A9 256 c9x] 42)) := (Below.refl _ _).alloc (Nat.le_refl _) _
                      have HA_1 := Lib.hid hA
                      have HD_1 : Hid (Below V.heap.size V (V.alloc (.cells #[.slice A9 256 c9x] 42))) := Lib.hid (HD_0.out.trans (hA.mono HD_0.out.size))
                      have hN := heap_alloc_new V (.cells #[.slice A9 256 c9x] 42)
                      have HN_1 := Lib.hid hN
                      clear hA hN
                      go_simp
                      refine hK.out _ _ (HK19.out _ HD_1.out) (fun hHeld_1 => ?_)
                      clear hK K
                      (try simp only [Act.put, List.getElem_toArray, List.getElem_cons_succ, List.getElem_cons_zero, List.setIfInBounds_toArray, List.set_cons_zero, List.set_cons_succ])
                      generalize V.alloc (.cells #[.slice A9 256 c9x] 42) = Y1 at *
                      obtain ⟨e7, he7⟩ : ∃ e, e = V.heap.size := ⟨_, rfl⟩
                      have HSe7 := Lib.hid he7
                      rw [← he7] at HN_1 ⊢
                      clear he7
                      have HC7_1 : Hid (Y1.heap[e7]? = some (.cells #[.slice A9 256 c9x] 42 (0, 0))) := Lib.hid HN_1.out
                      refine wpAnyF_ready (rs := [1, 13]) (by kernel_rfl) (by simp) ?_
                      refine AllReadyF.cons (o := _) rfl (fun K hK => ?_) (AllReadyF.cons (o := _) rfl (fun K hK => ?_) AllReadyF.nil)
                      · as_aux_lemma =>
                          have hA : Below Y1.heap.size Y1 (Y1.alloc (.cells #[] 42)) := (Below.refl _ _).alloc (Nat.le_refl _) _
                          have HA_2 := Lib.hid hA
                          have HD_2 : Hid (Below V.heap.size V (Y1.alloc (.cells #[] 42))) := Lib.hid (HD_1.out.trans (hA.mono HD_1.out.size))
                          have hN := heap_alloc_new Y1 (.cells #[] 42)
                          have HN_2 := Lib.hid hN
                          clear hA hN
                          have HR1n : Hid (RowN (Y1.alloc (.cells #[] 42)) V.heap.size (.slice (some ⟨Y1.heap.size, 0, none⟩) 0 0) 0) := Lib.hid (RowN.none_ HD_1.out.size)
                          go_simp
                          refine hK.out _ _ (HK19.out _ HD_2.out) (fun hHeld_2 => ?_)
                          clear hK K
                          (try simp only [Act.put, List.getElem_toArray, List.getElem_cons_succ, List.getElem_cons_zero, List.setIfInBounds_toArray, List.set_cons_zero, List.set_cons_succ])
                          generalize Y1.alloc (.cells #[] 42) = Y2 at *
                          obtain ⟨e1, he1⟩ : ∃ e, e = Y1.heap.size := ⟨_, rfl⟩
                          have HSe1 := Lib.hid he1
                          rw [← he1] at HN_2 ⊢
                          clear he1
                          have HE17 : Hid (e1 ≠ e7) := Lib.hid (by rw [HSe1.out]; exact Nat.ne_of_gt (blk_lt HC7_1.out))
                          have HR1_2 : Hid (RowN Y2 V.heap.size (.slice (some ⟨e1, 0, none⟩) 0 0) 0) := Lib.hid (by rw [HSe1.out]; exact HR1n.out)
                          have HC7_2 : Hid (Y2.heap[e7]? = some (.cells #[.slice A9 256 c9x] 42 (0, 0))) := Lib.hid ((HA_2.out.block _ (blk_lt HC7_1.out)).trans HC7_1.out)
                          refine wpAnyF_ready (rs := [3, 13]) (by kernel_rfl) (by simp) ?_
                          refine AllReadyF.cons (o := _) rfl (fun K hK => ?_) (AllReadyF.cons (o := _) rfl (fun K hK => ?_) AllReadyF.nil)
                          · as_aux_lemma =>
                              obtain ⟨vs, hvl, hone, hvs⟩ := (HBV.out.below HD_2.out).vals
                              rw [if_pos (by kernel_rfl)]
                              refine step_appG Y2 (.tmp 98) (.tmp 99) rfl V.heap.size HD_2.out.size (.slice (some ⟨e1, 0, none⟩) 0 0) 0 rfl HR1_2.out gF (tn + 1) cF vs rfl (by rw [hvl]; exact HSL.out) hone (fun i hi => (hvs i (by rw [HSL.out]; exact hi)).1) (by omega) ?_
                              clear hvl hone hvs
                              clear vs
                              intro v3 Y3 hr hb hfar
                              rw [Nat.zero_add] at hr
                              have HD_3 : Hid (Below V.heap.size V Y3) := Lib.hid (HD_2.out.trans hb)
                              have HR3_3 := Lib.hid hr
                              obtain ⟨A3, c3, rfl⟩ := hr.form
                              have HSZ_3 : Hid (Y2.heap.size ≤ Y3.heap.size) := Lib.hid hb.size
                              have HC7_3 : Hid (Y3.heap[e7]? = some (.cells #[.slice A9 256 c9x] 42 (0, 0))) := Lib.hid ((hfar e7 (blk_lt HC7_2.out) (fun e => HE17.out (Option.some.inj e))).trans HC7_2.out)
                              clear hr hb hfar
                              refine hK.out _ _ (HK19.out _ HD_3.out) (fun hHeld_3 => ?_)
                              clear hK K
                              (try simp only [Act.put, List.getElem_toArray, List.getElem_cons_succ, List.getElem_cons_zero, List.setIfInBounds_toArray, List.set_cons_zero, List.set_cons_succ])
                              refine wpAnyF_ready (rs := [8, 13]) (by kernel_rfl) (by simp) ?_
                              refine AllReadyF.cons (o := _) rfl (fun K hK => ?_) (AllReadyF.cons (o := _) rfl (fun K hK => ?_) AllReadyF.nil)
                              · as_aux_lemma =>
                                  rw [if_pos (by kernel_rfl)]
                                  refine step_appG Y3 (.tmp 100) (.tmp 104) rfl V.heap.size HD_3.out.size (.slice A3 (tn + 1) c3) (tn + 1) rfl HR3_3.out e7 1 1 [.slice A9 256 c9x] rfl rfl (fun u hu => by simp at hu; subst hu; rfl) (fun i hi => by
                                    have hi0 : i = 0 := by omega
                                    subst hi0
                                    exact blk_cell HC7_3.out 0) (by omega) ?_
                                  intro v8 Y4 hr hb hfar
                                  have HD_4 : Hid (Below V.heap.size V Y4) := Lib.hid (HD_3.out.trans hb)
                                  obtain ⟨A8, c8, rfl⟩ := hr.form
                                  clear hr hb hfar
                                  refine hK.out _ _ (HK19.out _ HD_4.out) (fun hHeld_4 => ?_)
                                  clear hK K
                                  (try simp only [Act.put, List.getElem_toArray, List.getElem_cons_succ, List.getElem_cons_zero, List.setIfInBounds_toArray, List.set_cons_zero, List.set_cons_succ])
                                  refine wpAnyF_ready (rs := [9, 13]) (by kernel_rfl) (by simp) ?_
                                  refine AllReadyF.cons (o := _) rfl (fun K hK => ?_) (AllReadyF.cons (o := _) rfl (fun K hK => ?_) AllReadyF.nil)
                                  · as_aux_lemma =>
                                      go_simp
                                      (go_at_call 13)
                                      refine (parse_len pn tn A8 (tn + 1 + 1) c8 Y4 HG.out (by omega)).mono ?_
                                      rintro e Y5 ⟨rfl, hb⟩
                                      have HA_5 := Lib.hid hb
                                      have HD_5 := Lib.hid (HD_4.out.trans (hb.mono HD_4.out.size))
                                      clear hb
                                      refine hK.out _ _ (HK19.out _ HD_5.out) (fun hHeld_5 => ?_)
                                      clear hK K
                                      (try simp only [Act.put, List.getElem_toArray, List.getElem_cons_succ, List.getElem_cons_zero, List.setIfInBounds_toArray, List.set_cons_zero, List.set_cons_succ])
                                      refine wpAnyF_take (i := 10) (oi := _) (v := ?_) rfl (by kernel_rfl) (by kernel_rfl) (by kernel_rfl) (by kernel_rfl) (fun _ _ _ h => h) (Or.inl ⟨by rfl, ?_⟩) (by assumption) ?_
                                      rotate_left 1
                                      · intro w hSw
                                        (try dsimp only at hSw)
                                        (first | (go_simp; done) | (go_simp; with_reducible rfl))
                                      (try simp only [Act.put, List.getElem_toArray, List.getElem_cons_succ, List.getElem_cons_zero, List.setIfInBounds_toArray, List.set_cons_zero, List.set_cons_succ])
                                      refine wpAnyF_take (i := 11) (oi := _) (v := ?_) rfl (by kernel_rfl) (by kernel_rfl) (by kernel_rfl) (by kernel_rfl) (fun _ _ _ h => h) (Or.inl ⟨by rfl, ?_⟩) (by assumption) ?_
                                      rotate_left 1
                                      · intro w hSw
                                        (try dsimp only at hSw)
                                        (first | (go_simp; done) | (go_simp; with_reducible rfl))
                                      (try simp only [Act.put, List.getElem_toArray, List.getElem_cons_succ, List.getElem_cons_zero, List.setIfInBounds_toArray, List.set_cons_zero, List.set_cons_succ])
                                      refine wpAnyF_take (i := 12) (oi := _) (v := ?_) rfl (by kernel_rfl) (by kernel_rfl) (by kernel_rfl) (by kernel_rfl) (fun _ _ _ h => h) (Or.inl ⟨by rfl, ?_⟩) (by assumption) ?_
                                      rotate_left 1
                                      · intro w hSw
                                        (try dsimp only at hSw)
                                        (first | (go_simp; done) | (go_simp; with_reducible rfl))
                                      (try simp only [Act.put, List.getElem_toArray, List.getElem_cons_succ, List.getElem_cons_zero, List.setIfInBounds_toArray, List.set_cons_zero, List.set_cons_succ])
                                      refine wpAnyF_ready (rs := [13]) (by kernel_rfl) (by simp) ?_
                                      refine AllReadyF.cons (o := _) rfl (fun K hK => ?_) AllReadyF.nil
                                      have hA : Below Y5.heap.size Y5 (Y5.alloc (.cells #[.int .u64 0, .slice none 0 0] 35)) := (Below.refl _ _).alloc (Nat.le_refl _) _
                                      have HA_6 := Lib.hid hA
                                      have HD_6 : Hid (Below V.heap.size V (Y5.alloc (.cells #[.int .u64 0, .slice none 0 0] 35))) := Lib.hid (HD_5.out.trans (hA.mono HD_5.out.size))
                                      have hN := heap_alloc_new Y5 (.cells #[.int .u64 0, .slice none 0 0] 35)
                                      have HN_6 := Lib.hid hN
                                      clear hA hN
                                      go_simp
                                      refine hK.out _ _ (HK19.out _ HD_6.out) (fun hHeld_6 => ?_)
                                      clear hK K
                                      (try simp only [Act.put, List.getElem_toArray, List.getElem_cons_succ, List.getElem_cons_zero, List.setIfInBounds_toArray, List.set_cons_zero, List.set_cons_succ])
                                      generalize Y5.alloc (.cells #[.int .u64 0, .slice none 0 0] 35) = Y6 at *
                                      obtain ⟨b13, hb13⟩ : ∃ e, e = Y5.heap.size := ⟨_, rfl⟩
                                      have HSb13 := Lib.hid hb13
                                      rw [← hb13] at HN_6 ⊢
                                      clear hb13
                                      have HB13 : Hid (V.heap.size ≤ b13) := Lib.hid (by rw [HSb13.out]; exact HD_5.out.size)
                                      have HX13_6 : Hid (Y6.heap[b13]? = some (.cells #[.int .u64 0, .slice none 0 0] 35 (0, 0))) := Lib.hid HN_6.out
                                      have q6 : Y6.cell? ⟨b13, 0, none⟩ = some (.int .u64 0) := blk_cell HX13_6.out 0
                                      have q7 : Y6.cell? ⟨b13, 1, none⟩ = some (.slice none 0 0) := blk_cell HX13_6.out 1
                                      have q8 : Y6.frozen? ⟨b13, 0, none⟩ = false := blk_free HX13_6.out 0
                                      have q9 : Y6.frozen? ⟨b13, 1, none⟩ = false := blk_free HX13_6.out 1
                                      have HDF : Hid (Below V.heap.size V ((Y6.setCell ⟨b13, 0, none⟩ (.int .u64 0)).setCell ⟨b13, 1, none⟩ (.slice none 0 0))) := Lib.hid ((HD_6.out.setCell (p := ⟨b13, 0, none⟩) HB13.out _).setCell (p := ⟨b13, 1, none⟩) HB13.out _)
                                      refine wpAnyF_ready (rs := [14]) (by kernel_rfl) (by simp) ?_
                                      refine AllReadyF.cons (o := _) rfl (fun K hK => ?_) AllReadyF.nil
                                      go_simp
                                      refine hK.out _ _ (HK19.out _ HDF.out) (fun hHeld14 => ?_)
                                      clear hK K
                                      (try simp only [Act.put, List.getElem_toArray, List.getElem_cons_succ, List.getElem_cons_zero, List.setIfInBounds_toArray, List.set_cons_zero, List.set_cons_succ])
                                      refine wpAnyF_take (i := 15) (oi := _) (v := ?_) rfl (by kernel_rfl) (by kernel_rfl) (by kernel_rfl) (by kernel_rfl) (fun _ _ _ h => h) (Or.inl ⟨by rfl, ?_⟩) (by assumption) ?_
                                      rotate_left 1
                                      · intro w hSw
                                        (try dsimp only at hSw)
                                        (first | (go_simp; done) | (go_simp; with_reducible rfl))
                                      (try simp only [Act.put, List.getElem_toArray, List.getElem_cons_succ, List.getElem_cons_zero, List.setIfInBounds_toArray, List.set_cons_zero, List.set_cons_succ])
                                      refine wpAnyF_done (by kernel_rfl) ?_ _
                                      go_wp2
                                      go_meet
                                      case rel => exact ⟨rfl, HYV.out.trans (HDF.out.mono HYV.out.size)⟩
                                  · as_aux_lemma =>
                                      have hA : Below Y4.heap.size Y4 (Y4.alloc (.cells #[.int .u64 0, .slice none 0 0] 35)) := (Below.refl _ _).alloc (Nat.le_refl _) _
                                      have HA_5 := Lib.hid hA
                                      have HD_5 : Hid (Below V.heap.size V (Y4.alloc (.cells #[.int .u64 0, .slice none 0 0] 35))) := Lib.hid (HD_4.out.trans (hA.mono HD_4.out.size))
                                      have hN := heap_alloc_new Y4 (.cells #[.int .u64 0, .slice none 0 0] 35)
                                      have HN_5 := Lib.hid hN
                                      clear hA hN
                                      go_simp
                                      refine hK.out _ _ (HK19.out _ HD_5.out) (fun hHeld_5 => ?_)
                                      clear hK K
                                      (try simp only [Act.put, List.getElem_toArray, List.getElem_cons_succ, List.getElem_cons_zero, List.setIfInBounds_toArray, List.set_cons_zero, List.set_cons_succ])
                                      generalize Y4.alloc (.cells #[.int .u64 0, .slice none 0 0] 35) = Y5 at *
                                      obtain ⟨b13, hb13⟩ : ∃ e, e = Y4.heap.size := ⟨_, rfl⟩
                                      have HSb13 := Lib.hid hb13
                                      rw [← hb13] at HN_5 ⊢
                                      clear hb13
                                      have HB13 : Hid (V.heap.size ≤ b13) := Lib.hid (by rw [HSb13.out]; exact HD_4.out.size)
                                      have HX13_5 : Hid (Y5.heap[b13]? = some (.cells #[.int .u64 0, .slice none 0 0] 35 (0, 0))) := Lib.hid HN_5.out
                                      refine wpAnyF_ready (rs := [9]) (by kernel_rfl) (by simp) ?_
                                      refine AllReadyF.cons (o := _) rfl (fun K hK => ?_) AllReadyF.nil
                                      go_simp
                                      (go_at_call 13)
                                      refine (parse_len pn tn A8 (tn + 1 + 1) c8 Y5 HG.out (by omega)).mono ?_
                                      rintro e Y6 ⟨rfl, hb⟩
                                      have HA_6 := Lib.hid hb
                                      have HD_6 := Lib.hid (HD_5.out.trans (hb.mono HD_5.out.size))
                                      clear hb
                                      refine hK.out _ _ (HK19.out _ HD_6.out) (fun hHeld_6 => ?_)
                                      clear hK K
                                      (try simp only [Act.put, List.getElem_toArray, List.getElem_cons_succ, List.getElem_cons_zero, List.setIfInBounds_toArray, List.set_cons_zero, List.set_cons_succ])
                                      have HX13_6 : Hid (Y6.heap[b13]? = some (.cells #[.int .u64 0, .slice none 0 0] 35 (0, 0))) := Lib.hid ((HA_6.out.block _ (blk_lt HX13_5.out)).trans HX13_5.out)
                                      refine wpAnyF_take (i := 10) (oi := _) (v := ?_) rfl (by kernel_rfl) (by kernel_rfl) (by kernel_rfl) (by kernel_rfl) (fun _ _ _ h => h) (Or.inl ⟨by rfl, ?_⟩) (by assumption) ?_
                                      rotate_left 1
                                      · intro w hSw
                                        (try dsimp only at hSw)
                                        (first | (go_simp; done) | (go_simp; with_reducible rfl))
                                      (try simp only [Act.put, List.getElem_toArray, List.getElem_cons_succ, List.getElem_cons_zero, List.setIfInBounds_toArray, List.set_cons_zero, List.set_cons_succ])
                                      refine wpAnyF_take (i := 11) (oi := _) (v := ?_) rfl (by kernel_rfl) (by kernel_rfl) (by kernel_rfl) (by kernel_rfl) (fun _ _ _ h => h) (Or.inl ⟨by rfl, ?_⟩) (by assumption) ?_
                                      rotate_left 1
                                      · intro w hSw
                                        (try dsimp only at hSw)
                                        (first | (go_simp; done) | (go_simp; with_reducible rfl))
                                      (try simp only [Act.put, List.getElem_toArray, List.getElem_cons_succ, List.getElem_cons_zero, List.setIfInBounds_toArray, List.set_cons_zero, List.set_cons_succ])
                                      refine wpAnyF_take (i := 12) (oi := _) (v := ?_) rfl (by kernel_rfl) (by kernel_rfl) (by kernel_rfl) (by kernel_rfl) (fun _ _ _ h => h) (Or.inl ⟨by rfl, ?_⟩) (by assumption) ?_
                                      rotate_left 1
                                      · intro w hSw
                                        (try dsimp only at hSw)
                                        (first | (go_simp; done) | (go_simp; with_reducible rfl))
                                      (try simp only [Act.put, List.getElem_toArray, List.getElem_cons_succ, List.getElem_cons_zero, List.setIfInBounds_toArray, List.set_cons_zero, List.set_cons_succ])
                                      have q6 : Y6.cell? ⟨b13, 0, none⟩ = some (.int .u64 0) := blk_cell HX13_6.out 0
                                      have q7 : Y6.cell? ⟨b13, 1, none⟩ = some (.slice none 0 0) := blk_cell HX13_6.out 1
                                      have q8 : Y6.frozen? ⟨b13, 0, none⟩ = false := blk_free HX13_6.out 0
                                      have q9 : Y6.frozen? ⟨b13, 1, none⟩ = false := blk_free HX13_6.out 1
                                      have HDF : Hid (Below V.heap.size V ((Y6.setCell ⟨b13, 0, none⟩ (.int .u64 0)).setCell ⟨b13, 1, none⟩ (.slice none 0 0))) := Lib.hid ((HD_6.out.setCell (p := ⟨b13, 0, none⟩) HB13.out _).setCell (p := ⟨b13, 1, none⟩) HB13.out _)
                                      refine wpAnyF_ready (rs := [14]) (by kernel_rfl) (by simp) ?_
                                      refine AllReadyF.cons (o := _) rfl (fun K hK => ?_) AllReadyF.nil
                                      go_simp
                                      refine hK.out _ _ (HK19.out _ HDF.out) (fun hHeld14 => ?_)
                                      clear hK K
                                      (try simp only [Act.put, List.getElem_toArray, List.getElem_cons_succ, List.getElem_cons_zero, List.setIfInBounds_toArray, List.set_cons_zero, List.set_cons_succ])
                                      refine wpAnyF_take (i := 15) (oi := _) (v := ?_) rfl (by kernel_rfl) (by kernel_rfl) (by kernel_rfl) (by kernel_rfl) (fun _ _ _ h => h) (Or.inl ⟨by rfl, ?_⟩) (by assumption) ?_
                                      rotate_left 1
                                      · intro w hSw
                                        (try dsimp only at hSw)
                                        (first | (go_simp; done) | (go_simp; with_reducible rfl))
                                      (try simp only [Act.put, List.getElem_toArray, List.getElem_cons_succ, List.getElem_cons_zero, List.setIfInBounds_toArray, List.set_cons_zero, List.set_cons_succ])
                                      refine wpAnyF_done (by kernel_rfl) ?_ _
                                      go_wp2
                                      go_meet
                                      case rel => exact ⟨rfl, HYV.out.trans (HDF.out.mono HYV.out.size)⟩
                              · as_aux_lemma =>
                                  have hA : Below Y3.heap.size Y3 (Y3.alloc (.cells #[.int .u64 0, .slice none 0 0] 35)) := (Below.refl _ _).alloc (Nat.le_refl _) _
                                  have HA_4 := Lib.hid hA
                                  have HD_4 : Hid (Below V.heap.size V (Y3.alloc (.cells #[.int .u64 0, .slice none 0 0] 35))) := Lib.hid (HD_3.out.trans (hA.mono HD_3.out.size))
                                  have hN := heap_alloc_new Y3 (.cells #[.int .u64 0, .slice none 0 0] 35)
                                  have HN_4 := Lib.hid hN
                                  clear hA hN
                                  go_simp
                                  refine hK.out _ _ (HK19.out _ HD_4.out) (fun hHeld_4 => ?_)
                                  clear hK K
                                  (try simp only [Act.put, List.getElem_toArray, List.getElem_cons_succ, List.getElem_cons_zero, List.setIfInBounds_toArray, List.set_cons_zero, List.set_cons_succ])
                                  generalize Y3.alloc (.cells #[.int .u64 0, .slice none 0 0] 35) = Y4 at *
                                  obtain ⟨b13, hb13⟩ : ∃ e, e = Y3.heap.size := ⟨_, rfl⟩
                                  have HSb13 := Lib.hid hb13
                                  rw [← hb13] at HN_4 ⊢
                                  clear hb13
                                  have HB13 : Hid (V.heap.size ≤ b13) := Lib.hid (by rw [HSb13.out]; exact HD_3.out.size)
                                  have HX13_4 : Hid (Y4.heap[b13]? = some (.cells #[.int .u64 0, .slice none 0 0] 35 (0, 0))) := Lib.hid HN_4.out
                                  have HC7_4 : Hid (Y4.heap[e7]? = some (.cells #[.slice A9 256 c9x] 42 (0, 0))) := Lib.hid ((HA_4.out.block _ (blk_lt HC7_3.out)).trans HC7_3.out)
                                  have HR3_4 := Lib.hid (HR3_3.out.below HA_4.out)
                                  refine wpAnyF_ready (rs := [8]) (by kernel_rfl) (by simp) ?_
                                  refine AllReadyF.cons (o := _) rfl (fun K hK => ?_) AllReadyF.nil
                                  rw [if_pos (by kernel_rfl)]
                                  refine step_appG Y4 (.tmp 100) (.tmp 104) rfl V.heap.size HD_4.out.size (.slice A3 (tn + 1) c3) (tn + 1) rfl HR3_4.out e7 1 1 [.slice A9 256 c9x] rfl rfl (fun u hu => by simp at hu; subst hu; rfl) (fun i hi => by
                                    have hi0 : i = 0 := by omega
                                    subst hi0
                                    exact blk_cell HC7_4.out 0) (by omega) ?_
                                  intro v8 Y5 hr hb hfar
                                  have HD_5 : Hid (Below V.heap.size V Y5) := Lib.hid (HD_4.out.trans hb)
                                  obtain ⟨A8, c8, rfl⟩ := hr.form
                                  have HX13_5 : Hid (Y5.heap[b13]? = some (.cells #[.int .u64 0, .slice none 0 0] 35 (0, 0))) := Lib.hid ((hfar b13 (blk_lt HX13_4.out) (HR3_4.out.far HX13_4.out (by decide))).trans HX13_4.out)
                                  clear hr hb hfar
                                  refine hK.out _ _ (HK19.out _ HD_5.out) (fun hHeld_5 => ?_)
                                  clear hK K
                                  (try simp only [Act.put, List.getElem_toArray, List.getElem_cons_succ, List.getElem_cons_zero, List.setIfInBounds_toArray, List.set_cons_zero, List.set_cons_succ])
                                  refine wpAnyF_ready (rs := [9]) (by kernel_rfl) (by simp) ?_
                                  refine AllReadyF.cons (o := _) rfl (fun K hK => ?_) AllReadyF.nil
                                  go_simp
                                  (go_at_call 13)
                                  refine (parse_len pn tn A8 (tn + 1 + 1) c8 Y5 HG.out (by omega)).mono ?_
                                  rintro e Y6 ⟨rfl, hb⟩
                                  have HA_6 := Lib.hid hb
                                  have HD_6 := Lib.hid (HD_5.out.trans (hb.mono HD_5.out.size))
                                  clear hb
                                  refine hK.out _ _ (HK19.out _ HD_6.out) (fun hHeld_6 => ?_)
                                  clear hK K
                                  (try simp only [Act.put, List.getElem_toArray, List.getElem_cons_succ, List.getElem_cons_zero, List.setIfInBounds_toArray, List.set_cons_zero, List.set_cons_succ])
                                  have HX13_6 : Hid (Y6.heap[b13]? = some (.cells #[.int .u64 0, .slice none 0 0] 35 (0, 0))) := Lib.hid ((HA_6.out.block _ (blk_lt HX13_5.out)).trans HX13_5.out)
                                  refine wpAnyF_take (i := 10) (oi := _) (v := ?_) rfl (by kernel_rfl) (by kernel_rfl) (by kernel_rfl) (by kernel_rfl) (fun _ _ _ h => h) (Or.inl ⟨by rfl, ?_⟩) (by assumption) ?_
                                  rotate_left 1
                                  · intro w hSw
                                    (try dsimp only at hSw)
                                    (first | (go_simp; done) | (go_simp; with_reducible rfl))
                                  (try simp only [Act.put, List.getElem_toArray, List.getElem_cons_succ, List.getElem_cons_zero, List.setIfInBounds_toArray, List.set_cons_zero, List.set_cons_succ])
                                  refine wpAnyF_take (i := 11) (oi := _) (v := ?_) rfl (by kernel_rfl) (by kernel_rfl) (by kernel_rfl) (by kernel_rfl) (fun _ _ _ h => h) (Or.inl ⟨by rfl, ?_⟩) (by assumption) ?_
                                  rotate_left 1
                                  · intro w hSw
                                    (try dsimp only at hSw)
                                    (first | (go_simp; done) | (go_simp; with_reducible rfl))
                                  (try simp only [Act.put, List.getElem_toArray, List.getElem_cons_succ, List.getElem_cons_zero, List.setIfInBounds_toArray, List.set_cons_zero, List.set_cons_succ])
                                  refine wpAnyF_take (i := 12) (oi := _) (v := ?_) rfl (by kernel_rfl) (by kernel_rfl) (by kernel_rfl) (by kernel_rfl) (fun _ _ _ h => h) (Or.inl ⟨by rfl, ?_⟩) (by assumption) ?_
                                  rotate_left 1
                                  · intro w hSw
                                    (try dsimp only at hSw)
                                    (first | (go_simp; done) | (go_simp; with_reducible rfl))
                                  (try simp only [Act.put, List.getElem_toArray, List.getElem_cons_succ, List.getElem_cons_zero, List.setIfInBounds_toArray, List.set_cons_zero, List.set_cons_succ])
                                  have q6 : Y6.cell? ⟨b13, 0, none⟩ = some (.int .u64 0) := blk_cell HX13_6.out 0
                                  have q7 : Y6.cell? ⟨b13, 1, none⟩ = some (.slice none 0 0) := blk_cell HX13_6.out 1
                                  have q8 : Y6.frozen? ⟨b13, 0, none⟩ = false := blk_free HX13_6.out 0
                                  have q9 : Y6.frozen? ⟨b13, 1, none⟩ = false := blk_free HX13_6.out 1
                                  have HDF : Hid (Below V.heap.size V ((Y6.setCell ⟨b13, 0, none⟩ (.int .u64 0)).setCell ⟨b13, 1, none⟩ (.slice none 0 0))) := Lib.hid ((HD_6.out.setCell (p := ⟨b13, 0, none⟩) HB13.out _).setCell (p := ⟨b13, 1, none⟩) HB13.out _)
                                  refine wpAnyF_ready (rs := [14]) (by kernel_rfl) (by simp) ?_
                                  refine AllReadyF.cons (o := _) rfl (fun K hK => ?_) AllReadyF.nil
                                  go_simp
                                  refine hK.out _ _ (HK19.out _ HDF.out) (fun hHeld14 => ?_)
                                  clear hK K
                                  (try simp only [Act.put, List.getElem_toArray, List.getElem_cons_succ, List.getElem_cons_zero, List.setIfInBounds_toArray, List.set_cons_zero, List.set_cons_succ])
                                  refine wpAnyF_take (i := 15) (oi := _) (v := ?_) rfl (by kernel_rfl) (by kernel_rfl) (by kernel_rfl) (by kernel_rfl) (fun _ _ _ h => h) (Or.inl ⟨by rfl, ?_⟩) (by assumption) ?_
                                  rotate_left 1
                                  · intro w hSw
                                    (try dsimp only at hSw)
                                    (first | (go_simp; done) | (go_simp; with_reducible rfl))
                                  (try simp only [Act.put, List.getElem_toArray, List.getElem_cons_succ, List.getElem_cons_zero, List.setIfInBounds_toArray, List.set_cons_zero, List.set_cons_succ])
                                  refine wpAnyF_done (by kernel_rfl) ?_ _
                                  go_wp2
                                  go_meet
                                  case rel => exact ⟨rfl, HYV.out.trans (HDF.out.mono HYV.out.size)⟩
                          · as_aux_lemma =>
                              have hA : Below Y2.heap.size Y2 (Y2.alloc (.cells #[.int .u64 0, .slice none 0 0] 35)) := (Below.refl _ _).alloc (Nat.le_refl _) _
                              have HA_3 := Lib.hid hA
                              have HD_3 : Hid (Below V.heap.size V (Y2.alloc (.cells #[.int .u64 0, .slice none 0 0] 35))) := Lib.hid (HD_2.out.trans (hA.mono HD_2.out.size))
                              have hN := heap_alloc_new Y2 (.cells #[.int .u64 0, .slice none 0 0] 35)
                              have HN_3 := Lib.hid hN
                              clear hA hN
                              go_simp
                              refine hK.out _ _ (HK19.out _ HD_3.out) (fun hHeld_3 => ?_)
                              clear hK K
                              (try simp only [Act.put, List.getElem_toArray, List.getElem_cons_succ, List.getElem_cons_zero, List.setIfInBounds_toArray, List.set_cons_zero, List.set_cons_succ])
                              generalize Y2.alloc (.cells #[.int .u64 0, .slice none 0 0] 35) = Y3 at *
                              obtain ⟨b13, hb13⟩ : ∃ e, e = Y2.heap.size := ⟨_, rfl⟩
                              have HSb13 := Lib.hid hb13
                              rw [← hb13] at HN_3 ⊢
                              clear hb13
                              have HB13 : Hid (V.heap.size ≤ b13) := Lib.hid (by rw [HSb13.out]; exact HD_2.out.size)
                              have HX13_3 : Hid (Y3.heap[b13]? = some (.cells #[.int .u64 0, .slice none 0 0] 35 (0, 0))) := Lib.hid HN_3.out
                              have HR1_3 := Lib.hid (HR1_2.out.below HA_3.out)
                              have HC7_3 : Hid (Y3.heap[e7]? = some (.cells #[.slice A9 256 c9x] 42 (0, 0))) := Lib.hid ((HA_3.out.block _ (blk_lt HC7_2.out)).trans HC7_2.out)
                              refine wpAnyF_ready (rs := [3]) (by kernel_rfl) (by simp) ?_
                              refine AllReadyF.cons (o := _) rfl (fun K hK => ?_) AllReadyF.nil
                              obtain ⟨vs, hvl, hone, hvs⟩ := (HBV.out.below HD_3.out).vals
                              rw [if_pos (by kernel_rfl)]
                              refine step_appG Y3 (.tmp 98) (.tmp 99) rfl V.heap.size HD_3.out.size (.slice (some ⟨e1, 0, none⟩) 0 0) 0 rfl HR1_3.out gF (tn + 1) cF vs rfl (by rw [hvl]; exact HSL.out) hone (fun i hi => (hvs i (by rw [HSL.out]; exact hi)).1) (by omega) ?_
                              clear hvl hone hvs
                              clear vs
                              intro v3 Y4 hr hb hfar
                              rw [Nat.zero_add] at hr
                              have HD_4 : Hid (Below V.heap.size V Y4) := Lib.hid (HD_3.out.trans hb)
                              have HR3_4 := Lib.hid hr
                              obtain ⟨A3, c3, rfl⟩ := hr.form
                              have HSZ_4 : Hid (Y3.heap.size ≤ Y4.heap.size) := Lib.hid hb.size
                              have HC7_4 : Hid (Y4.heap[e7]? = some (.cells #[.slice A9 256 c9x] 42 (0, 0))) := Lib.hid ((hfar e7 (blk_lt HC7_3.out) (fun e => HE17.out (Option.some.inj e))).trans HC7_3.out)
                              have HX13_4 : Hid (Y4.heap[b13]? = some (.cells #[.int .u64 0, .slice none 0 0] 35 (0, 0))) := Lib.hid ((hfar b13 (blk_lt HX13_3.out) (HR1_3.out.far HX13_3.out (by decide))).trans HX13_3.out)
                              clear hr hb hfar
                              refine hK.out _ _ (HK19.out _ HD_4.out) (fun hHeld_4 => ?_)
                              clear hK K
                              (try simp only [Act.put, List.getElem_toArray, List.getElem_cons_succ, List.getElem_cons_zero, List.setIfInBounds_toArray, List.set_cons_zero, List.set_cons_succ])
                              refine wpAnyF_ready (rs := [8]) (by kernel_rfl) (by simp) ?_
                              refine AllReadyF.cons (o := _) rfl (fun K hK => ?_) AllReadyF.nil
                              rw [if_pos (by kernel_rfl)]
                              refine step_appG Y4 (.tmp 100) (.tmp 104) rfl V.heap.size HD_4.out.size (.slice A3 (tn + 1) c3) (tn + 1) rfl HR3_4.out e7 1 1 [.slice A9 256 c9x] rfl rfl (fun u hu => by simp at hu; subst hu; rfl) (fun i hi => by
                                have hi0 : i = 0 := by omega
                                subst hi0
                                exact blk_cell HC7_4.out 0) (by omega) ?_
                              intro v8 Y5 hr hb hfar
                              have HD_5 : Hid (Below V.heap.size V Y5) := Lib.hid (HD_4.out.trans hb)
                              obtain ⟨A8, c8, rfl⟩ := hr.form
                              have HX13_5 : Hid (Y5.heap[b13]? = some (.cells #[.int .u64 0, .slice none 0 0] 35 (0, 0))) := Lib.hid ((hfar b13 (blk_lt HX13_4.out) (HR3_4.out.far HX13_4.out (by decide))).trans HX13_4.out)
                              clear hr hb hfar
                              refine hK.out _ _ (HK19.out _ HD_5.out) (fun hHeld_5 => ?_)
                              clear hK K
                              (try simp only [Act.put, List.getElem_toArray, List.getElem_cons_succ, List.getElem_cons_zero, List.setIfInBounds_toArray, List.set_cons_zero, List.set_cons_succ])
                              refine wpAnyF_ready (rs := [9]) (by kernel_rfl) (by simp) ?_
                              refine AllReadyF.cons (o := _) rfl (fun K hK => ?_) AllReadyF.nil
                              go_simp
                              (go_at_call 13)
                              refine (parse_len pn tn A8 (tn + 1 + 1) c8 Y5 HG.out (by omega)).mono ?_
                              rintro e Y6 ⟨rfl, hb⟩
                              have HA_6 := Lib.hid hb
                              have HD_6 := Lib.hid (HD_5.out.trans (hb.mono HD_5.out.size))
                              clear hb
                              refine hK.out _ _ (HK19.out _ HD_6.out) (fun hHeld_6 => ?_)
                              clear hK K
                              (try simp only [Act.put, List.getElem_toArray, List.getElem_cons_succ, List.getElem_cons_zero, List.setIfInBounds_toArray, List.set_cons_zero, List.set_cons_succ])
                              have HX13_6 : Hid (Y6.heap[b13]? = some (.cells #[.int .u64 0, .slice none 0 0] 35 (0, 0))) := Lib.hid ((HA_6.out.block _ (blk_lt HX13_5.out)).trans HX13_5.out)
                              refine wpAnyF_take (i := 10) (oi := _) (v := ?_) rfl (by kernel_rfl) (by kernel_rfl) (by kernel_rfl) (by kernel_rfl) (fun _ _ _ h => h) (Or.inl ⟨by rfl, ?_⟩) (by assumption) ?_
                              rotate_left 1
                              · intro w hSw
                                (try dsimp only at hSw)
                                (first | (go_simp; done) | (go_simp; with_reducible rfl))
                              (try simp only [Act.put, List.getElem_toArray, List.getElem_cons_succ, List.getElem_cons_zero, List.setIfInBounds_toArray, List.set_cons_zero, List.set_cons_succ])
                              refine wpAnyF_take (i := 11) (oi := _) (v := ?_) rfl (by kernel_rfl) (by kernel_rfl) (by kernel_rfl) (by kernel_rfl) (fun _ _ _ h => h) (Or.inl ⟨by rfl, ?_⟩) (by assumption) ?_
                              rotate_left 1
                              · intro w hSw
                                (try dsimp only at hSw)
                                (first | (go_simp; done) | (go_simp; with_reducible rfl))
                              (try simp only [Act.put, List.getElem_toArray, List.getElem_cons_succ, List.getElem_cons_zero, List.setIfInBounds_toArray, List.set_cons_zero, List.set_cons_succ])
                              refine wpAnyF_take (i := 12) (oi := _) (v := ?_) rfl (by kernel_rfl) (by kernel_rfl) (by kernel_rfl) (by kernel_rfl) (fun _ _ _ h => h) (Or.inl ⟨by rfl, ?_⟩) (by assumption) ?_
                              rotate_left 1
                              · intro w hSw
                                (try dsimp only at hSw)
                                (first | (go_simp; done) | (go_simp; with_reducible rfl))
                              (try simp only [Act.put, List.getElem_toArray, List.getElem_cons_succ, List.getElem_cons_zero, List.setIfInBounds_toArray, List.set_cons_zero, List.set_cons_succ])
                              have q6 : Y6.cell? ⟨b13, 0, none⟩ = some (.int .u64 0) := blk_cell HX13_6.out 0
                              have q7 : Y6.cell? ⟨b13, 1, none⟩ = some (.slice none 0 0) := blk_cell HX13_6.out 1
                              have q8 : Y6.frozen? ⟨b13, 0, none⟩ = false := blk_free HX13_6.out 0
                              have q9 : Y6.frozen? ⟨b13, 1, none⟩ = false := blk_free HX13_6.out 1
                              have HDF : Hid (Below V.heap.size V ((Y6.setCell ⟨b13, 0, none⟩ (.int .u64 0)).setCell ⟨b13, 1, none⟩ (.slice none 0 0))) := Lib.hid ((HD_6.out.setCell (p := ⟨b13, 0, none⟩) HB13.out _).setCell (p := ⟨b13, 1, none⟩) HB13.out _)
                              refine wpAnyF_ready (rs := [14]) (by kernel_rfl) (by simp) ?_
                              refine AllReadyF.cons (o := _) rfl (fun K hK => ?_) AllReadyF.nil
                              go_simp
                              refine hK.out _ _ (HK19.out _ HDF.out) (fun hHeld14 => ?_)
                              clear hK K
                              (try simp only [Act.put, List.getElem_toArray, List.getElem_cons_succ, List.getElem_cons_zero, List.setIfInBounds_toArray, List.set_cons_zero, List.set_cons_succ])
                              refine wpAnyF_take (i := 15) (oi := _) (v := ?_) rfl (by kernel_rfl) (by kernel_rfl) (by kernel_rfl) (by kernel_rfl) (fun _ _ _ h => h) (Or.inl ⟨by rfl, ?_⟩) (by assumption) ?_
                              rotate_left 1
                              · intro w hSw
                                (try dsimp only at hSw)
                                (first | (go_simp; done) | (go_simp; with_reducible rfl))
                              (try simp only [Act.put, List.getElem_toArray, List.getElem_cons_succ, List.getElem_cons_zero, List.setIfInBounds_toArray, List.set_cons_zero, List.set_cons_succ])
                              refine wpAnyF_done (by kernel_rfl) ?_ _
                              go_wp2
                              go_meet
                              case rel => exact ⟨rfl, HYV.out.trans (HDF.out.mono HYV.out.size)⟩
                      · as_aux_lemma =>
                          have hA : Below Y1.heap.size Y1 (Y1.alloc (.cells #[.int .u64 0, .slice none 0 0] 35)) := (Below.refl _ _).alloc (Nat.le_refl _) _
                          have HA_2 := Lib.hid hA
                          have HD_2 : Hid (Below V.heap.size V (Y1.alloc (.cells #[.int .u64 0, .slice none 0 0] 35))) := Lib.hid (HD_1.out.trans (hA.mono HD_1.out.size))
                          have hN := heap_alloc_new Y1 (.cells #[.int .u64 0, .slice none 0 0] 35)
                          have HN_2 := Lib.hid hN
                          clear hA hN
                          go_simp
                          refine hK.out _ _ (HK19.out _ HD_2.out) (fun hHeld_2 => ?_)
                          clear hK K
                          (try simp only [Act.put, List.getElem_toArray, List.getElem_cons_succ, List.getElem_cons_zero, List.setIfInBounds_toArray, List.set_cons_zero, List.set_cons_succ])
                          generalize Y1.alloc (.cells #[.int .u64 0, .slice none 0 0] 35) = Y2 at *
                          obtain ⟨b13, hb13⟩ : ∃ e, e = Y1.heap.size := ⟨_, rfl⟩
                          have HSb13 := Lib.hid hb13
                          rw [← hb13] at HN_2 ⊢
                          clear hb13
                          have HB13 : Hid (V.heap.size ≤ b13) := Lib.hid (by rw [HSb13.out]; exact HD_1.out.size)
                          have HX13_2 : Hid (Y2.heap[b13]? = some (.cells #[.int .u64 0, .slice none 0 0] 35 (0, 0))) := Lib.hid HN_2.out
                          have HC7_2 : Hid (Y2.heap[e7]? = some (.cells #[.slice A9 256 c9x] 42 (0, 0))) := Lib.hid ((HA_2.out.block _ (blk_lt HC7_1.out)).trans HC7_1.out)
                          refine wpAnyF_ready (rs := [1]) (by kernel_rfl) (by simp) ?_
                          refine AllReadyF.cons (o := _) rfl (fun K hK => ?_) AllReadyF.nil
                          have hA : Below Y2.heap.size Y2 (Y2.alloc (.cells #[] 42)) := (Below.refl _ _).alloc (Nat.le_refl _) _
                          have HA_3 := Lib.hid hA
                          have HD_3 : Hid (Below V.heap.size V (Y2.alloc (.cells #[] 42))) := Lib.hid (HD_2.out.trans (hA.mono HD_2.out.size))
                          have hN := heap_alloc_new Y2 (.cells #[] 42)
                          have HN_3 := Lib.hid hN
                          clear hA hN
                          have HR1n : Hid (RowN (Y2.alloc (.cells #[] 42)) V.heap.size (.slice (some ⟨Y2.heap.size, 0, none⟩) 0 0) 0) := Lib.hid (RowN.none_ HD_2.out.size)
                          go_simp
                          refine hK.out _ _ (HK19.out _ HD_3.out) (fun hHeld_3 => ?_)
                          clear hK K
                          (try simp only [Act.put, List.getElem_toArray, List.getElem_cons_succ, List.getElem_cons_zero, List.setIfInBounds_toArray, List.set_cons_zero, List.set_cons_succ])
                          generalize Y2.alloc (.cells #[] 42) = Y3 at *
                          obtain ⟨e1, he1⟩ : ∃ e, e = Y2.heap.size := ⟨_, rfl⟩
                          have HSe1 := Lib.hid he1
                          rw [← he1] at HN_3 ⊢
                          clear he1
                          have HE17 : Hid (e1 ≠ e7) := Lib.hid (by rw [HSe1.out]; exact Nat.ne_of_gt (blk_lt HC7_2.out))
                          have HR1_3 : Hid (RowN Y3 V.heap.size (.slice (some ⟨e1, 0, none⟩) 0 0) 0) := Lib.hid (by rw [HSe1.out]; exact HR1n.out)
                          have HC7_3 : Hid (Y3.heap[e7]? = some (.cells #[.slice A9 256 c9x] 42 (0, 0))) := Lib.hid ((HA_3.out.block _ (blk_lt HC7_2.out)).trans HC7_2.out)
                          have HX13_3 : Hid (Y3.heap[b13]? = some (.cells #[.int .u64 0, .slice none 0 0] 35 (0, 0))) := Lib.hid ((HA_3.out.block _ (blk_lt HX13_2.out)).trans HX13_2.out)
                          refine wpAnyF_ready (rs := [3]) (by kernel_rfl) (by simp) ?_
                          refine AllReadyF.cons (o := _) rfl (fun K hK => ?_) AllReadyF.nil
                          obtain ⟨vs, hvl, hone, hvs⟩ := (HBV.out.below HD_3.out).vals
                          rw [if_pos (by kernel_rfl)]
                          refine step_appG Y3 (.tmp 98) (.tmp 99) rfl V.heap.size HD_3.out.size (.slice (some ⟨e1, 0, none⟩) 0 0) 0 rfl HR1_3.out gF (tn + 1) cF vs rfl (by rw [hvl]; exact HSL.out) hone (fun i hi => (hvs i (by rw [HSL.out]; exact hi)).1) (by omega) ?_
                          clear hvl hone hvs
                          clear vs
                          intro v3 Y4 hr hb hfar
                          rw [Nat.zero_add] at hr
                          have HD_4 : Hid (Below V.heap.size V Y4) := Lib.hid (HD_3.out.trans hb)
                          have HR3_4 := Lib.hid hr
                          obtain ⟨A3, c3, rfl⟩ := hr.form
                          have HSZ_4 : Hid (Y3.heap.size ≤ Y4.heap.size) := Lib.hid hb.size
                          have HC7_4 : Hid (Y4.heap[e7]? = some (.cells #[.slice A9 256 c9x] 42 (0, 0))) := Lib.hid ((hfar e7 (blk_lt HC7_3.out) (fun e => HE17.out (Option.some.inj e))).trans HC7_3.out)
                          have HX13_4 : Hid (Y4.heap[b13]? = some (.cells #[.int .u64 0, .slice none 0 0] 35 (0, 0))) := Lib.hid ((hfar b13 (blk_lt HX13_3.out) (HR1_3.out.far HX13_3.out (by decide))).trans HX13_3.out)
                          clear hr hb hfar
                          refine hK.out _ _ (HK19.out _ HD_4.out) (fun hHeld_4 => ?_)
                          clear hK K
                          (try simp only [Act.put, List.getElem_toArray, List.getElem_cons_succ, List.getElem_cons_zero, List.setIfInBounds_toArray, List.set_cons_zero, List.set_cons_succ])
                          refine wpAnyF_ready (rs := [8]) (by kernel_rfl) (by simp) ?_
                          refine AllReadyF.cons (o := _) rfl (fun K hK => ?_) AllReadyF.nil
                          rw [if_pos (by kernel_rfl)]
                          refine step_appG Y4 (.tmp 100) (.tmp 104) rfl V.heap.size HD_4.out.size (.slice A3 (tn + 1) c3) (tn + 1) rfl HR3_4.out e7 1 1 [.slice A9 256 c9x] rfl rfl (fun u hu => by simp at hu; subst hu; rfl) (fun i hi => by
                            have hi0 : i = 0 := by omega
                            subst hi0
                            exact blk_cell HC7_4.out 0) (by omega) ?_
                          intro v8 Y5 hr hb hfar
                          have HD_5 : Hid (Below V.heap.size V Y5) := Lib.hid (HD_4.out.trans hb)
                          obtain ⟨A8, c8, rfl⟩ := hr.form
                          have HX13_5 : Hid (Y5.heap[b13]? = some (.cells #[.int .u64 0, .slice none 0 0] 35 (0, 0))) := Lib.hid ((hfar b13 (blk_lt HX13_4.out) (HR3_4.out.far HX13_4.out (by decide))).trans HX13_4.out)
                          clear hr hb hfar
                          refine hK.out _ _ (HK19.out _ HD_5.out) (fun hHeld_5 => ?_)
                          clear hK K
                          (try simp only [Act.put, List.getElem_toArray, List.getElem_cons_succ, List.getElem_cons_zero, List.setIfInBounds_toArray, List.set_cons_zero, List.set_cons_succ])
                          refine wpAnyF_ready (rs := [9]) (by kernel_rfl) (by simp) ?_
                          refine AllReadyF.cons (o := _) rfl (fun K hK => ?_) AllReadyF.nil
                          go_simp
                          (go_at_call 13)
                          refine (parse_len pn tn A8 (tn + 1 + 1) c8 Y5 HG.out (by omega)).mono ?_
                          rintro e Y6 ⟨rfl, hb⟩
                          have HA_6 := Lib.hid hb
                          have HD_6 := Lib.hid (HD_5.out.trans (hb.mono HD_5.out.size))
                          clear hb
                          refine hK.out _ _ (HK19.out _ HD_6.out) (fun hHeld_6 => ?_)
                          clear hK K
                          (try simp only [Act.put, List.getElem_toArray, List.getElem_cons_succ, List.getElem_cons_zero, List.setIfInBounds_toArray, List.set_cons_zero, List.set_cons_succ])
                          have HX13_6 : Hid (Y6.heap[b13]? = some (.cells #[.int .u64 0, .slice none 0 0] 35 (0, 0))) := Lib.hid ((HA_6.out.block _ (blk_lt HX13_5.out)).trans HX13_5.out)
                          refine wpAnyF_take (i := 10) (oi := _) (v := ?_) rfl (by kernel_rfl) (by kernel_rfl) (by kernel_rfl) (by kernel_rfl) (fun _ _ _ h => h) (Or.inl ⟨by rfl, ?_⟩) (by assumption) ?_
                          rotate_left 1
                          · intro w hSw
                            (try dsimp only at hSw)
                            (first | (go_simp; done) | (go_simp; with_reducible rfl))
                          (try simp only [Act.put, List.getElem_toArray, List.getElem_cons_succ, List.getElem_cons_zero, List.setIfInBounds_toArray, List.set_cons_zero, List.set_cons_succ])
                          refine wpAnyF_take (i := 11) (oi := _) (v := ?_) rfl (by kernel_rfl) (by kernel_rfl) (by kernel_rfl) (by kernel_rfl) (fun _ _ _ h => h) (Or.inl ⟨by rfl, ?_⟩) (by assumption) ?_
                          rotate_left 1
                          · intro w hSw
                            (try dsimp only at hSw)
                            (first | (go_simp; done) | (go_simp; with_reducible rfl))
                          (try simp only [Act.put, List.getElem_toArray, List.getElem_cons_succ, List.getElem_cons_zero, List.setIfInBounds_toArray, List.set_cons_zero, List.set_cons_succ])
                          refine wpAnyF_take (i := 12) (oi := _) (v := ?_) rfl (by kernel_rfl) (by kernel_rfl) (by kernel_rfl) (by kernel_rfl) (fun _ _ _ h => h) (Or.inl ⟨by rfl, ?_⟩) (by assumption) ?_
                          rotate_left 1
                          · intro w hSw
                            (try dsimp only at hSw)
                            (first | (go_simp; done) | (go_simp; with_reducible rfl))
                          (try simp only [Act.put, List.getElem_toArray, List.getElem_cons_succ, List.getElem_cons_zero, List.setIfInBounds_toArray, List.set_cons_zero, List.set_cons_succ])
                          have q6 : Y6.cell? ⟨b13, 0, none⟩ = some (.int .u64 0) := blk_cell HX13_6.out 0
                          have q7 : Y6.cell? ⟨b13, 1, none⟩ = some (.slice none 0 0) := blk_cell HX13_6.out 1
                          have q8 : Y6.frozen? ⟨b13, 0, none⟩ = false := blk_free HX13_6.out 0
                          have q9 : Y6.frozen? ⟨b13, 1, none⟩ = false := blk_free HX13_6.out 1
                          have HDF : Hid (Below V.heap.size V ((Y6.setCell ⟨b13, 0, none⟩ (.int .u64 0)).setCell ⟨b13, 1, none⟩ (.slice none 0 0))) := Lib.hid ((HD_6.out.setCell (p := ⟨b13, 0, none⟩) HB13.out _).setCell (p := ⟨b13, 1, none⟩) HB13.out _)
                          refine wpAnyF_ready (rs := [14]) (by kernel_rfl) (by simp) ?_
                          refine AllReadyF.cons (o := _) rfl (fun K hK => ?_) AllReadyF.nil
                          go_simp
                          refine hK.out _ _ (HK19.out _ HDF.out) (fun hHeld14 => ?_)
                          clear hK K
                          (try simp only [Act.put, List.getElem_toArray, List.getElem_cons_succ, List.getElem_cons_zero, List.setIfInBounds_toArray, List.set_cons_zero, List.set_cons_succ])
                          refine wpAnyF_take (i := 15) (oi := _) (v := ?_) rfl (by kernel_rfl) (by kernel_rfl) (by kernel_rfl) (by kernel_rfl) (fun _ _ _ h => h) (Or.inl ⟨by rfl, ?_⟩) (by assumption) ?_
                          rotate_left 1
                          · intro w hSw
                            (try dsimp only at hSw)
                            (first | (go_simp; done) | (go_simp; with_reducible rfl))
                          (try simp only [Act.put, List.getElem_toArray, List.getElem_cons_succ, List.getElem_cons_zero, List.setIfInBounds_toArray, List.set_cons_zero, List.set_cons_succ])
                          refine wpAnyF_done (by kernel_rfl) ?_ _
                          go_wp2
                          go_meet
                          case rel => exact ⟨rfl, HYV.out.trans (HDF.out.mono HYV.out.size)⟩
                  · as_aux_lemma =>
                      have hA : Below V.heap.size V (V.alloc (.cells #[.int .u64 0, .slice none 0 0] 35)) := (Below.refl _ _).alloc (Nat.le_refl _) _
                      have HA_1 := Lib.hid hA
                      have HD_1 : Hid (Below V.heap.size V (V.alloc (.cells #[.int .u64 0, .slice none 0 0] 35))) := Lib.hid (HD_0.out.trans (hA.mono HD_0.out.size))
                      have hN := heap_alloc_new V (.cells #[.int .u64 0, .slice none 0 0] 35)
                      have HN_1 := Lib.hid hN
                      clear hA hN
                      go_simp
                      refine hK.out _ _ (HK19.out _ HD_1.out) (fun hHeld_1 => ?_)
                      clear hK K
                      (try simp only [Act.put, List.getElem_toArray, List.getElem_cons_succ, List.getElem_cons_zero, List.setIfInBounds_toArray, List.set_cons_zero, List.set_cons_succ])
                      generalize V.alloc (.cells #[.int .u64 0, .slice none 0 0] 35) = Y1 at *
                      obtain ⟨b13, hb13⟩ : ∃ e, e = V.heap.size := ⟨_, rfl⟩
                      have HSb13 := Lib.hid hb13
                      rw [← hb13] at HN_1 ⊢
                      clear hb13
                      have HB13 : Hid (V.heap.size ≤ b13) := Lib.hid (by rw [HSb13.out]; exact HD_0.out.size)
                      have HX13_1 : Hid (Y1.heap[b13]? = some (.cells #[.int .u64 0, .slice none 0 0] 35 (0, 0))) := Lib.hid HN_1.out
                      refine wpAnyF_ready (rs := [1, 7]) (by kernel_rfl) (by simp) ?_
                      refine AllReadyF.cons (o := _) rfl (fun K hK => ?_) (AllReadyF.cons (o := _) rfl (fun K hK => ?_) AllReadyF.nil)
                      · as_aux_lemma =>
                          have hA : Below Y1.heap.size Y1 (Y1.alloc (.cells #[] 42)) := (Below.refl _ _).alloc (Nat.le_refl _) _
                          have HA_2 := Lib.hid hA
                          have HD_2 : Hid (Below V.heap.size V (Y1.alloc (.cells #[] 42))) := Lib.hid (HD_1.out.trans (hA.mono HD_1.out.size))
                          have hN := heap_alloc_new Y1 (.cells #[] 42)
                          have HN_2 := Lib.hid hN
                          clear hA hN
                          have HR1n : Hid (RowN (Y1.alloc (.cells #[] 42)) V.heap.size (.slice (some ⟨Y1.heap.size, 0, none⟩) 0 0) 0) := Lib.hid (RowN.none_ HD_1.out.size)
                          go_simp
                          refine hK.out _ _ (HK19.out _ HD_2.out) (fun hHeld_2 => ?_)
                          clear hK K
                          (try simp only [Act.put, List.getElem_toArray, List.getElem_cons_succ, List.getElem_cons_zero, List.setIfInBounds_toArray, List.set_cons_zero, List.set_cons_succ])
                          generalize Y1.alloc (.cells #[] 42) = Y2 at *
                          obtain ⟨e1, he1⟩ : ∃ e, e = Y1.heap.size := ⟨_, rfl⟩
                          have HSe1 := Lib.hid he1
                          rw [← he1] at HN_2 ⊢
                          clear he1
                          have HR1_2 : Hid (RowN Y2 V.heap.size (.slice (some ⟨e1, 0, none⟩) 0 0) 0) := Lib.hid (by rw [HSe1.out]; exact HR1n.out)
                          have HX13_2 : Hid (Y2.heap[b13]? = some (.cells #[.int .u64 0, .slice none 0 0] 35 (0, 0))) := Lib.hid ((HA_2.out.block _ (blk_lt HX13_1.out)).trans HX13_1.out)
                          refine wpAnyF_ready (rs := [3, 7]) (by kernel_rfl) (by simp) ?_
                          refine AllReadyF.cons (o := _) rfl (fun K hK => ?_) (AllReadyF.cons (o := _) rfl (fun K hK => ?_) AllReadyF.nil)
                          · as_aux_lemma =>
                              obtain ⟨vs, hvl, hone, hvs⟩ := (HBV.out.below HD_2.out).vals
                              rw [if_pos (by kernel_rfl)]
                              refine step_appG Y2 (.tmp 98) (.tmp 99) rfl V.heap.size HD_2.out.size (.slice (some ⟨e1, 0, none⟩) 0 0) 0 rfl HR1_2.out gF (tn + 1) cF vs rfl (by rw [hvl]; exact HSL.out) hone (fun i hi => (hvs i (by rw [HSL.out]; exact hi)).1) (by omega) ?_
                              clear hvl hone hvs
                              clear vs
                              intro v3 Y3 hr hb hfar
                              rw [Nat.zero_add] at hr
                              have HD_3 : Hid (Below V.heap.size V Y3) := Lib.hid (HD_2.out.trans hb)
                              have HR3_3 := Lib.hid hr
                              obtain ⟨A3, c3, rfl⟩ := hr.form
                              have HSZ_3 : Hid (Y2.heap.size ≤ Y3.heap.size) := Lib.hid hb.size
                              have HX13_3 : Hid (Y3.heap[b13]? = some (.cells #[.int .u64 0, .slice none 0 0] 35 (0, 0))) := Lib.hid ((hfar b13 (blk_lt HX13_2.out) (HR1_2.out.far HX13_2.out (by decide))).trans HX13_2.out)
                              clear hr hb hfar
                              refine hK.out _ _ (HK19.out _ HD_3.out) (fun hHeld_3 => ?_)
                              clear hK K
                              (try simp only [Act.put, List.getElem_toArray, List.getElem_cons_succ, List.getElem_cons_zero, List.setIfInBounds_toArray, List.set_cons_zero, List.set_cons_succ])
                              refine wpAnyF_ready (rs := [7]) (by kernel_rfl) (by simp) ?_
                              refine AllReadyF.cons (o := _) rfl (fun K hK => ?_) AllReadyF.nil
                              have hA : Below Y3.heap.size Y3 (Y3.alloc (.cells #[.slice A9 256 c9x] 42)) := (Below.refl _ _).alloc (Nat.le_refl _) _
                              have HA_4 := Lib.hid hA
                              have HD_4 : Hid (Below V.heap.size V (Y3.alloc (.cells #[.slice A9 256 c9x] 42))) := Lib.hid (HD_3.out.trans (hA.mono HD_3.out.size))
                              have hN := heap_alloc_new Y3 (.cells #[.slice A9 256 c9x] 42)
                              have HN_4 := Lib.hid hN
                              clear hA hN
                              go_simp
                              refine hK.out _ _ (HK19.out _ HD_4.out) (fun hHeld_4 => ?_)
                              clear hK K
                              (try simp only [Act.put, List.getElem_toArray, List.getElem_cons_succ, List.getElem_cons_zero, List.setIfInBounds_toArray, List.set_cons_zero, List.set_cons_succ])
                              generalize Y3.alloc (.cells #[.slice A9 256 c9x] 42) = Y4 at *
                              obtain ⟨e7, he7⟩ : ∃ e, e = Y3.heap.size := ⟨_, rfl⟩
                              have HSe7 := Lib.hid he7
                              rw [← he7] at HN_4 ⊢
                              clear he7
                              have HC7_4 : Hid (Y4.heap[e7]? = some (.cells #[.slice A9 256 c9x] 42 (0, 0))) := Lib.hid HN_4.out
                              have HX13_4 : Hid (Y4.heap[b13]? = some (.cells #[.int .u64 0, .slice none 0 0] 35 (0, 0))) := Lib.hid ((HA_4.out.block _ (blk_lt HX13_3.out)).trans HX13_3.out)
                              have HR3_4 := Lib.hid (HR3_3.out.below HA_4.out)
                              refine wpAnyF_ready (rs := [8]) (by kernel_rfl) (by simp) ?_
                              refine AllReadyF.cons (o := _) rfl (fun K hK => ?_) AllReadyF.nil
                              rw [if_pos (by kernel_rfl)]
                              refine step_appG Y4 (.tmp 100) (.tmp 104) rfl V.heap.size HD_4.out.size (.slice A3 (tn + 1) c3) (tn + 1) rfl HR3_4.out e7 1 1 [.slice A9 256 c9x] rfl rfl (fun u hu => by simp at hu; subst hu; rfl) (fun i hi => by
                                have hi0 : i = 0 := by omega
                                subst hi0
                                exact blk_cell HC7_4.out 0) (by omega) ?_
                              intro v8 Y5 hr hb hfar
                              have HD_5 : Hid (Below V.heap.size V Y5) := Lib.hid (HD_4.out.trans hb)
                              obtain ⟨A8, c8, rfl⟩ := hr.form
                              have HX13_5 : Hid (Y5.heap[b13]? = some (.cells #[.int .u64 0, .slice none 0 0] 35 (0, 0))) := Lib.hid ((hfar b13 (blk_lt HX13_4.out) (HR3_4.out.far HX13_4.out (by decide))).trans HX13_4.out)
                              clear hr hb hfar
                              refine hK.out _ _ (HK19.out _ HD_5.out) (fun hHeld_5 => ?_)
                              clear hK K
                              (try simp only [Act.put, List.getElem_toArray, List.getElem_cons_succ, List.getElem_cons_zero, List.setIfInBounds_toArray, List.set_cons_zero, List.set_cons_succ])
                              refine wpAnyF_ready (rs := [9]) (by kernel_rfl) (by simp) ?_
                              refine AllReadyF.cons (o := _) rfl (fun K hK => ?_) AllReadyF.nil
                              go_simp
                              (go_at_call 13)
                              refine (parse_len pn tn A8 (tn + 1 + 1) c8 Y5 HG.out (by omega)).mono ?_
                              rintro e Y6 ⟨rfl, hb⟩
                              have HA_6 := Lib.hid hb
                              have HD_6 := Lib.hid (HD_5.out.trans (hb.mono HD_5.out.size))
                              clear hb
                              refine hK.out _ _ (HK19.out _ HD_6.out) (fun hHeld_6 => ?_)
                              clear hK K
                              (try simp only [Act.put, List.getElem_toArray, List.getElem_cons_succ, List.getElem_cons_zero, List.setIfInBounds_toArray, List.set_cons_zero, List.set_cons_succ])
                              have HX13_6 : Hid (Y6.heap[b13]? = some (.cells #[.int .u64 0, .slice none 0 0] 35 (0, 0))) := Lib.hid ((HA_6.out.block _ (blk_lt HX13_5.out)).trans HX13_5.out)
                              refine wpAnyF_take (i := 10) (oi := _) (v := ?_) rfl (by kernel_rfl) (by kernel_rfl) (by kernel_rfl) (by kernel_rfl) (fun _ _ _ h => h) (Or.inl ⟨by rfl, ?_⟩) (by assumption) ?_
                              rotate_left 1
                              · intro w hSw
                                (try dsimp only at hSw)
                                (first | (go_simp; done) | (go_simp; with_reducible rfl))
                              (try simp only [Act.put, List.getElem_toArray, List.getElem_cons_succ, List.getElem_cons_zero, List.setIfInBounds_toArray, List.set_cons_zero, List.set_cons_succ])
                              refine wpAnyF_take (i := 11) (oi := _) (v := ?_) rfl (by kernel_rfl) (by kernel_rfl) (by kernel_rfl) (by kernel_rfl) (fun _ _ _ h => h) (Or.inl ⟨by rfl, ?_⟩) (by assumption) ?_
                              rotate_left 1
                              · intro w hSw
                                (try dsimp only at hSw)
                                (first | (go_simp; done) | (go_simp; with_reducible rfl))
                              (try simp only [Act.put, List.getElem_toArray, List.getElem_cons_succ, List.getElem_cons_zero, List.setIfInBounds_toArray, List.set_cons_zero, List.set_cons_succ])
                              refine wpAnyF_take (i := 12) (oi := _) (v := ?_) rfl (by kernel_rfl) (by kernel_rfl) (by kernel_rfl) (by kernel_rfl) (fun _ _ _ h => h) (Or.inl ⟨by rfl, ?_⟩) (by assumption) ?_
                              rotate_left 1
                              · intro w hSw
                                (try dsimp only at hSw)
                                (first | (go_simp; done) | (go_simp; with_reducible rfl))
                              (try simp only [Act.put, List.getElem_toArray, List.getElem_cons_succ, List.getElem_cons_zero, List.setIfInBounds_toArray, List.set_cons_zero, List.set_cons_succ])
                              have q6 : Y6.cell? ⟨b13, 0, none⟩ = some (.int .u64 0) := blk_cell HX13_6.out 0
                              have q7 : Y6.cell? ⟨b13, 1, none⟩ = some (.slice none 0 0) := blk_cell HX13_6.out 1
                              have q8 : Y6.frozen? ⟨b13, 0, none⟩ = false := blk_free HX13_6.out 0
                              have q9 : Y6.frozen? ⟨b13, 1, none⟩ = false := blk_free HX13_6.out 1
                              have HDF : Hid (Below V.heap.size V ((Y6.setCell ⟨b13, 0, none⟩ (.int .u64 0)).setCell ⟨b13, 1, none⟩ (.slice none 0 0))) := Lib.hid ((HD_6.out.setCell (p := ⟨b13, 0, none⟩) HB13.out _).setCell (p := ⟨b13, 1, none⟩) HB13.out _)
                              refine wpAnyF_ready (rs := [14]) (by kernel_rfl) (by simp) ?_
                              refine AllReadyF.cons (o := _) rfl (fun K hK => ?_) AllReadyF.nil
                              go_simp
                              refine hK.out _ _ (HK19.out _ HDF.out) (fun hHeld14 => ?_)
                              clear hK K
                              (try simp only [Act.put, List.getElem_toArray, List.getElem_cons_succ, List.getElem_cons_zero, List.setIfInBounds_toArray, List.set_cons_zero, List.set_cons_succ])
                              refine wpAnyF_take (i := 15) (oi := _) (v := ?_) rfl (by kernel_rfl) (by kernel_rfl) (by kernel_rfl) (by kernel_rfl) (fun _ _ _ h => h) (Or.inl ⟨by rfl, ?_⟩) (by assumption) ?_
                              rotate_left 1
                              · intro w hSw
                                (try dsimp only at hSw)
                                (first | (go_simp; done) | (go_simp; with_reducible rfl))
                              (try simp only [Act.put, List.getElem_toArray, List.getElem_cons_succ, List.getElem_cons_zero, List.setIfInBounds_toArray, List.set_cons_zero, List.set_cons_succ])
                              refine wpAnyF_done (by kernel_rfl) ?_ _
                              go_wp2
                              go_meet
                              case rel => exact ⟨rfl, HYV.out.trans (HDF.out.mono HYV.out.size)⟩
                          · as_aux_lemma =>
                              have hA : Below Y2.heap.size Y2 (Y2.alloc (.cells #[.slice A9 256 c9x] 42)) := (Below.refl _ _).alloc (Nat.le_refl _) _
                              have HA_3 := Lib.hid hA
                              have HD_3 : Hid (Below V.heap.size V (Y2.alloc (.cells #[.slice A9 256 c9x] 42))) := Lib.hid (HD_2.out.trans (hA.mono HD_2.out.size))
                              have hN := heap_alloc_new Y2 (.cells #[.slice A9 256 c9x] 42)
                              have HN_3 := Lib.hid hN
                              clear hA hN
                              go_simp
                              refine hK.out _ _ (HK19.out _ HD_3.out) (fun hHeld_3 => ?_)
                              clear hK K
                              (try simp only [Act.put, List.getElem_toArray, List.getElem_cons_succ, List.getElem_cons_zero, List.setIfInBounds_toArray, List.set_cons_zero, List.set_cons_succ])
                              generalize Y2.alloc (.cells #[.slice A9 256 c9x] 42) = Y3 at *
                              obtain ⟨e7, he7⟩ : ∃ e, e = Y2.heap.size := ⟨_, rfl⟩
                              have HSe7 := Lib.hid he7
                              rw [← he7] at HN_3 ⊢
                              clear he7
                              have HE17 : Hid (e1 ≠ e7) := Lib.hid (by rw [HSe7.out]; exact Nat.ne_of_lt (HR1_2.out.lt rfl))
                              have HC7_3 : Hid (Y3.heap[e7]? = some (.cells #[.slice A9 256 c9x] 42 (0, 0))) := Lib.hid HN_3.out
                              have HR1_3 := Lib.hid (HR1_2.out.below HA_3.out)
                              have HX13_3 : Hid (Y3.heap[b13]? = some (.cells #[.int .u64 0, .slice none 0 0] 35 (0, 0))) := Lib.hid ((HA_3.out.block _ (blk_lt HX13_2.out)).trans HX13_2.out)
                              refine wpAnyF_ready (rs := [3]) (by kernel_rfl) (by simp) ?_
                              refine AllReadyF.cons (o := _) rfl (fun K hK => ?_) AllReadyF.nil
                              obtain ⟨vs, hvl, hone, hvs⟩ := (HBV.out.below HD_3.out).vals
                              rw [if_pos (by kernel_rfl)]
                              refine step_appG Y3 (.tmp 98) (.tmp 99) rfl V.heap.size HD_3.out.size (.slice (some ⟨e1, 0, none⟩) 0 0) 0 rfl HR1_3.out gF (tn + 1) cF vs rfl (by rw [hvl]; exact HSL.out) hone (fun i hi => (hvs i (by rw [HSL.out]; exact hi)).1) (by omega) ?_
                              clear hvl hone hvs
                              clear vs
                              intro v3 Y4 hr hb hfar
                              rw [Nat.zero_add] at hr
                              have HD_4 : Hid (Below V.heap.size V Y4) := Lib.hid (HD_3.out.trans hb)
                              have HR3_4 := Lib.hid hr
                              obtain ⟨A3, c3, rfl⟩ := hr.form
                              have HSZ_4 : Hid (Y3.heap.size ≤ Y4.heap.size) := Lib.hid hb.size
                              have HC7_4 : Hid (Y4.heap[e7]? = some (.cells #[.slice A9 256 c9x] 42 (0, 0))) := Lib.hid ((hfar e7 (blk_lt HC7_3.out) (fun e => HE17.out (Option.some.inj e))).trans HC7_3.out)
                              have HX13_4 : Hid (Y4.heap[b13]? = some (.cells #[.int .u64 0, .slice none 0 0] 35 (0, 0))) := Lib.hid ((hfar b13 (blk_lt HX13_3.out) (HR1_3.out.far HX13_3.out (by decide))).trans HX13_3.out)
                              clear hr hb hfar
                              refine hK.out _ _ (HK19.out _ HD_4.out) (fun hHeld_4 => ?_)
                              clear hK K
                              (try simp only [Act.put, List.getElem_toArray, List.getElem_cons_succ, List.getElem_cons_zero, List.setIfInBounds_toArray, List.set_cons_zero, List.set_cons_succ])
                              refine wpAnyF_ready (rs := [8]) (by kernel_rfl) (by simp) ?_
                              refine AllReadyF.cons (o := _) rfl (fun K hK => ?_) AllReadyF.nil
                              rw [if_pos (by kernel_rfl)]
                              refine step_appG Y4 (.tmp 100) (.tmp 104) rfl V.heap.size HD_4.out.size (.slice A3 (tn + 1) c3) (tn + 1) rfl HR3_4.out e7 1 1 [.slice A9 256 c9x] rfl rfl (fun u hu => by simp at hu; subst hu; rfl) (fun i hi => by
                                have hi0 : i = 0 := by omega
                                subst hi0
                                exact blk_cell HC7_4.out 0) (by omega) ?_
                              intro v8 Y5 hr hb hfar
                              have HD_5 : Hid (Below V.heap.size V Y5) := Lib.hid (HD_4.out.trans hb)
                              obtain ⟨A8, c8, rfl⟩ := hr.form
                              have HX13_5 : Hid (Y5.heap[b13]? = some (.cells #[.int .u64 0, .slice none 0 0] 35 (0, 0))) := Lib.hid ((hfar b13 (blk_lt HX13_4.out) (HR3_4.out.far HX13_4.out (by decide))).trans HX13_4.out)
                              clear hr hb hfar
                              refine hK.out _ _ (HK19.out _ HD_5.out) (fun hHeld_5 => ?_)
                              clear hK K
                              (try simp only [Act.put, List.getElem_toArray, List.getElem_cons_succ, List.getElem_cons_zero, List.setIfInBounds_toArray, List.set_cons_zero, List.set_cons_succ])
                              refine wpAnyF_ready (rs := [9]) (by kernel_rfl) (by simp) ?_
                              refine AllReadyF.cons (o := _) rfl (fun K hK => ?_) AllReadyF.nil
                              go_simp
                              (go_at_call 13)
                              refine (parse_len pn tn A8 (tn + 1 + 1) c8 Y5 HG.out (by omega)).mono ?_
                              rintro e Y6 ⟨rfl, hb⟩
                              have HA_6 := Lib.hid hb
                              have HD_6 := Lib.hid (HD_5.out.trans (hb.mono HD_5.out.size))
                              clear hb
                              refine hK.out _ _ (HK19.out _ HD_6.out) (fun hHeld_6 => ?_)
                              clear hK K
                              (try simp only [Act.put, List.getElem_toArray, List.getElem_cons_succ, List.getElem_cons_zero, List.setIfInBounds_toArray, List.set_cons_zero, List.set_cons_succ])
                              have HX13_6 : Hid (Y6.heap[b13]? = some (.cells #[.int .u64 0, .slice none 0 0] 35 (0, 0))) := Lib.hid ((HA_6.out.block _ (blk_lt HX13_5.out)).trans HX13_5.out)
                              refine wpAnyF_take (i := 10) (oi := _) (v := ?_) rfl (by kernel_rfl) (by kernel_rfl) (by kernel_rfl) (by kernel_rfl) (fun _ _ _ h => h) (Or.inl ⟨by rfl, ?_⟩) (by assumption) ?_
                              rotate_left 1
                              · intro w hSw
                                (try dsimp only at hSw)
                                (first | (go_simp; done) | (go_simp; with_reducible rfl))
                              (try simp only [Act.put, List.getElem_toArray, List.getElem_cons_succ, List.getElem_cons_zero, List.setIfInBounds_toArray, List.set_cons_zero, List.set_cons_succ])
                              refine wpAnyF_take (i := 11) (oi := _) (v := ?_) rfl (by kernel_rfl) (by kernel_rfl) (by kernel_rfl) (by kernel_rfl) (fun _ _ _ h => h) (Or.inl ⟨by rfl, ?_⟩) (by assumption) ?_
                              rotate_left 1
                              · intro w hSw
                                (try dsimp only at hSw)
                                (first | (go_simp; done) | (go_simp; with_reducible rfl))
                              (try simp only [Act.put, List.getElem_toArray, List.getElem_cons_succ, List.getElem_cons_zero, List.setIfInBounds_toArray, List.set_cons_zero, List.set_cons_succ])
                              refine wpAnyF_take (i := 12) (oi := _) (v := ?_) rfl (by kernel_rfl) (by kernel_rfl) (by kernel_rfl) (by kernel_rfl) (fun _ _ _ h => h) (Or.inl ⟨by rfl, ?_⟩) (by assumption) ?_
                              rotate_left 1
                              · intro w hSw
                                (try dsimp only at hSw)
                                (first | (go_simp; done) | (go_simp; with_reducible rfl))
                              (try simp only [Act.put, List.getElem_toArray, List.getElem_cons_succ, List.getElem_cons_zero, List.setIfInBounds_toArray, List.set_cons_zero, List.set_cons_succ])
                              have q6 : Y6.cell? ⟨b13, 0, none⟩ = some (.int .u64 0) := blk_cell HX13_6.out 0
                              have q7 : Y6.cell? ⟨b13, 1, none⟩ = some (.slice none 0 0) := blk_cell HX13_6.out 1
                              have q8 : Y6.frozen? ⟨b13, 0, none⟩ = false := blk_free HX13_6.out 0
                              have q9 : Y6.frozen? ⟨b13, 1, none⟩ = false := blk_free HX13_6.out 1
                              have HDF : Hid (Below V.heap.size V ((Y6.setCell ⟨b13, 0, none⟩ (.int .u64 0)).setCell ⟨b13, 1, none⟩ (.slice none 0 0))) := Lib.hid ((HD_6.out.setCell (p := ⟨b13, 0, none⟩) HB13.out _).setCell (p := ⟨b13, 1, none⟩) HB13.out _)
                              refine wpAnyF_ready (rs := [14]) (by kernel_rfl) (by simp) ?_
                              refine AllReadyF.cons (o := _) rfl (fun K hK => ?_) AllReadyF.nil
                              go_simp
                              refine hK.out _ _ (HK19.out _ HDF.out) (fun hHeld14 => ?_)
                              clear hK K
                              (try simp only [Act.put, List.getElem_toArray, List.getElem_cons_succ, List.getElem_cons_zero, List.setIfInBounds_toArray, List.set_cons_zero, List.set_cons_succ])
                              refine wpAnyF_take (i := 15) (oi := _) (v := ?_) rfl (by kernel_rfl) (by kernel_rfl) (by kernel_rfl) (by kernel_rfl) (fun _ _ _ h => h) (Or.inl ⟨by rfl, ?_⟩) (by assumption) ?_
                              rotate_left 1
                              · intro w hSw
                                (try dsimp only at hSw)
                                (first | (go_simp; done) | (go_simp; with_reducible rfl))
                              (try simp only [Act.put, List.getElem_toArray, List.getElem_cons_succ, List.getElem_cons_zero, List.setIfInBounds_toArray, List.set_cons_zero, List.set_cons_succ])
                              refine wpAnyF_done (by kernel_rfl) ?_ _
                              go_wp2
                              go_meet
                              case rel => exact ⟨rfl, HYV.out.trans (HDF.out.mono HYV.out.size)⟩
                      · as_aux_lemma =>
                          have hA : Below Y1.heap.size Y1 (Y1.alloc (.cells #[.slice A9 256 c9x] 42)) := (Below.refl _ _).alloc (Nat.le_refl _) _
                          have HA_2 := Lib.hid hA
                          have HD_2 : Hid (Below V.heap.size V (Y1.alloc (.cells #[.slice A9 256 c9x] 42))) := Lib.hid (HD_1.out.trans (hA.mono HD_1.out.size))
                          have hN := heap_alloc_new Y1 (.cells #[.slice A9 256 c9x] 42)
                          have HN_2 := Lib.hid hN
                          clear hA hN
                          go_simp
                          refine hK.out _ _ (HK19.out _ HD_2.out) (fun hHeld_2 => ?_)
                          clear hK K
                          (try simp only [Act.put, List.getElem_toArray, List.getElem_cons_succ, List.getElem_cons_zero, List.setIfInBounds_toArray, List.set_cons_zero, List.set_cons_succ])
                          generalize Y1.alloc (.cells #[.slice A9 256 c9x] 42) = Y2 at *
                          obtain ⟨e7, he7⟩ : ∃ e, e = Y1.heap.size := ⟨_, rfl⟩
                          have HSe7 := Lib.hid he7
                          rw [← he7] at HN_2 ⊢
                          clear he7
                          have HC7_2 : Hid (Y2.heap[e7]? = some (.cells #[.slice A9 256 c9x] 42 (0, 0))) := Lib.hid HN_2.out
                          have HX13_2 : Hid (Y2.heap[b13]? = some (.cells #[.int .u64 0, .slice none 0 0] 35 (0, 0))) := Lib.hid ((HA_2.out.block _ (blk_lt HX13_1.out)).trans HX13_1.out)
                          refine wpAnyF_ready (rs := [1]) (by kernel_rfl) (by simp) ?_
                          refine AllReadyF.cons (o := _) rfl (fun K hK => ?_) AllReadyF.nil
                          have hA : Below Y2.heap.size Y2 (Y2.alloc (.cells #[] 42)) := (Below.refl _ _).alloc (Nat.le_refl _) _
                          have HA_3 := Lib.hid hA
                          have HD_3 : Hid (Below V.heap.size V (Y2.alloc (.cells #[] 42))) := Lib.hid (HD_2.out.trans (hA.mono HD_2.out.size))
                          have hN := heap_alloc_new Y2 (.cells #[] 42)
                          have HN_3 := Lib.hid hN
                          clear hA hN
                          have HR1n : Hid (RowN (Y2.alloc (.cells #[] 42)) V.heap.size (.slice (some ⟨Y2.heap.size, 0, none⟩) 0 0) 0) := Lib.hid (RowN.none_ HD_2.out.size)
                          go_simp
                          refine hK.out _ _ (HK19.out _ HD_3.out) (fun hHeld_3 => ?_)
                          clear hK K
                          (try simp only [Act.put, List.getElem_toArray, List.getElem_cons_succ, List.getElem_cons_zero, List.setIfInBounds_toArray, List.set_cons_zero, List.set_cons_succ])
                          generalize Y2.alloc (.cells #[] 42) = Y3 at *
                          obtain ⟨e1, he1⟩ : ∃ e, e = Y2.heap.size := ⟨_, rfl⟩
                          have HSe1 := Lib.hid he1
                          rw [← he1] at HN_3 ⊢
                          clear he1
                          have HE17 : Hid (e1 ≠ e7) := Lib.hid (by rw [HSe1.out]; exact Nat.ne_of_gt (blk_lt HC7_2.out))
                          have HR1_3 : Hid (RowN Y3 V.heap.size (.slice (some ⟨e1, 0, none⟩) 0 0) 0) := Lib.hid (by rw [HSe1.out]; exact HR1n.out)
                          have HC7_3 : Hid (Y3.heap[e7]? = some (.cells #[.slice A9 256 c9x] 42 (0, 0))) := Lib.hid ((HA_3.out.block _ (blk_lt HC7_2.out)).trans HC7_2.out)
                          have HX13_3 : Hid (Y3.heap[b13]? = some (.cells #[.int .u64 0, .slice none 0 0] 35 (0, 0))) := Lib.hid ((HA_3.out.block _ (blk_lt HX13_2.out)).trans HX13_2.out)
                          refine wpAnyF_ready (rs := [3]) (by kernel_rfl) (by simp) ?_
                          refine AllReadyF.cons (o := _) rfl (fun K hK => ?_) AllReadyF.nil
                          obtain ⟨vs, hvl, hone, hvs⟩ := (HBV.out.below HD_3.out).vals
                          rw [if_pos (by kernel_rfl)]
                          refine step_appG Y3 (.tmp 98) (.tmp 99) rfl V.heap.size HD_3.out.size (.slice (some ⟨e1, 0, none⟩) 0 0) 0 rfl HR1_3.out gF (tn + 1) cF vs rfl (by rw [hvl]; exact HSL.out) hone (fun i hi => (hvs i (by rw [HSL.out]; exact hi)).1) (by omega) ?_
                          clear hvl hone hvs
                          clear vs
                          intro v3 Y4 hr hb hfar
                          rw [Nat.zero_add] at hr
                          have HD_4 : Hid (Below V.heap.size V Y4) := Lib.hid (HD_3.out.trans hb)
                          have HR3_4 := Lib.hid hr
                          obtain ⟨A3, c3, rfl⟩ := hr.form
                          have HSZ_4 : Hid (Y3.heap.size ≤ Y4.heap.size) := Lib.hid hb.size
                          have HC7_4 : Hid (Y4.heap[e7]? = some (.cells #[.slice A9 256 c9x] 42 (0, 0))) := Lib.hid ((hfar e7 (blk_lt HC7_3.out) (fun e => HE17.out (Option.some.inj e))).trans HC7_3.out)
                          have HX13_4 : Hid (Y4.heap[b13]? = some (.cells #[.int .u64 0, .slice none 0 0] 35 (0, 0))) := Lib.hid ((hfar b13 (blk_lt HX13_3.out) (HR1_3.out.far HX13_3.out (by decide))).trans HX13_3.out)
                          clear hr hb hfar
                          refine hK.out _ _ (HK19.out _ HD_4.out) (fun hHeld_4 => ?_)
                          clear hK K
                          (try simp only [Act.put, List.getElem_toArray, List.getElem_cons_succ, List.getElem_cons_zero, List.setIfInBounds_toArray, List.set_cons_zero, List.set_cons_succ])
                          refine wpAnyF_ready (rs := [8]) (by kernel_rfl) (by simp) ?_
                          refine AllReadyF.cons (o := _) rfl (fun K hK => ?_) AllReadyF.nil
                          rw [if_pos (by kernel_rfl)]
                          refine step_appG Y4 (.tmp 100) (.tmp 104) rfl V.heap.size HD_4.out.size (.slice A3 (tn + 1) c3) (tn + 1) rfl HR3_4.out e7 1 1 [.slice A9 256 c9x] rfl rfl (fun u hu => by simp at hu; subst hu; rfl) (fun i hi => by
                            have hi0 : i = 0 := by omega
                            subst hi0
                            exact blk_cell HC7_4.out 0) (by omega) ?_
                          intro v8 Y5 hr hb hfar
                          have HD_5 : Hid (Below V.heap.size V Y5) := Lib.hid (HD_4.out.trans hb)
                          obtain ⟨A8, c8, rfl⟩ := hr.form
                          have HX13_5 : Hid (Y5.heap[b13]? = some (.cells #[.int .u64 0, .slice none 0 0] 35 (0, 0))) := Lib.hid ((hfar b13 (blk_lt HX13_4.out) (HR3_4.out.far HX13_4.out (by decide))).trans HX13_4.out)
                          clear hr hb hfar
                          refine hK.out _ _ (HK19.out _ HD_5.out) (fun hHeld_5 => ?_)
                          clear hK K
                          (try simp only [Act.put, List.getElem_toArray, List.getElem_cons_succ, List.getElem_cons_zero, List.setIfInBounds_toArray, List.set_cons_zero, List.set_cons_succ])
                          refine wpAnyF_ready (rs := [9]) (by kernel_rfl) (by simp) ?_
                          refine AllReadyF.cons (o := _) rfl (fun K hK => ?_) AllReadyF.nil
                          go_simp
                          (go_at_call 13)
                          refine (parse_len pn tn A8 (tn + 1 + 1) c8 Y5 HG.out (by omega)).mono ?_
                          rintro e Y6 ⟨rfl, hb⟩
                          have HA_6 := Lib.hid hb
                          have HD_6 := Lib.hid (HD_5.out.trans (hb.mono HD_5.out.size))
                          clear hb
                          refine hK.out _ _ (HK19.out _ HD_6.out) (fun hHeld_6 => ?_)
                          clear hK K
                          (try simp only [Act.put, List.getElem_toArray, List.getElem_cons_succ, List.getElem_cons_zero, List.setIfInBounds_toArray, List.set_cons_zero, List.set_cons_succ])
                          have HX13_6 : Hid (Y6.heap[b13]? = some (.cells #[.int .u64 0, .slice none 0 0] 35 (0, 0))) := Lib.hid ((HA_6.out.block _ (blk_lt HX13_5.out)).trans HX13_5.out)
                          refine wpAnyF_take (i := 10) (oi := _) (v := ?_) rfl (by kernel_rfl) (by kernel_rfl) (by kernel_rfl) (by kernel_rfl) (fun _ _ _ h => h) (Or.inl ⟨by rfl, ?_⟩) (by assumption) ?_
                          rotate_left 1
                          · intro w hSw
                            (try dsimp only at hSw)
                            (first | (go_simp; done) | (go_simp; with_reducible rfl))
                          (try simp only [Act.put, List.getElem_toArray, List.getElem_cons_succ, List.getElem_cons_zero, List.setIfInBounds_toArray, List.set_cons_zero, List.set_cons_succ])
                          refine wpAnyF_take (i := 11) (oi := _) (v := ?_) rfl (by kernel_rfl) (by kernel_rfl) (by kernel_rfl) (by kernel_rfl) (fun _ _ _ h => h) (Or.inl ⟨by rfl, ?_⟩) (by assumption) ?_
                          rotate_left 1
                          · intro w hSw
                            (try dsimp only at hSw)
                            (first | (go_simp; done) | (go_simp; with_reducible rfl))
                          (try simp only [Act.put, List.getElem_toArray, List.getElem_cons_succ, List.getElem_cons_zero, List.setIfInBounds_toArray, List.set_cons_zero, List.set_cons_succ])
                          refine wpAnyF_take (i := 12) (oi := _) (v := ?_) rfl (by kernel_rfl) (by kernel_rfl) (by kernel_rfl) (by kernel_rfl) (fun _ _ _ h => h) (Or.inl ⟨by rfl, ?_⟩) (by assumption) ?_
                          rotate_left 1
                          · intro w hSw
                            (try dsimp only at hSw)
                            (first | (go_simp; done) | (go_simp; with_reducible rfl))
                          (try simp only [Act.put, List.getElem_toArray, List.getElem_cons_succ, List.getElem_cons_zero, List.setIfInBounds_toArray, List.set_cons_zero, List.set_cons_succ])
                          have q6 : Y6.cell? ⟨b13, 0, none⟩ = some (.int .u64 0) := blk_cell HX13_6.out 0
                          have q7 : Y6.cell? ⟨b13, 1, none⟩ = some (.slice none 0 0) := blk_cell HX13_6.out 1
                          have q8 : Y6.frozen? ⟨b13, 0, none⟩ = false := blk_free HX13_6.out 0
                          have q9 : Y6.frozen? ⟨b13, 1, none⟩ = false := blk_free HX13_6.out 1
                          have HDF : Hid (Below V.heap.size V ((Y6.setCell ⟨b13, 0, none⟩ (.int .u64 0)).setCell ⟨b13, 1, none⟩ (.slice none 0 0))) := Lib.hid ((HD_6.out.setCell (p := ⟨b13, 0, none⟩) HB13.out _).setCell (p := ⟨b13, 1, none⟩) HB13.out _)
                          refine wpAnyF_ready (rs := [14]) (by kernel_rfl) (by simp) ?_
                          refine AllReadyF.cons (o := _) rfl (fun K hK => ?_) AllReadyF.nil
                          go_simp
                          refine hK.out _ _ (HK19.out _ HDF.out) (fun hHeld14 => ?_)
                          clear hK K
                          (try simp only [Act.put, List.getElem_toArray, List.getElem_cons_succ, List.getElem_cons_zero, List.setIfInBounds_toArray, List.set_cons_zero, List.set_cons_succ])
                          refine wpAnyF_take (i := 15) (oi := _) (v := ?_) rfl (by kernel_rfl) (by kernel_rfl) (by kernel_rfl) (by kernel_rfl) (fun _ _ _ h => h) (Or.inl ⟨by rfl, ?_⟩) (by assumption) ?_
                          rotate_left 1
                          · intro w hSw
                            (try dsimp only at hSw)
                            (first | (go_simp; done) | (go_simp; with_reducible rfl))
                          (try simp only [Act.put, List.getElem_toArray, List.getElem_cons_succ, List.getElem_cons_zero, List.setIfInBounds_toArray, List.set_cons_zero, List.set_cons_succ])
                          refine wpAnyF_done (by kernel_rfl) ?_ _
                          go_wp2
                          go_meet
                          case rel => exact ⟨rfl, HYV.out.trans (HDF.out.mono HYV.out.size)⟩
                case rest =>
                  obtain ⟨rfl, hbc⟩ := hcut
                  have HE := Lib.hid (HYW.out.trans (hbc.mono HYW.out.size))
                  clear hbc
                  go_wp2_with fail
                  refine (awake14_any _).mono ?_
                  rintro e vz ⟨rfl, hbz⟩
                  have HEZ := Lib.hid (HE.out.trans (hbz.mono HE.out.size))
                  clear hbz
                  go_wp2
                  go_ret
                  exact ⟨rfl, HB2.out.trans (HEZ.out.mono HB2.out.size)⟩
          · cases short with
            | true =>
              as_aux_lemma =>
                have hbg := HBg.out
                have hsz := HSZ.out
                obtain ⟨cur3, hq1, hq2⟩ := HCS.out
                obtain ⟨A9, c9x, q90, q91⟩ := HBL.out.2 tn (by rw [HSL.out]; omega)
                have hm9 := HSE.out tn (by rw [HSL.out]; omega)
                rw [hm9] at q90 q91
                have hcc := q91.cap.1
                have y1 : WS.frozen? ⟨gF, tn, none⟩ = false := blk_free hq1 tn
                have hlz : ¬ (0 : Int) < less := hl
                have h255 : (255 : Int) ≤ (c9x : Int) := by omega
                have h255n : 255 ≤ c9x := by omega
                have htl : (tn : Int) < (tn : Int) + 1 := by omega
                have hw1 : IntKind.i64.wrap ((tn : Int) + 1 - 1) = (tn : Int) := by unfold IntKind.wrap; simp [IntKind.signed, IntKind.bits]; omega
                have hw2 : IntKind.i64.wrap (tn : Int) = (tn : Int) := by unfold IntKind.wrap; simp [IntKind.signed, IntKind.bits]; omega
                obtain ⟨WT, hWT⟩ : ∃ WT, WT = WS.setCell ⟨gF, tn, none⟩ (.slice A9 255 c9x) := ⟨_, rfl⟩
                have HBT : Hid (Blk WT gF (FS.set tn ((FS.getD tn []).take 255))) := Lib.hid (by rw [hWT]; exact HBS.out.cut hbg.1 hsz (by rw [HSL.out]; omega) q90 (by omega) hm9)
                have HTL : Hid ((FS.set tn ((FS.getD tn []).take 255)).length = tn + 1) := Lib.hid (by rw [List.length_set]; exact HSL.out)
                have HTO : Hid (((FS.set tn ((FS.getD tn []).take 255)).getD tn []).length ≠ 256) := Lib.hid (by
                  have hx : tn < FS.length := by rw [HSL.out]; omega
                  have e1 : (FS.set tn ((FS.getD tn []).take 255)).getD tn [] = (FS.getD tn []).take 255 := by
                    rw [List.getD_eq_getElem?_getD, List.getElem?_set_self hx]; rfl
                  rw [e1, List.length_take, hm9]; omega)
                have HBX : Hid (Below W2.heap.size W2 WT) := Lib.hid (by rw [hWT]; exact HBW.out.setCell (p := ⟨gF, tn, none⟩) HG2.out _)
                have HWT := Lib.hid hWT
                clear hWT hq1 hq2 q91 hm9 hsz hbg
                generalize FS.set tn ((FS.getD tn []).take 255) = FT at *
                go_upto_region 23 with (fail)
                rw [← HWT.out]
                clear q90 y1 HWT
                obtain ⟨g0, g1, g2, g3, g4⟩ := HK2.out WT HBX.out
                clear g2 g3 g4
                go_wp2_with fail
                refine (parse_odd pn tn gF cF tn FT WT HG.out HTL.out HC1.out HC2.out (by rw [HTL.out]; omega) HTO.out HBT.out).mono ?_
                rintro e v7 ⟨rfl, hb7⟩
                have HB7 := Lib.hid (HBX.out.trans (hb7.mono HBX.out.size))
                have HA8 : Hid (Below v7.heap.size v7 (v7.alloc (.cells #[.int .u64 0, .slice none 0 0] 35))) := Lib.hid ((Below.refl _ _).alloc (Nat.le_refl _) _)
                have HE := Lib.hid (HB7.out.trans (HA8.out.mono HB7.out.size))
                clear hb7 g0 g1
                go_wp2_with fail
                refine (awake14_any _).mono ?_
                rintro e vz ⟨rfl, hbz⟩
                have HEZ := Lib.hid (HE.out.trans (hbz.mono HE.out.size))
                clear hbz
                go_wp2
                go_ret
                exact ⟨rfl, HB2.out.trans (HEZ.out.mono HB2.out.size)⟩
            | false =>
              as_aux_lemma =>
                have hlz : ¬ (0 : Int) < less := hl
                obtain ⟨g0, g1, g2, g3, g4⟩ := HK2.out WS HBW.out
                clear g2 g3 g4
                go_wp2_with fail
                refine (parse14_any pn tn gF cF FS HG.out HSL.out HC1.out HC2.out HSE.out WS HBL.out).mono ?_
                rintro e v5 ⟨x5, es5, A5, n5, c5, er, rfl, hb5, hv5, hz5, hor5⟩
                have HOR5 := Lib.hid hor5
                have HV5 := Lib.hid hv5
                have HZ5 := Lib.hid hz5
                have HB5 := Lib.hid hb5
                clear hb5 hv5 hz5 hor5 g0 g1
                go_upto_region 26 with (fail)
                obtain ⟨b25, hb25⟩ : ∃ b, b = v5.heap.size := ⟨_, rfl⟩
                obtain ⟨W5, hW5⟩ : ∃ W5, W5 = v5.alloc (.cells #[.int .u64 (x5 : Int), .slice A5 n5 c5] 35) := ⟨_, rfl⟩
                have ha5 : Below v5.heap.size v5 W5 := by rw [hW5]; exact (Below.refl _ _).alloc (Nat.le_refl _) _
                have hx5 : W5.heap[b25]? = some (.cells #[.int .u64 (x5 : Int), .slice A5 n5 c5] 35 (0, 0)) := by rw [hW5, hb25]; exact heap_alloc_new v5 _
                have HA5 := Lib.hid ha5
                have HX5 := Lib.hid hx5
                have HS5 := Lib.hid (HB5.out.trans (ha5.mono HB5.out.size))
                rw [← hW5, ← hb25]
                clear hW5 ha5 hx5 hb25
                have HW5 := Lib.hid (HBW.out.trans (HS5.out.mono HBW.out.size))
                obtain ⟨g0, g1, g2, g3, g4⟩ := HK2.out W5 HW5.out
                clear g2 g3 g4
                go_wp2_with fail
                refine (rparse14_any pn tn gF cF FS HG.out HSL.out HC1.out HC2.out HSE.out W5 (HBL.out.below HS5.out)).mono ?_
                rintro e v6' ⟨x6, es6, A6, n6, c6, ok6, rfl, hb6, hv6, hz6, hor6⟩
                have HV6 := Lib.hid hv6
                have HB6' := Lib.hid hb6
                have hor5 := HOR5.out
                have hagree : x6 = x5 ∧ es6 = es5 ∧ ((er = 0 ∧ ok6 = true) ∨ (er = 4 ∧ ok6 = false)) := by
                  rcases hor5 with ⟨a1, a2, a3, a4, a5⟩ | ⟨a1, a3, a4, a5⟩
                  · rcases hor6 with ⟨d1, d2, d3, d4, d5⟩ | ⟨d1, d3, d4, d5⟩
                    · exact ⟨d3.trans a3.symm, d4.trans a4.symm, .inl ⟨a5, d5⟩⟩
                    · exact absurd ⟨a1, a2⟩ d1
                  · rcases hor6 with ⟨d1, d2, d3, d4, d5⟩ | ⟨d1, d3, d4, d5⟩
                    · exact absurd ⟨d1, d2⟩ a1
                    · exact ⟨d3.trans a3.symm, d4.trans a4.symm, .inr ⟨a5, d5⟩⟩
                have hn5 : es5.length ≤ 24 := by
                  have hok := readL_ok (F := FS.getD 0 []) (Ls := FS) (t := tn) ht24 HSL.out HSE.out
                  rcases hor5 with ⟨a1, a2, a3, a4, a5⟩ | ⟨a1, a3, a4, a5⟩
                  · rw [a4]; omega
                  · rw [a4]; simp
                obtain ⟨rfl, rfl, hee⟩ := hagree
                clear hor5 hor6 hb6 hv6 hz6 HOR5 g0 g1
                go_upto_region 27 with (fail)
                obtain ⟨b27, hb27⟩ : ∃ b, b = v6'.heap.size := ⟨_, rfl⟩
                obtain ⟨W6, hW6⟩ : ∃ W6, W6 = v6'.alloc (.cells #[.int .u64 (x6 : Int), .slice A6 n6 c6] 27) := ⟨_, rfl⟩
                have ha6 : Below v6'.heap.size v6' W6 := by rw [hW6]; exact (Below.refl _ _).alloc (Nat.le_refl _) _
                have hx6 : W6.heap[b27]? = some (.cells #[.int .u64 (x6 : Int), .slice A6 n6 c6] 27 (0, 0)) := by rw [hW6, hb27]; exact heap_alloc_new v6' _
                have hs6 := HB6'.out.trans (ha6.mono HB6'.out.size)
                have HX6 := Lib.hid hx6
                have HX56 := Lib.hid ((hs6.block _ (blk_lt HX5.out)).trans HX5.out)
                have HV56 := Lib.hid ((HV5.out.below HA5.out).below hs6)
                have HZ56 := Lib.hid ((HZ5.out.below HV5.out HA5.out).below (HV5.out.below HA5.out) hs6)
                have HV66 := Lib.hid (HV6.out.below ha6)
                have HW6 := Lib.hid (HW5.out.trans (hs6.mono HW5.out.size))
                rw [← hW6, ← hb27]
                clear hW6 ha6 hx6 hb27 hs6 HX5 HV5 HZ5 HV6
                have HK27 : Hid (∀ W, Below W6.heap.size W6 W → W.cell? ⟨b25, 0, none⟩ = some (.int .u64 (x6 : Int)) ∧ W.cell? ⟨b25, 1, none⟩ = some (.slice A5 n5 c5) ∧ W.cell? ⟨b27, 0, none⟩ = some (.int .u64 (x6 : Int)) ∧ W.cell? ⟨b27, 1, none⟩ = some (.slice A6 n6 c6)) := Lib.hid (fun W h => by
                  have h1 := (h.block _ (blk_lt HX56.out)).trans HX56.out
                  have h2 := (h.block _ (blk_lt HX6.out)).trans HX6.out
                  exact ⟨blk_cell h1 0, blk_cell h1 1, blk_cell h2 0, blk_cell h2 1⟩)
                rcases hee with ⟨rfl, rfl⟩ | ⟨rfl, rfl⟩
                · have HLL6 := Lib.hid hn5
                  clear hn5
                  refine wp_region_F (S := fun (W : World) => W.cell? ⟨b25, 0, none⟩ = some (.int .u64 (x6 : Int)) ∧ W.cell? ⟨b25, 1, none⟩ = some (.slice A5 n5 c5) ∧ W.cell? ⟨b27, 0, none⟩ = some (.int .u64 (x6 : Int)) ∧ W.cell? ⟨b27, 1, none⟩ = some (.slice A6 n6 c6)) [] (by kernel_rfl) (HK27.out _ ((Below.refl _ _).drew)) (fun hHeld => ?_)
                  refine wpAnyF_take (i := 0) (oi := _) (v := ?_) rfl (by kernel_rfl) (by kernel_rfl) (by kernel_rfl) (by kernel_rfl) (fun _ _ _ h => h) (Or.inl ⟨by rfl, ?_⟩) (by assumption) ?_
                  rotate_left 1
                  · intro w hSw
                    (try dsimp only at hSw)
                    (first | (go_simp; done) | (go_simp; with_reducible rfl))
                  (try simp only [Act.put, List.getElem_toArray, List.getElem_cons_succ, List.getElem_cons_zero, List.setIfInBounds_toArray, List.set_cons_zero, List.set_cons_succ])
                  refine wpAnyF_take (i := 1) (oi := _) (v := ?_) rfl (by kernel_rfl) (by kernel_rfl) (by kernel_rfl) (by kernel_rfl) (fun _ _ _ h => h) (Or.inl ⟨by rfl, ?_⟩) (by assumption) ?_
                  rotate_left 1
                  · intro w hSw
                    (try dsimp only at hSw)
                    (first | (go_simp; done) | (go_simp; with_reducible rfl))
                  (try simp only [Act.put, List.getElem_toArray, List.getElem_cons_succ, List.getElem_cons_zero, List.setIfInBounds_toArray, List.set_cons_zero, List.set_cons_succ])
                  refine wpAnyF_take (i := 2) (oi := _) (v := ?_) rfl (by kernel_rfl) (by kernel_rfl) (by kernel_rfl) (by kernel_rfl) (fun _ _ _ h => h) (Or.inl ⟨by rfl, ?_⟩) (by assumption) ?_
                  rotate_left 1
                  · intro w hSw
                    (try dsimp only at hSw)
                    (first | (go_simp; done) | (go_simp; with_reducible rfl))
                  (try simp only [Act.put, List.getElem_toArray, List.getElem_cons_succ, List.getElem_cons_zero, List.setIfInBounds_toArray, List.set_cons_zero, List.set_cons_succ])
                  refine wpAnyF_take (i := 3) (oi := _) (v := ?_) rfl (by kernel_rfl) (by kernel_rfl) (by kernel_rfl) (by kernel_rfl) (fun _ _ _ h => h) (Or.inl ⟨by rfl, ?_⟩) (by assumption) ?_
                  rotate_left 1
                  · intro w hSw
                    (try dsimp only at hSw)
                    (first | (go_simp; done) | (go_simp; with_reducible rfl))
                  (try simp only [Act.put, List.getElem_toArray, List.getElem_cons_succ, List.getElem_cons_zero, List.setIfInBounds_toArray, List.set_cons_zero, List.set_cons_succ])
                  refine wpAnyF_take (i := 4) (oi := _) (v := ?_) rfl (by kernel_rfl) (by kernel_rfl) (by kernel_rfl) (by kernel_rfl) (fun _ _ _ h => h) (Or.inl ⟨by rfl, ?_⟩) (by assumption) ?_
                  rotate_left 1
                  · intro w hSw
                    (try dsimp only at hSw)
                    (first | (go_simp; done) | (go_simp; with_reducible rfl))
                  (try simp only [Act.put, List.getElem_toArray, List.getElem_cons_succ, List.getElem_cons_zero, List.setIfInBounds_toArray, List.set_cons_zero, List.set_cons_succ])
                  refine wpAnyF_take (i := 5) (oi := _) (v := ?_) rfl (by kernel_rfl) (by kernel_rfl) (by kernel_rfl) (by kernel_rfl) (fun _ _ _ h => h) (Or.inl ⟨by rfl, ?_⟩) (by assumption) ?_
                  rotate_left 1
                  · intro w hSw
                    (try dsimp only at hSw)
                    (first | (go_simp; done) | (go_simp; with_reducible rfl))
                  (try simp only [Act.put, List.getElem_toArray, List.getElem_cons_succ, List.getElem_cons_zero, List.setIfInBounds_toArray, List.set_cons_zero, List.set_cons_succ])
                  refine wpAnyF_take (i := 6) (oi := _) (v := ?_) rfl (by kernel_rfl) (by kernel_rfl) (by kernel_rfl) (by kernel_rfl) (fun _ _ _ h => h) (Or.inl ⟨by rfl, ?_⟩) (by assumption) ?_
                  rotate_left 1
                  · intro w hSw
                    (try dsimp only at hSw)
                    (first | (go_simp; done) | (go_simp; with_reducible rfl))
                  (try simp only [Act.put, List.getElem_toArray, List.getElem_cons_succ, List.getElem_cons_zero, List.setIfInBounds_toArray, List.set_cons_zero, List.set_cons_succ])
                  refine wpAnyF_take (i := 7) (oi := _) (v := undef) rfl (by kernel_rfl) (by kernel_rfl) (by kernel_rfl) (by kernel_rfl) (fun _ _ _ h => h) (Or.inr ⟨by rfl, rfl⟩) (by assumption) ?_
                  (try simp only [Act.put, List.getElem_toArray, List.getElem_cons_succ, List.getElem_cons_zero, List.setIfInBounds_toArray, List.set_cons_zero, List.set_cons_succ])
                  refine wpAnyF_take (i := 8) (oi := _) (v := undef) rfl (by kernel_rfl) (by kernel_rfl) (by kernel_rfl) (by kernel_rfl) (fun _ _ _ h => h) (Or.inr ⟨by rfl, rfl⟩) (by assumption) ?_
                  (try simp only [Act.put, List.getElem_toArray, List.getElem_cons_succ, List.getElem_cons_zero, List.setIfInBounds_toArray, List.set_cons_zero, List.set_cons_succ])
                  refine wpAnyF_take (i := 9) (oi := _) (v := ?_) rfl (by kernel_rfl) (by kernel_rfl) (by kernel_rfl) (by kernel_rfl) (fun _ _ _ h => h) (Or.inl ⟨by rfl, ?_⟩) (by assumption) ?_
                  rotate_left 1
                  · intro w hSw
                    (try dsimp only at hSw)
                    (first | (go_simp; done) | (go_simp; with_reducible rfl))
                  (try simp only [Act.put, List.getElem_toArray, List.getElem_cons_succ, List.getElem_cons_zero, List.setIfInBounds_toArray, List.set_cons_zero, List.set_cons_succ])
                  refine wpAnyF_take (i := 10) (oi := _) (v := ?_) rfl (by kernel_rfl) (by kernel_rfl) (by kernel_rfl) (by kernel_rfl) (fun _ _ _ h => h) (Or.inl ⟨by rfl, ?_⟩) (by assumption) ?_
                  rotate_left 1
                  · intro w hSw
                    (try dsimp only at hSw)
                    (first | (go_simp; done) | (go_simp; with_reducible rfl))
                  (try simp only [Act.put, List.getElem_toArray, List.getElem_cons_succ, List.getElem_cons_zero, List.setIfInBounds_toArray, List.set_cons_zero, List.set_cons_succ])
                  refine wpAnyF_take (i := 11) (oi := _) (v := ?_) rfl (by kernel_rfl) (by kernel_rfl) (by kernel_rfl) (by kernel_rfl) (fun _ _ _ h => h) (Or.inl ⟨by rfl, ?_⟩) (by assumption) ?_
                  rotate_left 1
                  · intro w hSw
                    (try dsimp only at hSw)
                    (first | (go_simp; done) | (go_simp; with_reducible rfl))
                  (try simp only [Act.put, List.getElem_toArray, List.getElem_cons_succ, List.getElem_cons_zero, List.setIfInBounds_toArray, List.set_cons_zero, List.set_cons_succ])
                  refine wpAnyF_take (i := 12) (oi := _) (v := ?_) rfl (by kernel_rfl) (by kernel_rfl) (by kernel_rfl) (by kernel_rfl) (fun _ _ _ h => h) (Or.inl ⟨by rfl, ?_⟩) (by assumption) ?_
                  rotate_left 1
                  · intro w hSw
                    (try dsimp only at hSw)
                    (first | (go_simp; done) | (go_simp; with_reducible rfl))
                  (try simp only [Act.put, List.getElem_toArray, List.getElem_cons_succ, List.getElem_cons_zero, List.setIfInBounds_toArray, List.set_cons_zero, List.set_cons_succ])
                  refine wpAnyF_take (i := 14) (oi := _) (v := ?_) rfl (by kernel_rfl) (by kernel_rfl) (by kernel_rfl) (by kernel_rfl) (fun _ _ _ h => h) (Or.inl ⟨by rfl, ?_⟩) (by assumption) ?_
                  rotate_left 1
                  · intro w hSw
                    (try dsimp only at hSw)
                    (first | (go_simp; done) | (go_simp; with_reducible rfl))
                  (try simp only [Act.put, List.getElem_toArray, List.getElem_cons_succ, List.getElem_cons_zero, List.setIfInBounds_toArray, List.set_cons_zero, List.set_cons_succ])
                  refine wpAnyF_ready (rs := [13]) (by kernel_rfl) (by simp) ?_
                  refine AllReadyF.cons (o := _) rfl (fun K hK => ?_) AllReadyF.nil
                  go_simp
                  (go_at_call 16)
                  refine (plain14_any x6 A5 n5 c5 es6 _ (HV56.out.below ((Below.refl W6.heap.size W6).drew)) (HZ56.out.below HV56.out ((Below.refl W6.heap.size W6).drew)) (by have := HV56.out.1; have := HLL6.out; omega)).mono ?_
                  rintro e u4 ⟨A7, c7, rfl, hbu4, hvu, hzu⟩
                  have HU4 := Lib.hid (((Below.refl W6.heap.size W6).drew).trans (hbu4.mono ((Below.refl W6.heap.size W6).drew).size))
                  have HV4 := Lib.hid hvu
                  clear hbu4 hvu hzu
                  refine hK.out _ _ (HK27.out _ HU4.out) (fun hHeld13 => ?_)
                  clear hK K
                  (try simp only [Act.put, List.getElem_toArray, List.getElem_cons_succ, List.getElem_cons_zero, List.setIfInBounds_toArray, List.set_cons_zero, List.set_cons_succ])
                  refine wpAnyF_ready (rs := [15]) (by kernel_rfl) (by simp) ?_
                  refine AllReadyF.cons (o := _) rfl (fun K hK => ?_) AllReadyF.nil
                  go_simp
                  (go_at_call 15)
                  refine (rsame_any x6 x6 A7 A6 es6.length c7 n6 c6 es6 es6 _ HV4.out (HV66.out.below HU4.out) (by have := HLL6.out; omega) (by have := HV66.out.1; have := HLL6.out; omega)).mono ?_
                  rintro e u6 ⟨he6, hbu6⟩
                  obtain rfl : e = .returned (.bool true) := by rw [he6]; simp
                  have HU6 := Lib.hid (HU4.out.trans (hbu6.mono HU4.out.size))
                  clear hbu6 he6
                  refine hK.out _ _ (HK27.out _ HU6.out) (fun hHeld15 => ?_)
                  clear hK K
                  (try simp only [Act.put, List.getElem_toArray, List.getElem_cons_succ, List.getElem_cons_zero, List.setIfInBounds_toArray, List.set_cons_zero, List.set_cons_succ])
                  refine wpAnyF_take (i := 16) (oi := _) (v := ?_) rfl (by kernel_rfl) (by kernel_rfl) (by kernel_rfl) (by kernel_rfl) (fun _ _ _ h => h) (Or.inl ⟨by rfl, ?_⟩) (by assumption) ?_
                  rotate_left 1
                  · intro w hSw
                    (try dsimp only at hSw)
                    (first | (go_simp; done) | (go_simp; with_reducible rfl))
                  (try simp only [Act.put, List.getElem_toArray, List.getElem_cons_succ, List.getElem_cons_zero, List.setIfInBounds_toArray, List.set_cons_zero, List.set_cons_succ])
                  refine wpAnyF_take (i := 17) (oi := _) (v := ?_) rfl (by kernel_rfl) (by kernel_rfl) (by kernel_rfl) (by kernel_rfl) (fun _ _ _ h => h) (Or.inl ⟨by rfl, ?_⟩) (by assumption) ?_
                  rotate_left 1
                  · intro w hSw
                    (try dsimp only at hSw)
                    (first | (go_simp; done) | (go_simp; with_reducible rfl))
                  (try simp only [Act.put, List.getElem_toArray, List.getElem_cons_succ, List.getElem_cons_zero, List.setIfInBounds_toArray, List.set_cons_zero, List.set_cons_succ])
                  refine wpAnyF_ready (rs := [18]) (by kernel_rfl) (by simp) ?_
                  refine AllReadyF.cons (o := _) rfl (fun K hK => ?_) AllReadyF.nil
                  go_simp
                  (go_at_call 11)
                  refine (awake14_any _).mono ?_
                  rintro e u9 ⟨rfl, hbu9⟩
                  have HU9 := Lib.hid (HU6.out.trans (hbu9.mono HU6.out.size))
                  clear hbu9
                  refine hK.out _ _ (HK27.out _ HU9.out) (fun hHeld18 => ?_)
                  clear hK K
                  (try simp only [Act.put, List.getElem_toArray, List.getElem_cons_succ, List.getElem_cons_zero, List.setIfInBounds_toArray, List.set_cons_zero, List.set_cons_succ])
                  refine wpAnyF_take (i := 19) (oi := _) (v := ?_) rfl (by kernel_rfl) (by kernel_rfl) (by kernel_rfl) (by kernel_rfl) (fun _ _ _ h => h) (Or.inl ⟨by rfl, ?_⟩) (by assumption) ?_
                  rotate_left 1
                  · intro w hSw
                    (try dsimp only at hSw)
                    (first | (go_simp; done) | (go_simp; with_reducible rfl))
                  (try simp only [Act.put, List.getElem_toArray, List.getElem_cons_succ, List.getElem_cons_zero, List.setIfInBounds_toArray, List.set_cons_zero, List.set_cons_succ])
                  refine wpAnyF_take (i := 20) (oi := _) (v := ?_) rfl (by kernel_rfl) (by kernel_rfl) (by kernel_rfl) (by kernel_rfl) (fun _ _ _ h => h) (Or.inl ⟨by rfl, ?_⟩) (by assumption) ?_
                  rotate_left 1
                  · intro w hSw
                    (try dsimp only at hSw)
                    (first | (go_simp; done) | (go_simp; with_reducible rfl))
                  (try simp only [Act.put, List.getElem_toArray, List.getElem_cons_succ, List.getElem_cons_zero, List.setIfInBounds_toArray, List.set_cons_zero, List.set_cons_succ])
                  refine wpAnyF_done (by kernel_rfl) ?_ _
                  clear hHeld hHeld13 hHeld15 hHeld18
                  go_wp2
                  go_ret
                  exact ⟨rfl, HB2.out.trans ((HW6.out.trans (HU9.out.mono HW6.out.size)).mono HB2.out.size)⟩
                · have HLL6 := Lib.hid hn5
                  clear hn5
                  refine wp_region_F (S := fun (W : World) => W.cell? ⟨b25, 0, none⟩ = some (.int .u64 (x6 : Int)) ∧ W.cell? ⟨b25, 1, none⟩ = some (.slice A5 n5 c5) ∧ W.cell? ⟨b27, 0, none⟩ = some (.int .u64 (x6 : Int)) ∧ W.cell? ⟨b27, 1, none⟩ = some (.slice A6 n6 c6)) [] (by kernel_rfl) (HK27.out _ ((Below.refl _ _).drew)) (fun hHeld => ?_)
                  refine wpAnyF_take (i := 0) (oi := _) (v := ?_) rfl (by kernel_rfl) (by kernel_rfl) (by kernel_rfl) (by kernel_rfl) (fun _ _ _ h => h) (Or.inl ⟨by rfl, ?_⟩) (by assumption) ?_
                  rotate_left 1
                  · intro w hSw
                    (try dsimp only at hSw)
                    (first | (go_simp; done) | (go_simp; with_reducible rfl))
                  (try simp only [Act.put, List.getElem_toArray, List.getElem_cons_succ, List.getElem_cons_zero, List.setIfInBounds_toArray, List.set_cons_zero, List.set_cons_succ])
                  refine wpAnyF_take (i := 1) (oi := _) (v := ?_) rfl (by kernel_rfl) (by kernel_rfl) (by kernel_rfl) (by kernel_rfl) (fun _ _ _ h => h) (Or.inl ⟨by rfl, ?_⟩) (by assumption) ?_
                  rotate_left 1
                  · intro w hSw
                    (try dsimp only at hSw)
                    (first | (go_simp; done) | (go_simp; with_reducible rfl))
                  (try simp only [Act.put, List.getElem_toArray, List.getElem_cons_succ, List.getElem_cons_zero, List.setIfInBounds_toArray, List.set_cons_zero, List.set_cons_succ])
                  refine wpAnyF_take (i := 2) (oi := _) (v := ?_) rfl (by kernel_rfl) (by kernel_rfl) (by kernel_rfl) (by kernel_rfl) (fun _ _ _ h => h) (Or.inl ⟨by rfl, ?_⟩) (by assumption) ?_
                  rotate_left 1
                  · intro w hSw
                    (try dsimp only at hSw)
                    (first | (go_simp; done) | (go_simp; with_reducible rfl))
                  (try simp only [Act.put, List.getElem_toArray, List.getElem_cons_succ, List.getElem_cons_zero, List.setIfInBounds_toArray, List.set_cons_zero, List.set_cons_succ])
                  refine wpAnyF_take (i := 3) (oi := _) (v := ?_) rfl (by kernel_rfl) (by kernel_rfl) (by kernel_rfl) (by kernel_rfl) (fun _ _ _ h => h) (Or.inl ⟨by rfl, ?_⟩) (by assumption) ?_
                  rotate_left 1
                  · intro w hSw
                    (try dsimp only at hSw)
                    (first | (go_simp; done) | (go_simp; with_reducible rfl))
                  (try simp only [Act.put, List.getElem_toArray, List.getElem_cons_succ, List.getElem_cons_zero, List.setIfInBounds_toArray, List.set_cons_zero, List.set_cons_succ])
                  refine wpAnyF_take (i := 4) (oi := _) (v := ?_) rfl (by kernel_rfl) (by kernel_rfl) (by kernel_rfl) (by kernel_rfl) (fun _ _ _ h => h) (Or.inl ⟨by rfl, ?_⟩) (by assumption) ?_
                  rotate_left 1
                  · intro w hSw
                    (try dsimp only at hSw)
                    (first | (go_simp; done) | (go_simp; with_reducible rfl))
                  (try simp only [Act.put, List.getElem_toArray, List.getElem_cons_succ, List.getElem_cons_zero, List.setIfInBounds_toArray, List.set_cons_zero, List.set_cons_succ])
                  refine wpAnyF_take (i := 5) (oi := _) (v := ?_) rfl (by kernel_rfl) (by kernel_rfl) (by kernel_rfl) (by kernel_rfl) (fun _ _ _ h => h) (Or.inl ⟨by rfl, ?_⟩) (by assumption) ?_
                  rotate_left 1
                  · intro w hSw
                    (try dsimp only at hSw)
                    (first | (go_simp; done) | (go_simp; with_reducible rfl))
                  (try simp only [Act.put, List.getElem_toArray, List.getElem_cons_succ, List.getElem_cons_zero, List.setIfInBounds_toArray, List.set_cons_zero, List.set_cons_succ])
                  refine wpAnyF_take (i := 6) (oi := _) (v := ?_) rfl (by kernel_rfl) (by kernel_rfl) (by kernel_rfl) (by kernel_rfl) (fun _ _ _ h => h) (Or.inl ⟨by rfl, ?_⟩) (by assumption) ?_
                  rotate_left 1
                  · intro w hSw
                    (try dsimp only at hSw)
                    (first | (go_simp; done) | (go_simp; with_reducible rfl))
                  (try simp only [Act.put, List.getElem_toArray, List.getElem_cons_succ, List.getElem_cons_zero, List.setIfInBounds_toArray, List.set_cons_zero, List.set_cons_succ])
                  refine wpAnyF_take (i := 7) (oi := _) (v := ?_) rfl (by kernel_rfl) (by kernel_rfl) (by kernel_rfl) (by kernel_rfl) (fun _ _ _ h => h) (Or.inl ⟨by rfl, ?_⟩) (by assumption) ?_
                  rotate_left 1
                  · intro w hSw
                    (try dsimp only at hSw)
                    (first | (go_simp; done) | (go_simp; with_reducible rfl))
                  (try simp only [Act.put, List.getElem_toArray, List.getElem_cons_succ, List.getElem_cons_zero, List.setIfInBounds_toArray, List.set_cons_zero, List.set_cons_succ])
                  refine wpAnyF_take (i := 8) (oi := _) (v := ?_) rfl (by kernel_rfl) (by kernel_rfl) (by kernel_rfl) (by kernel_rfl) (fun _ _ _ h => h) (Or.inl ⟨by rfl, ?_⟩) (by assumption) ?_
                  rotate_left 1
                  · intro w hSw
                    (try dsimp only at hSw)
                    (first | (go_simp; done) | (go_simp; with_reducible rfl))
                  (try simp only [Act.put, List.getElem_toArray, List.getElem_cons_succ, List.getElem_cons_zero, List.setIfInBounds_toArray, List.set_cons_zero, List.set_cons_succ])
                  refine wpAnyF_take (i := 9) (oi := _) (v := ?_) rfl (by kernel_rfl) (by kernel_rfl) (by kernel_rfl) (by kernel_rfl) (fun _ _ _ h => h) (Or.inl ⟨by rfl, ?_⟩) (by assumption) ?_
                  rotate_left 1
                  · intro w hSw
                    (try dsimp only at hSw)
                    (first | (go_simp; done) | (go_simp; with_reducible rfl))
                  (try simp only [Act.put, List.getElem_toArray, List.getElem_cons_succ, List.getElem_cons_zero, List.setIfInBounds_toArray, List.set_cons_zero, List.set_cons_succ])
                  refine wpAnyF_take (i := 10) (oi := _) (v := ?_) rfl (by kernel_rfl) (by kernel_rfl) (by kernel_rfl) (by kernel_rfl) (fun _ _ _ h => h) (Or.inl ⟨by rfl, ?_⟩) (by assumption) ?_
                  rotate_left 1
                  · intro w hSw
                    (try dsimp only at hSw)
                    (first | (go_simp; done) | (go_simp; with_reducible rfl))
                  (try simp only [Act.put, List.getElem_toArray, List.getElem_cons_succ, List.getElem_cons_zero, List.setIfInBounds_toArray, List.set_cons_zero, List.set_cons_succ])
                  refine wpAnyF_take (i := 11) (oi := _) (v := ?_) rfl (by kernel_rfl) (by kernel_rfl) (by kernel_rfl) (by kernel_rfl) (fun _ _ _ h => h) (Or.inl ⟨by rfl, ?_⟩) (by assumption) ?_
                  rotate_left 1
                  · intro w hSw
                    (try dsimp only at hSw)
                    (first | (go_simp; done) | (go_simp; with_reducible rfl))
                  (try simp only [Act.put, List.getElem_toArray, List.getElem_cons_succ, List.getElem_cons_zero, List.setIfInBounds_toArray, List.set_cons_zero, List.set_cons_succ])
                  refine wpAnyF_take (i := 12) (oi := _) (v := ?_) rfl (by kernel_rfl) (by kernel_rfl) (by kernel_rfl) (by kernel_rfl) (fun _ _ _ h => h) (Or.inl ⟨by rfl, ?_⟩) (by assumption) ?_
                  rotate_left 1
                  · intro w hSw
                    (try dsimp only at hSw)
                    (first | (go_simp; done) | (go_simp; with_reducible rfl))
                  (try simp only [Act.put, List.getElem_toArray, List.getElem_cons_succ, List.getElem_cons_zero, List.setIfInBounds_toArray, List.set_cons_zero, List.set_cons_succ])
                  refine wpAnyF_take (i := 14) (oi := _) (v := ?_) rfl (by kernel_rfl) (by kernel_rfl) (by kernel_rfl) (by kernel_rfl) (fun _ _ _ h => h) (Or.inl ⟨by rfl, ?_⟩) (by assumption) ?_
                  rotate_left 1
                  · intro w hSw
                    (try dsimp only at hSw)
                    (first | (go_simp; done) | (go_simp; with_reducible rfl))
                  (try simp only [Act.put, List.getElem_toArray, List.getElem_cons_succ, List.getElem_cons_zero, List.setIfInBounds_toArray, List.set_cons_zero, List.set_cons_succ])
                  refine wpAnyF_ready (rs := [13]) (by kernel_rfl) (by simp) ?_
                  refine AllReadyF.cons (o := _) rfl (fun K hK => ?_) AllReadyF.nil
                  go_simp
                  (go_at_call 16)
                  refine (plain14_any x6 A5 n5 c5 es6 _ (HV56.out.below ((Below.refl W6.heap.size W6).drew)) (HZ56.out.below HV56.out ((Below.refl W6.heap.size W6).drew)) (by have := HV56.out.1; have := HLL6.out; omega)).mono ?_
                  rintro e u4 ⟨A7, c7, rfl, hbu4, hvu, hzu⟩
                  have HU4 := Lib.hid (((Below.refl W6.heap.size W6).drew).trans (hbu4.mono ((Below.refl W6.heap.size W6).drew).size))
                  have HV4 := Lib.hid hvu
                  clear hbu4 hvu hzu
                  refine hK.out _ _ (HK27.out _ HU4.out) (fun hHeld13 => ?_)
                  clear hK K
                  (try simp only [Act.put, List.getElem_toArray, List.getElem_cons_succ, List.getElem_cons_zero, List.setIfInBounds_toArray, List.set_cons_zero, List.set_cons_succ])
                  refine wpAnyF_ready (rs := [15]) (by kernel_rfl) (by simp) ?_
                  refine AllReadyF.cons (o := _) rfl (fun K hK => ?_) AllReadyF.nil
                  go_simp
                  (go_at_call 15)
                  refine (rsame_any x6 x6 A7 A6 es6.length c7 n6 c6 es6 es6 _ HV4.out (HV66.out.below HU4.out) (by have := HLL6.out; omega) (by have := HV66.out.1; have := HLL6.out; omega)).mono ?_
                  rintro e u6 ⟨he6, hbu6⟩
                  obtain rfl : e = .returned (.bool true) := by rw [he6]; simp
                  have HU6 := Lib.hid (HU4.out.trans (hbu6.mono HU4.out.size))
                  clear hbu6 he6
                  refine hK.out _ _ (HK27.out _ HU6.out) (fun hHeld15 => ?_)
                  clear hK K
                  (try simp only [Act.put, List.getElem_toArray, List.getElem_cons_succ, List.getElem_cons_zero, List.setIfInBounds_toArray, List.set_cons_zero, List.set_cons_succ])
                  refine wpAnyF_take (i := 16) (oi := _) (v := ?_) rfl (by kernel_rfl) (by kernel_rfl) (by kernel_rfl) (by kernel_rfl) (fun _ _ _ h => h) (Or.inl ⟨by rfl, ?_⟩) (by assumption) ?_
                  rotate_left 1
                  · intro w hSw
                    (try dsimp only at hSw)
                    (first | (go_simp; done) | (go_simp; with_reducible rfl))
                  (try simp only [Act.put, List.getElem_toArray, List.getElem_cons_succ, List.getElem_cons_zero, List.setIfInBounds_toArray, List.set_cons_zero, List.set_cons_succ])
                  refine wpAnyF_take (i := 17) (oi := _) (v := ?_) rfl (by kernel_rfl) (by kernel_rfl) (by kernel_rfl) (by kernel_rfl) (fun _ _ _ h => h) (Or.inl ⟨by rfl, ?_⟩) (by assumption) ?_
                  rotate_left 1
                  · intro w hSw
                    (try dsimp only at hSw)
                    (first | (go_simp; done) | (go_simp; with_reducible rfl))
                  (try simp only [Act.put, List.getElem_toArray, List.getElem_cons_succ, List.getElem_cons_zero, List.setIfInBounds_toArray, List.set_cons_zero, List.set_cons_succ])
                  refine wpAnyF_ready (rs := [18]) (by kernel_rfl) (by simp) ?_
                  refine AllReadyF.cons (o := _) rfl (fun K hK => ?_) AllReadyF.nil
                  go_simp
                  (go_at_call 11)
                  refine (awake14_any _).mono ?_
                  rintro e u9 ⟨rfl, hbu9⟩
                  have HU9 := Lib.hid (HU6.out.trans (hbu9.mono HU6.out.size))
                  clear hbu9
                  refine hK.out _ _ (HK27.out _ HU9.out) (fun hHeld18 => ?_)
                  clear hK K
                  (try simp only [Act.put, List.getElem_toArray, List.getElem_cons_succ, List.getElem_cons_zero, List.setIfInBounds_toArray, List.set_cons_zero, List.set_cons_succ])
                  refine wpAnyF_take (i := 19) (oi := _) (v := ?_) rfl (by kernel_rfl) (by kernel_rfl) (by kernel_rfl) (by kernel_rfl) (fun _ _ _ h => h) (Or.inl ⟨by rfl, ?_⟩) (by assumption) ?_
                  rotate_left 1
                  · intro w hSw
                    (try dsimp only at hSw)
                    (first | (go_simp; done) | (go_simp; with_reducible rfl))
                  (try simp only [Act.put, List.getElem_toArray, List.getElem_cons_succ, List.getElem_cons_zero, List.setIfInBounds_toArray, List.set_cons_zero, List.set_cons_succ])
                  refine wpAnyF_take (i := 20) (oi := _) (v := ?_) rfl (by kernel_rfl) (by kernel_rfl) (by kernel_rfl) (by kernel_rfl) (fun _ _ _ h => h) (Or.inl ⟨by rfl, ?_⟩) (by assumption) ?_
                  rotate_left 1
                  · intro w hSw
                    (try dsimp only at hSw)
                    (first | (go_simp; done) | (go_simp; with_reducible rfl))
                  (try simp only [Act.put, List.getElem_toArray, List.getElem_cons_succ, List.getElem_cons_zero, List.setIfInBounds_toArray, List.set_cons_zero, List.set_cons_succ])
                  refine wpAnyF_done (by kernel_rfl) ?_ _
                  clear hHeld hHeld13 hHeld15 hHeld18
                  go_wp2
                  go_ret
                  exact ⟨rfl, HB2.out.trans ((HW6.out.trans (HU9.out.mono HW6.out.size)).mono HB2.out.size)⟩
    · have HG := Lib.hid hg
      go_wp2_with fail
      refine (rmay_no p t hg _).mono ?_
      rintro e v6 ⟨rfl, hb6⟩
      have HB6 := Lib.hid (HBC.out.trans (hb6.mono HBC.out.size))
      clear q0 q1 hb6 hg
      obtain ⟨q0, q1, q2, q3, q4⟩ := HK2.out v6 HB6.out
      clear q2 q3 q4
      go_wp2_with fail
      refine (parse_geo p t _ _ _ v6 HG.out).mono ?_
      rintro e v7 ⟨rfl, hb7⟩
      have HB7 := Lib.hid (HB6.out.trans (hb7.mono HB6.out.size))
      have HA8 : Hid (Below v7.heap.size v7 (v7.alloc (.cells #[.int .u64 0, .slice none 0 0] 35))) := Lib.hid ((Below.refl _ _).alloc (Nat.le_refl _) _)
      clear hb7 q0 q1
      go_wp2_with fail
      refine (awake14_any _).mono ?_
      rintro e v9 ⟨rfl, hb9⟩
      have HB9 := Lib.hid (HB7.out.trans ((HA8.out.trans (hb9.mono HA8.out.size)).mono HB7.out.size))
      clear hb9
      go_wp2
      go_ret
      exact ⟨rfl, HB2.out.trans (HB9.out.mono HB2.out.size)⟩
end Go.Proofs.Ytnalebocfbbpdaa
