/-
  Layer 18: Used; chapter 18's example.
-/
import Derived.Test.YtflgcddgocojpaaDoorSlR
namespace Go.Proofs.YtflgcddgocojpaaDoor
open Go.RowKit Go
set_option linter.unusedVariables false
set_option linter.unusedSimpArgs false
set_option maxHeartbeats 1000000

def cntF (f : Nat → Bool) (j : Nat) : Nat := ((List.range j).filter (fun i => !f i)).length
theorem cntF_succ (f : Nat → Bool) (j : Nat) : cntF f (j + 1) = cntF f j + (if f j then 0 else 1) := by
  unfold cntF
  rw [List.range_succ, List.filter_append, List.length_append]
  cases h : f j <;> simp [h]
theorem cntF_le (f : Nat → Bool) (j : Nat) : cntF f j ≤ j := by
  unfold cntF
  exact Nat.le_trans (List.length_filter_le _ _) (by simp)
theorem cntF_congr {f g : Nat → Bool} {j : Nat} (h : ∀ i, i < j → f i = g i) : cntF f j = cntF g j := by
  unfold cntF
  rw [List.filter_congr (fun i hi => by rw [h i (List.mem_range.1 hi)])]
def UsR (w : World) (f : Nat → Bool) (S : Nat) (uv iv : Value) (wr : World) : Prop := ∃ j : Nat, iv = .int .i64 (j : Int) ∧ uv = .int .i64 ((cntF f j : Nat) : Int) ∧ j ≤ S ∧ Below w.heap.size w wr
theorem used_any (k b q c : Nat) (t : List Nat) (w : World) (hS : SZ w) (hk : k < 8) (hs : BS w w.heap.size (some ⟨b, q, none⟩) 256 c t) (hm : mayP (clZ k) (clS k) t = true) :
    Calls Tryd.prog 17 #[.slice (some ⟨b, q, none⟩) 256 c, .int .i64 (k : Int)] w fun e w' => e = .returned (.int .i64 ((cntF (freeB (clZ k) t) (clS k) : Nat) : Int)) ∧ Below w.heap.size w w' := by
  obtain ⟨z1, z2, z3, z4, z5, -⟩ := cl_fits k hk
  have HC := Lib.hid (check_yes k b q c t w hS hk hs)
  have HCU := Lib.hid (fun w1 (h : Below w.heap.size w w1) => cut_any k b q c t w1 (hS.below h) hk ((hs.below h).more h.size))
  have HFR := Lib.hid (fun i (hi : i < clS k) w1 (h : Below w.heap.size w w1) => free_w b (q + i * clZ k) (clZ k) _ _ w1 (bs_win ((hs.below h).more h.size) z3 z1 hi) z1 z2)
  rw [hm] at HC
  unfold CutTo at HCU
  unfold mayE at HC
  clear hs hS hm
  have HFB : Hid (∀ i, zr ((winL t (clZ k) i).take 8) = freeB (clZ k) t i) := Lib.hid (fun i => rfl)
  simp only [HFB.out] at HFR
  generalize freeB (clZ k) t = f at *
  generalize clZ k = z at *
  generalize clS k = S at *
  go_enter Tryd.func17, Tryd.ntmps17
  go_wp2_with fail
  refine HC.out.mono ?_
  rintro e w1 ⟨rfl, hb⟩
  have HB := Lib.hid hb
  have HCU1 := Lib.hid (HCU.out w1 hb)
  clear hb
  go_wp2_with fail
  refine HCU1.out.mono ?_
  rintro e w2 ⟨rfl, hr, hb⟩
  have HR := Lib.hid hr
  have HB2 := Lib.hid (HB.out.trans (hb.mono HB.out.size))
  clear hr hb
  generalize w1.heap.size = g at *
  generalize cutA (some (⟨b, q, none⟩ : Addr)) c (S * z) = Y at *
  generalize 256 - S * z = m1 at *
  generalize c - S * z = m2 at *
  go_wp2_with fail
  go_loopw [5, 22] (fun uv iv wr => UsR w2 f S uv iv wr) (fun _ iv _ => (S - intOf iv).toNat)
  case atStart => exact ⟨0, rfl, rfl, by omega, Below.refl _ _⟩
  case round =>
    obtain ⟨j, rfl, rfl, hj, hb⟩ := hrel
    have HBW := Lib.hid (HB2.out.trans (hb.mono HB2.out.size))
    have HBR := Lib.hid hb
    by_cases hlt : j < S
    · have hc : wr.cell? ⟨g, j, none⟩ = some (.slice (some ⟨b, q + j * z, none⟩) z z) := (hb.cell HR.out.lt).trans (HR.out.cell hlt)
      have HFR1 := Lib.hid (HFR.out j hlt wr HBW.out)
      have hcl := cntF_le f j
      have HSU : Hid (UsR w2 f S (.int .i64 (((cntF f j + (if f j then 0 else 1)) : Nat) : Int)) (.int .i64 ((j : Int) + 1)) wr) := Lib.hid ⟨j + 1, rfl, by rw [cntF_succ], by omega, hb⟩
      clear hb
      generalize cntF f j = n at *
      generalize j * z = m at *
      cases hf : f j
      · rw [hf] at HFR1 HSU
        go_wp2_with fail
        refine HFR1.out.mono ?_
        rintro e w3 ⟨rfl, rfl⟩
        go_wp2_with fail
        go_roundw
        case rel => exact HSU.out
        case measure => simp [intOf]; omega
      · rw [hf] at HFR1 HSU
        go_wp2_with fail
        refine HFR1.out.mono ?_
        rintro e w3 ⟨rfl, rfl⟩
        go_wp2_with fail
        go_roundw
        case rel => exact HSU.out
        case measure => simp [intOf]; omega
    · obtain rfl : j = S := by omega
      clear hb
      go_wp2
      go_ret
      exact ⟨rfl, HBW.out⟩
def zb (n : Nat) : List Nat := List.replicate n 0
theorem zb_page (z : Nat) (S : Nat) (hz : 0 < z) : pageO z (List.replicate S (0, [])) = zb 256 := by
  refine list_pt (by rw [page_len]; exact (List.length_replicate).symm) fun i hi => ?_
  rw [page_len] at hi
  unfold zb
  rw [page_at z hz, if_pos hi, rep_at]
  split
  · have : (List.replicate S ((0, []) : Ob)).getD (i / z) (0, []) = (0, []) := by
      by_cases h : i / z < S
      · simp [List.getD, List.getElem?_replicate, h]
      · simp [List.getD, List.getElem?_replicate, h]
    rw [this]; exact encO_free _ _ _
  · rfl
theorem okL_rep (z S : Nat) : OkL z S (List.replicate S (0, [])) := ⟨by simp, fun k hk => by
  have : (List.replicate S ((0, []) : Ob)).getD k (0, []) = (0, []) := by simp [List.getD, List.getElem?_replicate, hk]
  rw [this]; exact OkO.free z⟩
theorem zero_bs {w : World} (n : Nat) (hn : n ≤ 1000) : BS (w.alloc (.cells (zeros n) 5)) (w.alloc (.cells (zeros n) 5)).heap.size (some ⟨w.heap.size, 0, none⟩) n n (zb n) :=
  BS.of_blk (heap_alloc_new _ _) (by simp) (List.length_replicate) (Nat.le_refl _) (by omega) (fun i => by rw [zb, rep_at]; omega) (fun i hi => by simp [zeros, zb, List.getD, List.getElem?_replicate, hi])
theorem awake18_any (w : World) (hS : SZ w) : Calls Tryd.prog 10 #[] w fun e w' => e = .returned (.bool true) ∧ Below w.heap.size w w' := by
  have HM : Hid (∀ w : World, (Instr.makeSlice 23 (.int .i64 256) (.int .i64 256)).run Tryd.prog w = .ok (.slice (some ⟨w.heap.size, 0, none⟩) 256 256) (w.alloc (.cells (zeros 256) 5))) := Lib.hid (make_bytes 256 (by omega))
  have hbs := zero_bs (w := w) 256 (by omega)
  have hb0 : Below w.heap.size w (w.alloc (.cells (zeros 256) 5)) := (Below.refl _ _).alloc (Nat.le_refl _) _
  have HT : Hid (Calls Tryd.prog 12 #[.slice (some ⟨w.heap.size, 0, none⟩) 256 256, .int .i64 0, .int .u64 1, .int .i64 3] (w.alloc (.cells (zeros 256) 5)) (TakenTo (w.alloc (.cells (zeros 256) 5)) (clZ 0) (clS 0) (zb 256) 1 3)) := Lib.hid (take18_any 0 _ 0 256 1 3 _ _ (by omega) (hS.below hb0) (by omega) hbs)
  have HB0 := Lib.hid hb0
  have e0 : zb 256 = pageO (clZ 0) (List.replicate (clS 0) (0, [])) := (zb_page (clZ 0) (clS 0) (by decide)).symm
  have hm : mayP (clZ 0) (clS 0) (zb 256) = true := by
    rw [e0]; exact mayP_page (by decide) (by decide) (by decide) (okL_rep _ _)
  have hfit : fitB (clZ 0) 1 3 = true := by decide
  have hfr : freeB (clZ 0) (zb 256) 0 = true := by
    unfold freeB
    rw [zr_iff]; intro i; rw [take_at]; split
    · rw [winL_at]; split
      · exact rep_at _ _
      · rfl
    · rfl
  have HR : Hid (∀ e w', TakenTo (w.alloc (.cells (zeros 256) 5)) (clZ 0) (clS 0) (zb 256) 1 3 e w' → ∃ h cc, e = .returned (.tuple #[.slice (some ⟨h, 0, none⟩) 256 cc, .int .i64 0, .int .i64 0]) ∧ PgO w' (w.alloc (.cells (zeros 256) 5)).heap.size h cc (hdL (zb 256) 0 3 1) ∧ Below (w.alloc (.cells (zeros 256) 5)).heap.size (w.alloc (.cells (zeros 256) 5)) w') := Lib.hid (fun e w' h => by
    rcases h with ⟨h, _⟩ | ⟨_, h, _⟩ | ⟨_, _, h, _⟩ | ⟨_, _, k, hk, hf, hno, h, cc, rfl, hp, hb⟩
    · rw [hm] at h; cases h
    · rw [hfit] at h; cases h
    · rw [h 0 (by decide)] at hfr; cases hfr
    · obtain rfl : k = 0 := by
        rcases Nat.eq_zero_or_pos k with e | e
        · exact e
        · rw [hno 0 e] at hfr; cases hfr
      exact ⟨h, cc, rfl, by rw [Nat.zero_mul] at hp; exact hp, hb⟩)
  have HST : Hid (str ((hdL (zb 256) 0 3 1).take 9) = ⟨#[3, 0, 1, 0, 0, 0, 0, 0, 0]⟩) := Lib.hid (by kernel_rfl)
  clear hbs hb0 e0 hm hfit hfr hS
  go_enter Tryd.func10, Tryd.ntmps10
  have hM := HM.out
  go_wp2_with fail
  refine HT.out.mono ?_
  intro e w1 hw1
  obtain ⟨h, cc, rfl, hp, hb⟩ := HR.out e w1 hw1
  have hc := conv_at (hp.bs.take (k := 9) (by omega))
  rw [HST.out] at hc
  have HB := Lib.hid (HB0.out.trans (hb.mono HB0.out.size))
  have hc1 := hp.c1
  have hc2 := hp.c2
  have hc9 : 9 ≤ cc := by omega
  clear hw1 hp hb hM
  go_wp2
  go_ret
  exact ⟨rfl, HB.out⟩
end Go.Proofs.YtflgcddgocojpaaDoor
