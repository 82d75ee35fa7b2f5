/-
  Heads of roots: HandleRoots' walk; a head that came in as an argument.
-/
import Derived.Test.YtfnppoagmambgaaHoG
import Derived.WalkKit
import Derived.ProofKit
import Derived.OpenShut
import Derived.Deep.Slices
import Derived.Deep.Fields
import Derived.ChangeSame
namespace Go.Proofs.Ytfnppoagmambgaa
open Go.RowKit Go Go.WideShapes Go.ChangeShapes Go.Deep
set_option linter.unusedVariables false
set_option linter.unusedSimpArgs false
set_option maxRecDepth 100000
theorem blkL_at (m : List Nat) (i : Nat) : (blkL 8 m).getD i 0 = m.getD (i / 8) 0 / 256 ^ (i % 8) % 256 := by
  induction m generalizing i with
  | nil => simp [blkL]
  | cons a m ih =>
    unfold blkL at *
    rw [List.flatMap_cons, List.getD_eq_getElem?_getD]
    have hl : (putL 8 a).length = 8 := putL_len 8 a
    by_cases h : i < 8
    · rw [List.getElem?_append_left (by omega), ← List.getD_eq_getElem?_getD, putL_at, if_pos h, Nat.div_eq_of_lt h, Nat.mod_eq_of_lt h]
      rfl
    · rw [List.getElem?_append_right (by omega), ← List.getD_eq_getElem?_getD, hl, ih, show i / 8 = (i - 8) / 8 + 1 by omega, show i % 8 = (i - 8) % 8 by omega]
      simp
theorem list_ext {l m : List Nat} (hl : l.length = m.length) (h : ∀ i, i < l.length → l.getD i 0 = m.getD i 0) : l = m := by
  apply List.ext_getElem hl
  intro i h1 h2
  have := h i h1
  simpa [List.getD, List.getElem?_eq_getElem h1, List.getElem?_eq_getElem h2] using this

theorem numAt_head {l : List Nat} (hl : l.length = 17) (h64 : ∀ i, l.getD i 0 < 2 ^ 64) {k : Nat} (hk : k < 17) : numAt (headL l) 8 k = l.getD k 0 := by
  have e : ((headL l).drop (8 * k)).take 8 = putL 8 (l.getD k 0) := by
    apply list_ext
    · rw [List.length_take, List.length_drop, headL_len, putL_len]; omega
    · intro i hi
      rw [List.length_take, List.length_drop, headL_len] at hi
      have hi8 : i < 8 := by omega
      have e1 : (((headL l).drop (8 * k)).take 8).getD i 0 = (headL l).getD (8 * k + i) 0 := by
        simp [List.getD, List.getElem?_take_of_lt hi8, List.getElem?_drop]
      rw [e1, headL, padL_at, if_pos (by omega), blkL_at, putL_at, if_pos hi8, show (8 * k + i) / 8 = k by omega, show (8 * k + i) % 8 = i by omega]
  unfold numAt
  rw [e, num_putL]
  have := h64 k
  exact Nat.mod_eq_of_lt (by have : (256 : Nat) ^ 8 = 2 ^ 64 := by decide
                             omega)
theorem rdL_head {l : List Nat} (hl : l.length = 17) (h64 : ∀ i, l.getD i 0 < 2 ^ 64) : rdL (headL l) = l := by
  apply list_ext
  · rw [rdL_len, hl]
  · intro i hi
    rw [rdL_len] at hi
    rw [rdL_at _ hi, rval_ok (headL_len l) (by omega), numAt_head hl h64 hi]
theorem zl17_not : ¬ RMay zl17 := fun h => by have := h.1; rw [zl17_at] at this; omega
theorem parse_zero : ParseIs (headL zl17) one17 0 := .inr (.inl ⟨⟨headL_len _, .inl (rdL_head (by simp [zl17]) (fun i => by rw [zl17_at]; decide)), by rw [rdL_head (by simp [zl17]) (fun i => by rw [zl17_at]; decide)]⟩, rdL_head (by simp [zl17]) (fun i => by rw [zl17_at]; decide), rfl, rfl⟩)
theorem parse_head {l : List Nat} (hl : l.length = 17) (h64 : ∀ i, l.getD i 0 < 2 ^ 64) (hm : RMay l) : ParseIs (headL l) l 0 := by
  have e := rdL_head hl h64
  have hz : ¬ l = zl17 := fun h => zl17_not (h ▸ hm)
  refine .inr (.inr ⟨⟨headL_len _, .inr (by rw [e]; exact hm), by rw [e]⟩, by rw [e]; exact hz, e.symm, rfl⟩)
section
variable {H : Type} {enc : TypeId × Value → H} {w : World}
theorem cells_rt20 : Try.prog.cellsOf 38 = 16 := by kernel_rfl
theorem cells_u20 : Try.prog.cellsOf 22 = 1 := by kernel_rfl
theorem cells_st20 : Try.prog.cellsOf 40 = 17 := by kernel_rfl
theorem roots_cells {m : Nat} {cs : List Value} {x : DataW H × List MemPlace} (h : DataW.trod enc Try.prog w 0 (fun _ => true) true m 40 cs = some x) : ∃ l : List Nat, l.length = 17 ∧ (∀ i, l.getD i 0 < 2 ^ 64) ∧ cs = (rtV l).toList := by
  obtain ⟨y0, y1, k, _, hl, h0, h1⟩ := trod_struct2 Try.underlying40 h
  rw [cells_st20] at hl
  simp only [cells_u20, cells_rt20] at h0 h1
  obtain ⟨z, hz, _, hw⟩ := DataW.trod_int Try.underlying22 h0
  obtain ⟨c, hc, rfl⟩ := nat_u64 hw
  obtain ⟨xs, k2, _, _, hl2, hxl, hel⟩ := DataW.trod_array Try.underlying38 h1
  have hcell : ∀ i, i < 16 → ∃ q : Nat, q < 2 ^ 64 ∧ cs[1 + i]? = some (.int .u64 (q : Int)) := fun i hi => by
    have h2 := hel i hi
    rw [cells_u20, Nat.mul_one] at h2
    obtain ⟨y, hy⟩ : ∃ y, xs[i]? = some y := ⟨_, List.getElem?_eq_getElem (by omega)⟩
    rw [hy] at h2
    obtain ⟨z2, hz2, _, hw2⟩ := DataW.trod_int Try.underlying22 h2
    obtain ⟨q, hq, rfl⟩ := nat_u64 hw2
    refine ⟨q, hq, ?_⟩
    have h3 := congrArg (fun l => l[0]?) hz2
    simp only [List.getElem?_cons_zero] at h3
    rw [← h3, List.getElem?_take_of_lt (by omega), List.getElem?_drop, List.getElem?_take_of_lt (by omega), List.getElem?_drop]
    rfl
  have hq : ∀ i, ∃ q : Nat, q < 2 ^ 64 ∧ (i < 16 → cs[1 + i]? = some (.int .u64 (q : Int))) := fun i => by
    by_cases hi : i < 16
    · obtain ⟨q, h1, h2⟩ := hcell i hi; exact ⟨q, h1, fun _ => h2⟩
    · exact ⟨0, by decide, fun h => absurd h hi⟩
  obtain ⟨f, hf⟩ := Classical.skolem.1 hq
  have hat : ∀ i, (c :: (List.range 16).map f).getD i 0 = if i = 0 then c else if i < 17 then f (i - 1) else 0 := fun i => by
    cases i with
    | zero => rfl
    | succ i =>
      rw [List.getD_cons_succ, List.getD_eq_getElem?_getD, List.getElem?_map, if_neg (by omega)]
      by_cases h : i < 16
      · rw [List.getElem?_range h, if_pos (by omega)]; rfl
      · rw [List.getElem?_eq_none (by simp; omega), if_neg (by omega)]; rfl
  refine ⟨c :: (List.range 16).map f, by simp, fun i => ?_, List.ext_getElem? fun j => ?_⟩
  · rw [hat]
    split
    · exact hc
    · split
      · exact (hf _).1
      · decide
  · by_cases hj : j < 17
    · have er : (rtV (c :: (List.range 16).map f)).toList[j]? = some (uF (c :: (List.range 16).map f) j) := by rw [Array.getElem?_toList]; exact rowV_at _ hj
      rw [er]
      unfold uF
      rw [hat]
      cases j with
      | zero =>
        have h3 := congrArg (fun l => l[0]?) hz
        simp only [List.getElem?_cons_zero] at h3
        rw [List.getElem?_take_of_lt (by omega), List.getElem?_drop] at h3
        simpa using h3
      | succ j =>
        have h9 := (hf j).2 (by omega)
        rw [Nat.add_comm] at h9
        rw [if_neg (by omega), if_pos hj, Nat.add_sub_cancel]
        exact h9
    · rw [List.getElem?_eq_none (by omega), List.getElem?_eq_none (by rw [Array.length_toList, rowV_size]; omega)]
theorem roots_open {v : Array Value} {d : DataW H} {p : List MemPlace} (h : DataW.Trod enc Try.prog w 0 (fun _ => true) true 40 (.agg v) d p) : ∃ l : List Nat, l.length = 17 ∧ (∀ i, l.getD i 0 < 2 ^ 64) ∧ v = rtV l := by
  obtain ⟨fuel, hfu⟩ := h
  obtain ⟨l, h1, h2, hv⟩ := roots_cells hfu
  exact ⟨l, h1, h2, Array.toList_inj.mp (by simpa [Value.cells] using hv)⟩
end
set_option maxHeartbeats 2000000 in
theorem handleRoots_no (l : List Nat) (hl : l.length = 17) (h64 : ∀ i, l.getD i 0 < 2 ^ 64) (hzl : ¬ l = zl17) (hm : ¬ RMay l) (w : World) :
    Calls Try.prog 5 #[.agg (rtV l)] w fun e w' => e = .returned (.bool true) ∧ Below w.heap.size w w' := by
  have HW0 := Lib.hid (heap_alloc_new w (.cells (rtV l) 40))
  have HB0 : Hid (Below w.heap.size w (w.alloc (.cells (rtV l) 40))) := Lib.hid ((Below.refl _ _).alloc (Nat.le_refl _) _)
  have HLT : Hid (w.heap.size < (w.alloc (.cells (rtV l) 40)).heap.size) := Lib.hid (by simp)
  have HIR := Lib.hid (info_rtr l)
  have HOU := Lib.hid (fun W => ours_any l W)
  have HRI := Lib.hid (fun W => rright_any l h64 W)
  have hz := zero_rtr
  have hzh := zero_rth
  have hq := eq_r l zl17 hl (by simp [zl17])
  have HBY := Lib.hid (fun W => hhead_no l hl h64 hzl hm W)
  rw [decide_eq_false hzl] at hq
  rw [decide_eq_false hm] at HRI
  obtain ⟨rt, hrt⟩ : ∃ z, z = rtV l := ⟨_, rfl⟩
  obtain ⟨zz, hzz⟩ : ∃ z, z = rtV zl17 := ⟨_, rfl⟩
  have hzs : zz.size = 17 := by rw [hzz, rowV_size]
  have hzne : ¬ zz = #[] := fun h => by rw [h] at hzs; simp at hzs
  rw [← hzz] at hz hzh hq
  rw [← hrt] at hq HW0 HB0 HLT HIR HOU HRI HBY ⊢
  clear hl h64 hzl hm hrt hzz
  go_enter Try.func5, Try.ntmps5
  go_wp2_with (with_reducible refine wpList_load_row rfl 40 (.tmp 1) rfl _ rfl 40 _ _ _ HW0.out Try.underlying40 rfl HIR.out ?_)
  refine (HOU.out _).mono ?_
  rintro e w1 ⟨rfl, hb1⟩
  have HX1 : Hid (w1.heap[w.heap.size]? = some (.cells rt 40 (0, 0))) := Lib.hid ((hb1.block _ HLT.out).trans HW0.out)
  have HB1 := Lib.hid (HB0.out.trans (hb1.mono HB0.out.size))
  have HL1 := Lib.hid (Nat.lt_of_lt_of_le HLT.out hb1.size)
  clear hb1
  go_wp2_with fail
  refine (HBY.out _).mono ?_
  rintro e w2 ⟨rfl, hb2⟩
  have HX2 : Hid (w2.heap[w.heap.size]? = some (.cells rt 40 (0, 0))) := Lib.hid ((hb2.block _ HL1.out).trans HX1.out)
  have HB2 := Lib.hid (HB1.out.trans (hb2.mono HB1.out.size))
  clear hb2
  go_wp2_with (with_reducible refine wpList_load_row rfl 40 (.tmp 1) rfl _ rfl 40 _ _ _ HX2.out Try.underlying40 rfl HIR.out ?_)
  refine (HRI.out _).mono ?_
  rintro e w3 ⟨rfl, hb3⟩
  have HB3 := Lib.hid (HB2.out.trans (hb3.mono HB2.out.size))
  clear hb3
  go_wp2_with fail
  refine (awakeH_any _).mono ?_
  rintro e w5 ⟨rfl, hb⟩
  have HB5 := Lib.hid (HB3.out.trans (hb.mono HB3.out.size))
  clear hb
  go_wp2
  go_ret
  exact ⟨rfl, HB5.out⟩
set_option maxHeartbeats 4000000 in
theorem handleRoots_zero (l : List Nat) (hl : l.length = 17) (h64 : ∀ i, l.getD i 0 < 2 ^ 64) (hzl : l = zl17) (w : World) :
    Calls Try.prog 5 #[.agg (rtV l)] w fun e w' => e = .returned (.bool true) ∧ Below w.heap.size w w' := by
  have HW0 := Lib.hid (heap_alloc_new w (.cells (rtV l) 40))
  have HB0 : Hid (Below w.heap.size w (w.alloc (.cells (rtV l) 40))) := Lib.hid ((Below.refl _ _).alloc (Nat.le_refl _) _)
  have HLT : Hid (w.heap.size < (w.alloc (.cells (rtV l) 40)).heap.size) := Lib.hid (by simp)
  have HIR := Lib.hid (info_rtr l)
  have HOU := Lib.hid (fun W => ours_any l W)
  have HRI := Lib.hid (fun W => rright_any l h64 W)
  have hz := zero_rtr
  have hzh := zero_rth
  have hq := eq_r l zl17 hl (by simp [zl17])
  have HBY := Lib.hid (fun W => hhead_yes l hl h64 (.inl hzl) W)
  have HPA := Lib.hid (fun A c W (h : BS W W.heap.size A 256 c (headL l)) => hparse_any A 256 c (headL l) one17 0 W h (by omega) (by rw [hzl]; exact parse_zero))
  have HPL := Lib.hid (fun W => plain_any one17 W)
  have HAW := Lib.hid (fun W => awakeH_any W)
  have HIP := Lib.hid (info_rth one17)
  have HONP := Lib.hid (rt_one one17)
  have HSP : Hid ((rtV zl17).size = (rtV one17).size) := Lib.hid (by rw [rowV_size, rowV_size])
  have HRB := Lib.hid (fun W => rhead_any l hl h64 W)
  obtain ⟨sA, hsA⟩ : ∃ z, z = str (headL l) := ⟨_, rfl⟩
  have HSA : Hid (str (headL l) = sA) := Lib.hid hsA.symm
  have HLH := Lib.hid (headL_len l)
  have HDR : Hid (l = zl17) := Lib.hid (by exact hzl)
  obtain ⟨rt, hrt⟩ : ∃ z, z = rtV l := ⟨_, rfl⟩
  obtain ⟨zz, hzz⟩ : ∃ z, z = rtV zl17 := ⟨_, rfl⟩
  have hzs : zz.size = 17 := by rw [hzz, rowV_size]
  have hzne : ¬ zz = #[] := fun h => by rw [h] at hzs; simp at hzs
  rw [← hzz] at hz hzh hq HSP
  rw [← hrt] at hq HW0 HB0 HLT HIR HOU HRI HBY HRB ⊢
  obtain ⟨pv, hpv⟩ : ∃ z, z = rtV one17 := ⟨_, rfl⟩
  rw [← hpv] at HPL HIP HONP HSP
  have HPV := Lib.hid hpv
  have HZZ := Lib.hid hzz
  rw [decide_eq_true hzl] at hq
  clear hl h64 hrt hzz hzl hsA hpv
  go_enter Try.func5, Try.ntmps5
  go_wp2_with (with_reducible refine wpList_load_row rfl 40 (.tmp 1) rfl _ rfl 40 _ _ _ HW0.out Try.underlying40 rfl HIR.out ?_)
  refine (HOU.out _).mono ?_
  rintro e w1 ⟨rfl, hb1⟩
  have HX1 : Hid (w1.heap[w.heap.size]? = some (.cells rt 40 (0, 0))) := Lib.hid ((hb1.block _ HLT.out).trans HW0.out)
  have HB1 := Lib.hid (HB0.out.trans (hb1.mono HB0.out.size))
  have HL1 := Lib.hid (Nat.lt_of_lt_of_le HLT.out hb1.size)
  clear hb1
  go_wp2_with fail
  refine (HBY.out _).mono ?_
  rintro e w2 ⟨A2, c2, rfl, hb2, hbs2⟩
  have HX2 : Hid (w2.heap[w.heap.size]? = some (.cells rt 40 (0, 0))) := Lib.hid ((hb2.block _ HL1.out).trans HX1.out)
  have HB2 := Lib.hid (HB1.out.trans (hb2.mono HB1.out.size))
  have HL2 := Lib.hid (Nat.lt_of_lt_of_le HL1.out hb2.size)
  have HS2 := Lib.hid hbs2
  clear hb2 hbs2
  go_wp2_with (with_reducible refine wpList_load_row rfl 40 (.tmp 1) rfl _ rfl 40 _ _ _ HX2.out Try.underlying40 rfl HIR.out ?_)
  have HX3 := HX2
  have HB3 := HB2
  have HL3 := HL2
  have HS3 := HS2
  generalize w2 = w3 at *
  refine (HPA.out A2 c2 _ HS3.out).mono ?_
  rintro e w4 ⟨rfl, hb4⟩
  have HX4 : Hid (w4.heap[w.heap.size]? = some (.cells rt 40 (0, 0))) := Lib.hid ((hb4.block _ HL3.out).trans HX3.out)
  have HB4 := Lib.hid (HB3.out.trans (hb4.mono HB3.out.size))
  have HL4 := Lib.hid (Nat.lt_of_lt_of_le HL3.out hb4.size)
  have HS4 := Lib.hid ((HS3.out.below hb4).more hb4.size)
  rw [← HPV.out]
  clear hb4
  have h3 := heap_alloc_new w4 (.cells zz 45)
  obtain ⟨V3, hV3⟩ : ∃ V3, V3 = (w4.alloc (.cells zz 45)).setRow w4.heap.size pv := ⟨_, rfl⟩
  have hbV : Below w4.heap.size w4 V3 := by rw [hV3]; exact below_setRow ((Below.refl _ _).alloc (Nat.le_refl _) _) (Nat.le_refl _) _
  have HXP : Hid (V3.heap[w4.heap.size]? = some (.cells pv 45 (0, 0))) := Lib.hid (by rw [hV3]; exact setRow_heap _ _ _ pv _ _ h3)
  have HX5 : Hid (V3.heap[w.heap.size]? = some (.cells rt 40 (0, 0))) := Lib.hid ((hbV.block _ HL4.out).trans HX4.out)
  have HB5 := Lib.hid (HB4.out.trans (hbV.mono HB4.out.size))
  have HS5 := Lib.hid ((HS4.out.below hbV).more hbV.size)
  have H3 := Lib.hid h3
  have HVE := Lib.hid hV3
  clear h3 hV3 hbV
  go_wp2_with (with_reducible refine wpList_store_row rfl 45 (.tmp 5) (.tmp 21) rfl _ _ rfl rfl 45 _ H3.out HIP.out HSP.out HONP.out ?_)
  rw [← HVE.out]
  generalize w4.heap.size = s at *
  have HK : Hid (∀ W, Below V3.heap.size V3 W → (fun w' => w'.heap[s]? = some (.cells pv 45 (0, 0)) ∧ w'.heap[w.heap.size]? = some (.cells rt 40 (0, 0)) ∧ (convert 41 9 (.slice A2 256 c2)).run Try.prog w' = .ok (.string sA) w' ∧ Below w.heap.size w w' ∧ Below V3.heap.size V3 w') W) := Lib.hid (fun W hW => ⟨(hW.block s (Array.getElem?_eq_some_iff.1 HXP.out).1).trans HXP.out, (hW.block _ (Array.getElem?_eq_some_iff.1 HX5.out).1).trans HX5.out, by have h := conv_at (HS5.out.below hW); rw [HSA.out] at h; exact h, HB5.out.trans (hW.mono HB5.out.size), hW⟩)
  clear HVE H3
  have hcvz : (convert 41 9 (.slice (some ⟨V3.heap.size, 0, none⟩) 256 256)).run Try.prog (V3.alloc (.cells (zeros 256) 5)).drew = .ok (.string sA) (V3.alloc (.cells (zeros 256) 5)).drew := by
    have h1 : BS (V3.alloc (.cells (zeros 256) 5)) (V3.alloc (.cells (zeros 256) 5)).heap.size (some ⟨V3.heap.size, 0, none⟩) 256 256 (List.replicate 256 0) :=
      BS.of_blk (heap_alloc_new V3 _) (by simp) (by simp) (Nat.le_refl _) (by omega) (fun i => by rw [List.getD_eq_getElem?_getD, List.getElem?_replicate]; split <;> decide) (fun i hi => by rw [zeros_at hi, List.getD_eq_getElem?_getD, List.getElem?_replicate, if_pos hi]; rfl)
    rw [conv_at h1.dr, str_head, ← HSA.out, HDR.out]
  have hmk := make_bytes 256 (by omega)
  rw [show ((256 : Nat) : Int) = 256 from rfl] at hmk
  have hqo : ∀ W, (Op.equalIn 10000 40 (.agg pv) (.agg (zz.setIfInBounds 0 (.int .u64 1)))).run Try.prog W = .ok true W := fun W => by
    rw [HPV.out, HZZ.out, one17_set, eq_r one17 one17 (by simp [one17, zl17]) (by simp [one17, zl17]) W]; simp
  refine wp_region_F (S := (fun w' => w'.heap[s]? = some (.cells pv 45 (0, 0)) ∧ w'.heap[w.heap.size]? = some (.cells rt 40 (0, 0)) ∧ (convert 41 9 (.slice A2 256 c2)).run Try.prog w' = .ok (.string sA) w' ∧ Below w.heap.size w w' ∧ Below V3.heap.size V3 w')) [] (by kernel_rfl) (HK.out _ ((Below.refl _ _).drew)) (fun hHeld => ?_)
  refine wpAnyF_take (i := 0) (oi := _) (v := ?_) rfl (by kernel_rfl) (by kernel_rfl) (by kernel_rfl) (by kernel_rfl) (fun _ _ _ h => h) (Or.inl ⟨by rfl, ?_⟩) (by assumption) ?_
  rotate_left 1
  · intro w hSw
    (try dsimp only at hSw)
    (first | (go_simp; done) | (go_simp; with_reducible rfl))
  (try simp only [Act.put, List.getElem_toArray, List.getElem_cons_succ, List.getElem_cons_zero, List.setIfInBounds_toArray, List.set_cons_zero, List.set_cons_succ])
  refine wpAnyF_take (i := 1) (oi := _) (v := ?_) rfl (by kernel_rfl) (by kernel_rfl) (by kernel_rfl) (by kernel_rfl) (fun _ _ _ h => h) (Or.inl ⟨by rfl, ?_⟩) (by assumption) ?_
  rotate_left 1
  · intro w hSw
    (try dsimp only at hSw)
    (first | (go_simp; done) | (go_simp; with_reducible rfl))
  (try simp only [Act.put, List.getElem_toArray, List.getElem_cons_succ, List.getElem_cons_zero, List.setIfInBounds_toArray, List.set_cons_zero, List.set_cons_succ])
  refine wpAnyF_take (i := 2) (oi := _) (v := ?_) rfl (by kernel_rfl) (by kernel_rfl) (by kernel_rfl) (by kernel_rfl) (fun _ _ _ h => h) (Or.inl ⟨by rfl, ?_⟩) (by assumption) ?_
  rotate_left 1
  · intro w hSw
    (try dsimp only at hSw)
    (first | (go_simp; done) | (go_simp; with_reducible rfl))
  (try simp only [Act.put, List.getElem_toArray, List.getElem_cons_succ, List.getElem_cons_zero, List.setIfInBounds_toArray, List.set_cons_zero, List.set_cons_succ])
  refine wpAnyF_take (i := 3) (oi := _) (v := ?_) rfl (by kernel_rfl) (by kernel_rfl) (by kernel_rfl) (by kernel_rfl) (fun _ _ _ h => h) (Or.inl ⟨by rfl, ?_⟩) (by assumption) ?_
  rotate_left 1
  · intro w hSw
    (try dsimp only at hSw)
    (first | (go_simp; done) | (go_simp; with_reducible rfl))
  (try simp only [Act.put, List.getElem_toArray, List.getElem_cons_succ, List.getElem_cons_zero, List.setIfInBounds_toArray, List.set_cons_zero, List.set_cons_succ])
  refine wpAnyF_take (i := 4) (oi := _) (v := ?_) rfl (by kernel_rfl) (by kernel_rfl) (by kernel_rfl) (by kernel_rfl) (fun _ _ _ h => h) (Or.inl ⟨by rfl, ?_⟩) (by assumption) ?_
  rotate_left 1
  · intro w hSw
    (try dsimp only at hSw)
    (first | (go_simp; done) | (go_simp; with_reducible rfl))
  (try simp only [Act.put, List.getElem_toArray, List.getElem_cons_succ, List.getElem_cons_zero, List.setIfInBounds_toArray, List.set_cons_zero, List.set_cons_succ])
  refine wpAnyF_ready (rs := [5]) (by kernel_rfl) (by simp) ?_
  refine AllReadyF.cons (o := _) rfl (fun K hK => ?_) AllReadyF.nil
  go_simp
  refine hK.out _ _ (HK.out _ ((hHeld.2.2.2.2).alloc hHeld.2.2.2.2.size _)) (fun hHeld5 => ?_)
  clear hK K
  (try simp only [Act.put, List.getElem_toArray, List.getElem_cons_succ, List.getElem_cons_zero, List.setIfInBounds_toArray, List.set_cons_zero, List.set_cons_succ])
  refine wpAnyF_ready (rs := [6]) (by kernel_rfl) (by simp) ?_
  refine AllReadyF.cons (o := _) rfl (fun K hK => ?_) AllReadyF.nil
  go_simp
  refine hK.out _ _ (by assumption) (fun hHeld6 => ?_)
  clear hK K
  (try simp only [Act.put, List.getElem_toArray, List.getElem_cons_succ, List.getElem_cons_zero, List.setIfInBounds_toArray, List.set_cons_zero, List.set_cons_succ])
  refine wpAnyF_take (i := 7) (oi := _) (v := ?_) rfl (by kernel_rfl) (by kernel_rfl) (by kernel_rfl) (by kernel_rfl) (fun _ _ _ h => h) (Or.inl ⟨by rfl, ?_⟩) (by assumption) ?_
  rotate_left 1
  · intro w hSw
    (try dsimp only at hSw)
    (first | (go_simp; done) | (go_simp; with_reducible rfl))
  (try simp only [Act.put, List.getElem_toArray, List.getElem_cons_succ, List.getElem_cons_zero, List.setIfInBounds_toArray, List.set_cons_zero, List.set_cons_succ])
  refine wpAnyF_take (i := 8) (oi := _) (v := ?_) rfl (by kernel_rfl) (by kernel_rfl) (by kernel_rfl) (by kernel_rfl) (fun _ _ _ h => h) (Or.inl ⟨by rfl, ?_⟩) (by assumption) ?_
  rotate_left 1
  · intro w hSw
    (try dsimp only at hSw)
    (first | (go_simp; done) | (go_simp; with_reducible rfl))
  (try simp only [Act.put, List.getElem_toArray, List.getElem_cons_succ, List.getElem_cons_zero, List.setIfInBounds_toArray, List.set_cons_zero, List.set_cons_succ])
  refine wpAnyF_take (i := 9) (oi := _) (v := ?_) rfl (by kernel_rfl) (by kernel_rfl) (by kernel_rfl) (by kernel_rfl) (fun _ _ _ h => h) (Or.inl ⟨by rfl, ?_⟩) (by assumption) ?_
  rotate_left 1
  · intro w hSw
    (try dsimp only at hSw)
    (first | (go_simp; done) | (go_simp; with_reducible rfl))
  (try simp only [Act.put, List.getElem_toArray, List.getElem_cons_succ, List.getElem_cons_zero, List.setIfInBounds_toArray, List.set_cons_zero, List.set_cons_succ])
  refine wpAnyF_take (i := 10) (oi := _) (v := ?_) rfl (by kernel_rfl) (by kernel_rfl) (by kernel_rfl) (by kernel_rfl) (fun _ _ _ h => h) (Or.inl ⟨by rfl, ?_⟩) (by assumption) ?_
  rotate_left 1
  · intro w hSw
    (try dsimp only at hSw)
    (first | (go_simp; done) | (go_simp; with_reducible rfl))
  (try simp only [Act.put, List.getElem_toArray, List.getElem_cons_succ, List.getElem_cons_zero, List.setIfInBounds_toArray, List.set_cons_zero, List.set_cons_succ])
  refine wpAnyF_take (i := 11) (oi := _) (v := ?_) rfl (by kernel_rfl) (by kernel_rfl) (by kernel_rfl) (by kernel_rfl) (fun _ _ _ h => h) (Or.inl ⟨by rfl, ?_⟩) (by assumption) ?_
  rotate_left 1
  · intro w hSw
    (try dsimp only at hSw)
    (first | (go_simp; done) | (go_simp; with_reducible rfl))
  (try simp only [Act.put, List.getElem_toArray, List.getElem_cons_succ, List.getElem_cons_zero, List.setIfInBounds_toArray, List.set_cons_zero, List.set_cons_succ])
  refine wpAnyF_take (i := 12) (oi := _) (v := ?_) rfl (by kernel_rfl) (by kernel_rfl) (by kernel_rfl) (by kernel_rfl) (fun _ _ _ h => h) (Or.inl ⟨by rfl, ?_⟩) (by assumption) ?_
  rotate_left 1
  · intro w hSw
    (try dsimp only at hSw)
    (first | (go_simp; done) | (go_simp; with_reducible rfl))
  (try simp only [Act.put, List.getElem_toArray, List.getElem_cons_succ, List.getElem_cons_zero, List.setIfInBounds_toArray, List.set_cons_zero, List.set_cons_succ])
  refine wpAnyF_take (i := 13) (oi := _) (v := ?_) rfl (by kernel_rfl) (by kernel_rfl) (by kernel_rfl) (by kernel_rfl) (fun _ _ _ h => h) (Or.inl ⟨by rfl, ?_⟩) (by assumption) ?_
  rotate_left 1
  · intro w hSw
    (try dsimp only at hSw)
    (first | (go_simp; done) | (go_simp; with_reducible rfl))
  (try simp only [Act.put, List.getElem_toArray, List.getElem_cons_succ, List.getElem_cons_zero, List.setIfInBounds_toArray, List.set_cons_zero, List.set_cons_succ])
  refine wpAnyF_take (i := 14) (oi := _) (v := _) rfl (by kernel_rfl) (by kernel_rfl) (by kernel_rfl) (by kernel_rfl) (fun _ _ _ h => h) (yields_row17 (by rfl) 45 (.tmp 5) rfl s 0 rfl pv _ (fun W h => range_row h.1) Try.underlying45 rfl HIP.out) (by assumption) ?_
  (try simp only [Act.put, List.getElem_toArray, List.getElem_cons_succ, List.getElem_cons_zero, List.setIfInBounds_toArray, List.set_cons_zero, List.set_cons_succ])
  refine wpAnyF_take (i := 16) (oi := _) (v := ?_) rfl (by kernel_rfl) (by kernel_rfl) (by kernel_rfl) (by kernel_rfl) (fun _ _ _ h => h) (Or.inl ⟨by rfl, ?_⟩) (by assumption) ?_
  rotate_left 1
  · intro w hSw
    (try dsimp only at hSw)
    (first | (go_simp; done) | (go_simp; with_reducible rfl))
  (try simp only [Act.put, List.getElem_toArray, List.getElem_cons_succ, List.getElem_cons_zero, List.setIfInBounds_toArray, List.set_cons_zero, List.set_cons_succ])
  refine wpAnyF_ready (rs := [15]) (by kernel_rfl) (by simp) ?_
  refine AllReadyF.cons (o := _) rfl (fun K hK => ?_) AllReadyF.nil
  go_simp
  (go_at_call 17)
  refine (HPL.out _).mono ?_
  rintro e wn15 ⟨rfl, hbn15⟩
  refine hK.out _ _ (HK.out _ (hHeld6.2.2.2.2.trans (hbn15.mono hHeld6.2.2.2.2.size))) (fun hHeld15 => ?_)
  clear hK K
  (try simp only [Act.put, List.getElem_toArray, List.getElem_cons_succ, List.getElem_cons_zero, List.setIfInBounds_toArray, List.set_cons_zero, List.set_cons_succ])
  refine wpAnyF_take (i := 17) (oi := _) (v := ?_) rfl (by kernel_rfl) (by kernel_rfl) (by kernel_rfl) (by kernel_rfl) (fun _ _ _ h => h) (Or.inl ⟨by rfl, ?_⟩) (by assumption) ?_
  rotate_left 1
  · intro w hSw
    (try dsimp only at hSw)
    (first | (go_simp; done) | (go_simp; with_reducible rfl))
  (try simp only [Act.put, List.getElem_toArray, List.getElem_cons_succ, List.getElem_cons_zero, List.setIfInBounds_toArray, List.set_cons_zero, List.set_cons_succ])
  refine wpAnyF_take (i := 18) (oi := _) (v := ?_) rfl (by kernel_rfl) (by kernel_rfl) (by kernel_rfl) (by kernel_rfl) (fun _ _ _ h => h) (Or.inl ⟨by rfl, ?_⟩) (by assumption) ?_
  rotate_left 1
  · intro w hSw
    (try dsimp only at hSw)
    (first | (go_simp; done) | (go_simp; with_reducible rfl))
  (try simp only [Act.put, List.getElem_toArray, List.getElem_cons_succ, List.getElem_cons_zero, List.setIfInBounds_toArray, List.set_cons_zero, List.set_cons_succ])
  refine wpAnyF_take (i := 19) (oi := _) (v := ?_) rfl (by kernel_rfl) (by kernel_rfl) (by kernel_rfl) (by kernel_rfl) (fun _ _ _ h => h) (Or.inl ⟨by rfl, ?_⟩) (by assumption) ?_
  rotate_left 1
  · intro w hSw
    (try dsimp only at hSw)
    (first | (go_simp; done) | (go_simp; with_reducible rfl))
  (try simp only [Act.put, List.getElem_toArray, List.getElem_cons_succ, List.getElem_cons_zero, List.setIfInBounds_toArray, List.set_cons_zero, List.set_cons_succ])
  refine wpAnyF_ready (rs := [20]) (by kernel_rfl) (by simp) ?_
  refine AllReadyF.cons (o := _) rfl (fun K hK => ?_) AllReadyF.nil
  go_simp
  (go_at_call 10)
  refine (HAW.out _).mono ?_
  rintro e wn20 ⟨rfl, hbn20⟩
  refine hK.out _ _ (HK.out _ (hHeld15.2.2.2.2.trans (hbn20.mono hHeld15.2.2.2.2.size))) (fun hHeld20 => ?_)
  clear hK K
  (try simp only [Act.put, List.getElem_toArray, List.getElem_cons_succ, List.getElem_cons_zero, List.setIfInBounds_toArray, List.set_cons_zero, List.set_cons_succ])
  refine wpAnyF_take (i := 21) (oi := _) (v := ?_) rfl (by kernel_rfl) (by kernel_rfl) (by kernel_rfl) (by kernel_rfl) (fun _ _ _ h => h) (Or.inl ⟨by rfl, ?_⟩) (by assumption) ?_
  rotate_left 1
  · intro w hSw
    (try dsimp only at hSw)
    (first | (go_simp; done) | (go_simp; with_reducible rfl))
  (try simp only [Act.put, List.getElem_toArray, List.getElem_cons_succ, List.getElem_cons_zero, List.setIfInBounds_toArray, List.set_cons_zero, List.set_cons_succ])
  refine wpAnyF_ready (rs := [22]) (by kernel_rfl) (by simp) ?_
  refine AllReadyF.cons (o := _) rfl (fun K hK => ?_) AllReadyF.nil
  go_simp
  refine hK.out _ _ (by assumption) (fun hHeld22 => ?_)
  clear hK K
  (try simp only [Act.put, List.getElem_toArray, List.getElem_cons_succ, List.getElem_cons_zero, List.setIfInBounds_toArray, List.set_cons_zero, List.set_cons_succ])
  refine wpAnyF_done (by kernel_rfl) ?_ _
  have HF := Lib.hid hHeld20.2.2.2.1
  go_wp2
  go_ret
  exact ⟨rfl, HF.out⟩
set_option maxHeartbeats 4000000 in
theorem handleRoots_yes (l : List Nat) (hl : l.length = 17) (h64 : ∀ i, l.getD i 0 < 2 ^ 64) (hm : RMay l) (w : World) :
    Calls Try.prog 5 #[.agg (rtV l)] w fun e w' => e = .returned (.bool true) ∧ Below w.heap.size w w' := by
  have HW0 := Lib.hid (heap_alloc_new w (.cells (rtV l) 40))
  have HB0 : Hid (Below w.heap.size w (w.alloc (.cells (rtV l) 40))) := Lib.hid ((Below.refl _ _).alloc (Nat.le_refl _) _)
  have HLT : Hid (w.heap.size < (w.alloc (.cells (rtV l) 40)).heap.size) := Lib.hid (by simp)
  have HIR := Lib.hid (info_rtr l)
  have HOU := Lib.hid (fun W => ours_any l W)
  have HRI := Lib.hid (fun W => rright_any l h64 W)
  have hz := zero_rtr
  have hzh := zero_rth
  have hq := eq_r l zl17 hl (by simp [zl17])
  have HBY := Lib.hid (fun W => hhead_yes l hl h64 (.inr hm) W)
  have HPA := Lib.hid (fun A c W (h : BS W W.heap.size A 256 c (headL l)) => hparse_any A 256 c (headL l) l 0 W h (by omega) (parse_head hl h64 hm))
  have HPL := Lib.hid (fun W => plain_any l W)
  have HAW := Lib.hid (fun W => awakeH_any W)
  have HIP := Lib.hid (info_rth l)
  have HONP := Lib.hid (rt_one l)
  have HSP : Hid ((rtV zl17).size = (rtV l).size) := Lib.hid (by rw [rowV_size, rowV_size])
  have HRB := Lib.hid (fun W => rhead_any l hl h64 W)
  obtain ⟨sA, hsA⟩ : ∃ z, z = str (headL l) := ⟨_, rfl⟩
  have HSA : Hid (str (headL l) = sA) := Lib.hid hsA.symm
  have HLH := Lib.hid (headL_len l)
  have HDR : Hid (True) := Lib.hid (by trivial)
  obtain ⟨rt, hrt⟩ : ∃ z, z = rtV l := ⟨_, rfl⟩
  obtain ⟨zz, hzz⟩ : ∃ z, z = rtV zl17 := ⟨_, rfl⟩
  have hzs : zz.size = 17 := by rw [hzz, rowV_size]
  have hzne : ¬ zz = #[] := fun h => by rw [h] at hzs; simp at hzs
  rw [← hzz] at hz hzh hq HSP
  rw [← hrt] at hq HW0 HB0 HLT HIR HOU HRI HBY HRB ⊢
  obtain ⟨pv, hpv⟩ : ∃ z, z = rtV l := ⟨_, rfl⟩
  rw [← hpv] at HPL HIP HONP HSP
  have HPV := Lib.hid hpv
  have HRT := Lib.hid hrt
  have HLL := Lib.hid hl
  rw [decide_eq_false (fun h : l = zl17 => zl17_not (h ▸ hm))] at hq
  rw [decide_eq_true hm] at HRI
  clear hl h64 hrt hzz hm hsA hpv
  go_enter Try.func5, Try.ntmps5
  go_wp2_with (with_reducible refine wpList_load_row rfl 40 (.tmp 1) rfl _ rfl 40 _ _ _ HW0.out Try.underlying40 rfl HIR.out ?_)
  refine (HOU.out _).mono ?_
  rintro e w1 ⟨rfl, hb1⟩
  have HX1 : Hid (w1.heap[w.heap.size]? = some (.cells rt 40 (0, 0))) := Lib.hid ((hb1.block _ HLT.out).trans HW0.out)
  have HB1 := Lib.hid (HB0.out.trans (hb1.mono HB0.out.size))
  have HL1 := Lib.hid (Nat.lt_of_lt_of_le HLT.out hb1.size)
  clear hb1
  go_wp2_with fail
  refine (HBY.out _).mono ?_
  rintro e w2 ⟨A2, c2, rfl, hb2, hbs2⟩
  have HX2 : Hid (w2.heap[w.heap.size]? = some (.cells rt 40 (0, 0))) := Lib.hid ((hb2.block _ HL1.out).trans HX1.out)
  have HB2 := Lib.hid (HB1.out.trans (hb2.mono HB1.out.size))
  have HL2 := Lib.hid (Nat.lt_of_lt_of_le HL1.out hb2.size)
  have HS2 := Lib.hid hbs2
  clear hb2 hbs2
  go_wp2_with (with_reducible refine wpList_load_row rfl 40 (.tmp 1) rfl _ rfl 40 _ _ _ HX2.out Try.underlying40 rfl HIR.out ?_)
  refine (HRI.out _).mono ?_
  rintro e w3 ⟨rfl, hb3⟩
  have HX3 : Hid (w3.heap[w.heap.size]? = some (.cells rt 40 (0, 0))) := Lib.hid ((hb3.block _ HL2.out).trans HX2.out)
  have HB3 := Lib.hid (HB2.out.trans (hb3.mono HB2.out.size))
  have HL3 := Lib.hid (Nat.lt_of_lt_of_le HL2.out hb3.size)
  have HS3 := Lib.hid ((HS2.out.below hb3).more hb3.size)
  clear hb3
  go_wp2_with fail
  refine (HPA.out A2 c2 _ HS3.out).mono ?_
  rintro e w4 ⟨rfl, hb4⟩
  have HX4 : Hid (w4.heap[w.heap.size]? = some (.cells rt 40 (0, 0))) := Lib.hid ((hb4.block _ HL3.out).trans HX3.out)
  have HB4 := Lib.hid (HB3.out.trans (hb4.mono HB3.out.size))
  have HL4 := Lib.hid (Nat.lt_of_lt_of_le HL3.out hb4.size)
  have HS4 := Lib.hid ((HS3.out.below hb4).more hb4.size)
  rw [← HPV.out]
  clear hb4
  have h3 := heap_alloc_new w4 (.cells zz 45)
  obtain ⟨V3, hV3⟩ : ∃ V3, V3 = (w4.alloc (.cells zz 45)).setRow w4.heap.size pv := ⟨_, rfl⟩
  have hbV : Below w4.heap.size w4 V3 := by rw [hV3]; exact below_setRow ((Below.refl _ _).alloc (Nat.le_refl _) _) (Nat.le_refl _) _
  have HXP : Hid (V3.heap[w4.heap.size]? = some (.cells pv 45 (0, 0))) := Lib.hid (by rw [hV3]; exact setRow_heap _ _ _ pv _ _ h3)
  have HX5 : Hid (V3.heap[w.heap.size]? = some (.cells rt 40 (0, 0))) := Lib.hid ((hbV.block _ HL4.out).trans HX4.out)
  have HB5 := Lib.hid (HB4.out.trans (hbV.mono HB4.out.size))
  have HS5 := Lib.hid ((HS4.out.below hbV).more hbV.size)
  have H3 := Lib.hid h3
  have HVE := Lib.hid hV3
  clear h3 hV3 hbV
  go_wp2_with (with_reducible refine wpList_store_row rfl 45 (.tmp 7) (.tmp 61) rfl _ _ rfl rfl 45 _ H3.out HIP.out HSP.out HONP.out ?_)
  rw [← HVE.out]
  generalize w4.heap.size = s at *
  have HK : Hid (∀ W, Below V3.heap.size V3 W → (fun w' => w'.heap[s]? = some (.cells pv 45 (0, 0)) ∧ w'.heap[w.heap.size]? = some (.cells rt 40 (0, 0)) ∧ (convert 41 9 (.slice A2 256 c2)).run Try.prog w' = .ok (.string sA) w' ∧ Below w.heap.size w w' ∧ Below V3.heap.size V3 w') W) := Lib.hid (fun W hW => ⟨(hW.block s (Array.getElem?_eq_some_iff.1 HXP.out).1).trans HXP.out, (hW.block _ (Array.getElem?_eq_some_iff.1 HX5.out).1).trans HX5.out, by have h := conv_at (HS5.out.below hW); rw [HSA.out] at h; exact h, HB5.out.trans (hW.mono HB5.out.size), hW⟩)
  clear HVE H3
  have hqo : ∀ W, (Op.equalIn 10000 40 (.agg pv) (.agg rt)).run Try.prog W = .ok true W := fun W => by
    rw [HPV.out, HRT.out, eq_r l l HLL.out HLL.out W]; simp
  refine wp_region_F (S := (fun w' => w'.heap[s]? = some (.cells pv 45 (0, 0)) ∧ w'.heap[w.heap.size]? = some (.cells rt 40 (0, 0)) ∧ (convert 41 9 (.slice A2 256 c2)).run Try.prog w' = .ok (.string sA) w' ∧ Below w.heap.size w w' ∧ Below V3.heap.size V3 w')) [] (by kernel_rfl) (HK.out _ ((Below.refl _ _).drew)) (fun hHeld => ?_)
  refine wpAnyF_take (i := 0) (oi := _) (v := ?_) rfl (by kernel_rfl) (by kernel_rfl) (by kernel_rfl) (by kernel_rfl) (fun _ _ _ h => h) (Or.inl ⟨by rfl, ?_⟩) (by assumption) ?_
  rotate_left 1
  · intro w hSw
    (try dsimp only at hSw)
    (first | (go_simp; done) | (go_simp; with_reducible rfl))
  (try simp only [Act.put, List.getElem_toArray, List.getElem_cons_succ, List.getElem_cons_zero, List.setIfInBounds_toArray, List.set_cons_zero, List.set_cons_succ])
  refine wpAnyF_take (i := 1) (oi := _) (v := ?_) rfl (by kernel_rfl) (by kernel_rfl) (by kernel_rfl) (by kernel_rfl) (fun _ _ _ h => h) (Or.inl ⟨by rfl, ?_⟩) (by assumption) ?_
  rotate_left 1
  · intro w hSw
    (try dsimp only at hSw)
    (first | (go_simp; done) | (go_simp; with_reducible rfl))
  (try simp only [Act.put, List.getElem_toArray, List.getElem_cons_succ, List.getElem_cons_zero, List.setIfInBounds_toArray, List.set_cons_zero, List.set_cons_succ])
  refine wpAnyF_take (i := 2) (oi := _) (v := ?_) rfl (by kernel_rfl) (by kernel_rfl) (by kernel_rfl) (by kernel_rfl) (fun _ _ _ h => h) (Or.inl ⟨by rfl, ?_⟩) (by assumption) ?_
  rotate_left 1
  · intro w hSw
    (try dsimp only at hSw)
    (first | (go_simp; done) | (go_simp; with_reducible rfl))
  (try simp only [Act.put, List.getElem_toArray, List.getElem_cons_succ, List.getElem_cons_zero, List.setIfInBounds_toArray, List.set_cons_zero, List.set_cons_succ])
  refine wpAnyF_take (i := 3) (oi := _) (v := ?_) rfl (by kernel_rfl) (by kernel_rfl) (by kernel_rfl) (by kernel_rfl) (fun _ _ _ h => h) (Or.inl ⟨by rfl, ?_⟩) (by assumption) ?_
  rotate_left 1
  · intro w hSw
    (try dsimp only at hSw)
    (first | (go_simp; done) | (go_simp; with_reducible rfl))
  (try simp only [Act.put, List.getElem_toArray, List.getElem_cons_succ, List.getElem_cons_zero, List.setIfInBounds_toArray, List.set_cons_zero, List.set_cons_succ])
  refine wpAnyF_take (i := 4) (oi := _) (v := ?_) rfl (by kernel_rfl) (by kernel_rfl) (by kernel_rfl) (by kernel_rfl) (fun _ _ _ h => h) (Or.inl ⟨by rfl, ?_⟩) (by assumption) ?_
  rotate_left 1
  · intro w hSw
    (try dsimp only at hSw)
    (first | (go_simp; done) | (go_simp; with_reducible rfl))
  (try simp only [Act.put, List.getElem_toArray, List.getElem_cons_succ, List.getElem_cons_zero, List.setIfInBounds_toArray, List.set_cons_zero, List.set_cons_succ])
  refine wpAnyF_take (i := 5) (oi := _) (v := _) rfl (by kernel_rfl) (by kernel_rfl) (by kernel_rfl) (by kernel_rfl) (fun _ _ _ h => h) (yields_row17 (by rfl) 40 (.tmp 1) rfl w.heap.size 0 rfl rt _ (fun W h => range_row h.2.1) Try.underlying40 rfl HIR.out) (by assumption) ?_
  (try simp only [Act.put, List.getElem_toArray, List.getElem_cons_succ, List.getElem_cons_zero, List.setIfInBounds_toArray, List.set_cons_zero, List.set_cons_succ])
  refine wpAnyF_ready (rs := [6]) (by kernel_rfl) (by simp) ?_
  refine AllReadyF.cons (o := _) rfl (fun K hK => ?_) AllReadyF.nil
  go_simp
  (go_at_call 19)
  refine (HRB.out _).mono ?_
  rintro e w6 ⟨A6, c6, rfl, hb6, hx6⟩
  have hc6 := conv_at hx6
  rw [HSA.out] at hc6
  refine hK.out _ _ (HK.out _ (hHeld.2.2.2.2.trans (hb6.mono hHeld.2.2.2.2.size))) (fun hHeld6 => ?_)
  clear hK K
  (try simp only [Act.put, List.getElem_toArray, List.getElem_cons_succ, List.getElem_cons_zero, List.setIfInBounds_toArray, List.set_cons_zero, List.set_cons_succ])
  refine wpAnyF_ready (rs := [7]) (by kernel_rfl) (by simp) ?_
  refine AllReadyF.cons (o := _) rfl (fun K hK => ?_) AllReadyF.nil
  go_simp
  refine hK.out _ _ (by assumption) (fun hHeld7 => ?_)
  clear hK K
  (try simp only [Act.put, List.getElem_toArray, List.getElem_cons_succ, List.getElem_cons_zero, List.setIfInBounds_toArray, List.set_cons_zero, List.set_cons_succ])
  refine wpAnyF_take (i := 8) (oi := _) (v := ?_) rfl (by kernel_rfl) (by kernel_rfl) (by kernel_rfl) (by kernel_rfl) (fun _ _ _ h => h) (Or.inl ⟨by rfl, ?_⟩) (by assumption) ?_
  rotate_left 1
  · intro w hSw
    (try dsimp only at hSw)
    (first | (go_simp; done) | (go_simp; with_reducible rfl))
  (try simp only [Act.put, List.getElem_toArray, List.getElem_cons_succ, List.getElem_cons_zero, List.setIfInBounds_toArray, List.set_cons_zero, List.set_cons_succ])
  refine wpAnyF_take (i := 9) (oi := _) (v := ?_) rfl (by kernel_rfl) (by kernel_rfl) (by kernel_rfl) (by kernel_rfl) (fun _ _ _ h => h) (Or.inl ⟨by rfl, ?_⟩) (by assumption) ?_
  rotate_left 1
  · intro w hSw
    (try dsimp only at hSw)
    (first | (go_simp; done) | (go_simp; with_reducible rfl))
  (try simp only [Act.put, List.getElem_toArray, List.getElem_cons_succ, List.getElem_cons_zero, List.setIfInBounds_toArray, List.set_cons_zero, List.set_cons_succ])
  refine wpAnyF_take (i := 10) (oi := _) (v := ?_) rfl (by kernel_rfl) (by kernel_rfl) (by kernel_rfl) (by kernel_rfl) (fun _ _ _ h => h) (Or.inl ⟨by rfl, ?_⟩) (by assumption) ?_
  rotate_left 1
  · intro w hSw
    (try dsimp only at hSw)
    (first | (go_simp; done) | (go_simp; with_reducible rfl))
  (try simp only [Act.put, List.getElem_toArray, List.getElem_cons_succ, List.getElem_cons_zero, List.setIfInBounds_toArray, List.set_cons_zero, List.set_cons_succ])
  refine wpAnyF_take (i := 11) (oi := _) (v := ?_) rfl (by kernel_rfl) (by kernel_rfl) (by kernel_rfl) (by kernel_rfl) (fun _ _ _ h => h) (Or.inl ⟨by rfl, ?_⟩) (by assumption) ?_
  rotate_left 1
  · intro w hSw
    (try dsimp only at hSw)
    (first | (go_simp; done) | (go_simp; with_reducible rfl))
  (try simp only [Act.put, List.getElem_toArray, List.getElem_cons_succ, List.getElem_cons_zero, List.setIfInBounds_toArray, List.set_cons_zero, List.set_cons_succ])
  refine wpAnyF_take (i := 12) (oi := _) (v := ?_) rfl (by kernel_rfl) (by kernel_rfl) (by kernel_rfl) (by kernel_rfl) (fun _ _ _ h => h) (Or.inl ⟨by rfl, ?_⟩) (by assumption) ?_
  rotate_left 1
  · intro w hSw
    (try dsimp only at hSw)
    (first | (go_simp; done) | (go_simp; with_reducible rfl))
  (try simp only [Act.put, List.getElem_toArray, List.getElem_cons_succ, List.getElem_cons_zero, List.setIfInBounds_toArray, List.set_cons_zero, List.set_cons_succ])
  refine wpAnyF_take (i := 13) (oi := _) (v := ?_) rfl (by kernel_rfl) (by kernel_rfl) (by kernel_rfl) (by kernel_rfl) (fun _ _ _ h => h) (Or.inl ⟨by rfl, ?_⟩) (by assumption) ?_
  rotate_left 1
  · intro w hSw
    (try dsimp only at hSw)
    (first | (go_simp; done) | (go_simp; with_reducible rfl))
  (try simp only [Act.put, List.getElem_toArray, List.getElem_cons_succ, List.getElem_cons_zero, List.setIfInBounds_toArray, List.set_cons_zero, List.set_cons_succ])
  refine wpAnyF_take (i := 14) (oi := _) (v := ?_) rfl (by kernel_rfl) (by kernel_rfl) (by kernel_rfl) (by kernel_rfl) (fun _ _ _ h => h) (Or.inl ⟨by rfl, ?_⟩) (by assumption) ?_
  rotate_left 1
  · intro w hSw
    (try dsimp only at hSw)
    (first | (go_simp; done) | (go_simp; with_reducible rfl))
  (try simp only [Act.put, List.getElem_toArray, List.getElem_cons_succ, List.getElem_cons_zero, List.setIfInBounds_toArray, List.set_cons_zero, List.set_cons_succ])
  refine wpAnyF_take (i := 15) (oi := _) (v := _) rfl (by kernel_rfl) (by kernel_rfl) (by kernel_rfl) (by kernel_rfl) (fun _ _ _ h => h) (yields_row17 (by rfl) 45 (.tmp 7) rfl s 0 rfl pv _ (fun W h => range_row h.1) Try.underlying45 rfl HIP.out) (by assumption) ?_
  (try simp only [Act.put, List.getElem_toArray, List.getElem_cons_succ, List.getElem_cons_zero, List.setIfInBounds_toArray, List.set_cons_zero, List.set_cons_succ])
  refine wpAnyF_take (i := 17) (oi := _) (v := _) rfl (by kernel_rfl) (by kernel_rfl) (by kernel_rfl) (by kernel_rfl) (fun _ _ _ h => h) (yields_row17 (by rfl) 40 (.tmp 1) rfl w.heap.size 0 rfl rt _ (fun W h => range_row h.2.1) Try.underlying40 rfl HIR.out) (by assumption) ?_
  (try simp only [Act.put, List.getElem_toArray, List.getElem_cons_succ, List.getElem_cons_zero, List.setIfInBounds_toArray, List.set_cons_zero, List.set_cons_succ])
  refine wpAnyF_ready (rs := [16]) (by kernel_rfl) (by simp) ?_
  refine AllReadyF.cons (o := _) rfl (fun K hK => ?_) AllReadyF.nil
  go_simp
  (go_at_call 17)
  refine (HPL.out _).mono ?_
  rintro e wn16 ⟨rfl, hbn16⟩
  refine hK.out _ _ (HK.out _ (hHeld7.2.2.2.2.trans (hbn16.mono hHeld7.2.2.2.2.size))) (fun hHeld16 => ?_)
  clear hK K
  (try simp only [Act.put, List.getElem_toArray, List.getElem_cons_succ, List.getElem_cons_zero, List.setIfInBounds_toArray, List.set_cons_zero, List.set_cons_succ])
  refine wpAnyF_take (i := 18) (oi := _) (v := ?_) rfl (by kernel_rfl) (by kernel_rfl) (by kernel_rfl) (by kernel_rfl) (fun _ _ _ h => h) (Or.inl ⟨by rfl, ?_⟩) (by assumption) ?_
  rotate_left 1
  · intro w hSw
    (try dsimp only at hSw)
    (first | (go_simp; done) | (go_simp; with_reducible rfl))
  (try simp only [Act.put, List.getElem_toArray, List.getElem_cons_succ, List.getElem_cons_zero, List.setIfInBounds_toArray, List.set_cons_zero, List.set_cons_succ])
  refine wpAnyF_take (i := 19) (oi := _) (v := ?_) rfl (by kernel_rfl) (by kernel_rfl) (by kernel_rfl) (by kernel_rfl) (fun _ _ _ h => h) (Or.inl ⟨by rfl, ?_⟩) (by assumption) ?_
  rotate_left 1
  · intro w hSw
    (try dsimp only at hSw)
    (first | (go_simp; done) | (go_simp; with_reducible rfl))
  (try simp only [Act.put, List.getElem_toArray, List.getElem_cons_succ, List.getElem_cons_zero, List.setIfInBounds_toArray, List.set_cons_zero, List.set_cons_succ])
  refine wpAnyF_take (i := 20) (oi := _) (v := ?_) rfl (by kernel_rfl) (by kernel_rfl) (by kernel_rfl) (by kernel_rfl) (fun _ _ _ h => h) (Or.inl ⟨by rfl, ?_⟩) (by assumption) ?_
  rotate_left 1
  · intro w hSw
    (try dsimp only at hSw)
    (first | (go_simp; done) | (go_simp; with_reducible rfl))
  (try simp only [Act.put, List.getElem_toArray, List.getElem_cons_succ, List.getElem_cons_zero, List.setIfInBounds_toArray, List.set_cons_zero, List.set_cons_succ])
  refine wpAnyF_ready (rs := [21]) (by kernel_rfl) (by simp) ?_
  refine AllReadyF.cons (o := _) rfl (fun K hK => ?_) AllReadyF.nil
  go_simp
  (go_at_call 10)
  refine (HAW.out _).mono ?_
  rintro e wn21 ⟨rfl, hbn21⟩
  refine hK.out _ _ (HK.out _ (hHeld16.2.2.2.2.trans (hbn21.mono hHeld16.2.2.2.2.size))) (fun hHeld21 => ?_)
  clear hK K
  (try simp only [Act.put, List.getElem_toArray, List.getElem_cons_succ, List.getElem_cons_zero, List.setIfInBounds_toArray, List.set_cons_zero, List.set_cons_succ])
  refine wpAnyF_take (i := 22) (oi := _) (v := ?_) rfl (by kernel_rfl) (by kernel_rfl) (by kernel_rfl) (by kernel_rfl) (fun _ _ _ h => h) (Or.inl ⟨by rfl, ?_⟩) (by assumption) ?_
  rotate_left 1
  · intro w hSw
    (try dsimp only at hSw)
    (first | (go_simp; done) | (go_simp; with_reducible rfl))
  (try simp only [Act.put, List.getElem_toArray, List.getElem_cons_succ, List.getElem_cons_zero, List.setIfInBounds_toArray, List.set_cons_zero, List.set_cons_succ])
  refine wpAnyF_ready (rs := [23]) (by kernel_rfl) (by simp) ?_
  refine AllReadyF.cons (o := _) rfl (fun K hK => ?_) AllReadyF.nil
  go_simp
  refine hK.out _ _ (by assumption) (fun hHeld23 => ?_)
  clear hK K
  (try simp only [Act.put, List.getElem_toArray, List.getElem_cons_succ, List.getElem_cons_zero, List.setIfInBounds_toArray, List.set_cons_zero, List.set_cons_succ])
  refine wpAnyF_done (by kernel_rfl) ?_ _
  have HF := Lib.hid hHeld21.2.2.2.1
  go_wp2
  go_ret
  exact ⟨rfl, HF.out⟩
theorem handleRoots_any (l : List Nat) (hl : l.length = 17) (h64 : ∀ i, l.getD i 0 < 2 ^ 64) (w : World) :
    Calls Try.prog 5 #[.agg (rtV l)] w fun e w' => e = .returned (.bool true) ∧ Below w.heap.size w w' := by
  by_cases hz : l = zl17
  · exact handleRoots_zero l hl h64 hz w
  · by_cases hm : RMay l
    · exact handleRoots_yes l hl h64 hm w
    · exact handleRoots_no l hl h64 hz hm w
end Go.Proofs.Ytfnppoagmambgaa
