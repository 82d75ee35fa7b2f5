/-
  Heads of roots: Ours and Plain.
-/
import Derived.Test.YtfnppoagmambgaaHoA
namespace Go.Proofs.Ytfnppoagmambgaa
open Go.RowKit Go
set_option linter.unusedVariables false
set_option linter.unusedSimpArgs false
set_option maxRecDepth 100000
set_option maxHeartbeats 2000000 in
theorem ours_any (l : List Nat) (w : World) : Calls Try.prog 14 #[.agg (rtV l)] w fun e w' => e = .returned (.agg (rtV l)) ∧ Below w.heap.size w w' := by
  have hz := zero_rth
  obtain ⟨x0, hx0⟩ : ∃ x, l.getD 0 0 = x := ⟨_, rfl⟩
  have e1 : ∀ o, (w.alloc o).heap.size = w.heap.size + 1 := fun o => by simp
  have e2 : ∀ o p, ((w.alloc o).alloc p).heap.size = w.heap.size + 1 + 1 := fun o p => by simp
  obtain ⟨V, hV⟩ : ∃ V, V = ((w.alloc (.cells (rtV l) 40)).alloc (.cells (rtV zl17) 45)).alloc (.cells (rtV zl17) 45) := ⟨_, rfl⟩
  have hbV : Below w.heap.size w V := by rw [hV]; exact (((Below.refl _ _).alloc (Nat.le_refl _) _).alloc (by rw [e1]; omega) _).alloc (by rw [e2]; omega) _
  have v1 : Row V w.heap.size 40 (uF l) 17 := by rw [hV]; exact ((Row.new w _ _ _).alloc _).alloc _
  have v2 : Row V (w.heap.size + 1) 45 (uF zl17) 17 := by
    rw [hV]; have := (Row.new (w.alloc (.cells (rtV l) 40)) 45 (uF zl17) 17).alloc (.cells (rtV zl17) 45)
    rw [e1] at this; exact this
  have v3 : V.heap[w.heap.size + 1 + 1]? = some (.cells (rtV zl17) 45 (0, 0)) := by
    have := heap_alloc_new ((w.alloc (.cells (rtV l) 40)).alloc (.cells (rtV zl17) 45)) (.cells (rtV zl17) 45)
    rw [e2, ← hV] at this; exact this
  obtain ⟨W0, hW0⟩ : ∃ W0, W0 = V.setRow (w.heap.size + 1 + 1) ((rtV zl17).setIfInBounds 0 (.int .u64 (x0 : Int))) := ⟨_, rfl⟩
  have hb0 : Below w.heap.size w W0 := by rw [hW0]; exact below_setRow hbV (by omega) _
  have r1 : Row W0 w.heap.size 40 (uF l) 17 := by rw [hW0]; exact (setRow_other _ _ _ _ (by omega)).trans v1
  have r2 : Row W0 (w.heap.size + 1) 45 (uF zl17) 17 := by rw [hW0]; exact (setRow_other _ _ _ _ (by omega)).trans v2
  have r3 : Row W0 (w.heap.size + 1 + 1) 45 (mixL l 0) 17 := by
    have := setRow_heap V (w.heap.size + 1 + 1) _ ((rtV zl17).setIfInBounds 0 (.int .u64 (x0 : Int))) _ _ v3
    rw [← hW0, mixL_new l x0 hx0] at this; exact this
  have H0 : Hid (LoopR w 40 45 45 l (.int .i64 0) W0) := Lib.hid ⟨0, rfl, by omega, hb0, r1, r2, r3⟩
  have HMID := Lib.hid (rt_mid r1)
  have hc0 : (rtV l)[0]? = some (.int .u64 (x0 : Int)) := by rw [← hx0]; exact rowV_at (uF l) (by omega)
  have HIA := Lib.hid (info_arr l)
  have HIB := Lib.hid (info_rth l)
  have HIZ : Hid ((Try.prog.info? 45).map (·.size) = some ((rtV zl17).setIfInBounds 0 (.int .u64 (x0 : Int))).size) := Lib.hid (by rw [Array.size_setIfInBounds]; exact info_rth zl17)
  have HSZ : Hid ((rtV zl17).size = ((rtV zl17).setIfInBounds 0 (.int .u64 (x0 : Int))).size) := Lib.hid (by simp)
  have HSL : Hid ((rtV zl17).size = (rtV l).size) := Lib.hid (by rw [rowV_size, rowV_size])
  have HONE := Lib.hid (rt_one l)
  have HONZ : Hid (((rtV zl17).setIfInBounds 0 (.int .u64 (x0 : Int))).all (·.oneCell') = true) := Lib.hid (by rw [rowV_set, Array.all_eq_true]; intro i hi; rw [rowV_size] at hi; have h2 := rowV_at (fun i => if i = 0 then Value.int IntKind.u64 (x0 : Int) else uF zl17 i) hi; rw [Array.getElem?_eq_getElem (by rw [rowV_size]; exact hi)] at h2; rw [Option.some.inj h2]; split <;> rfl)
  have HIX := Lib.hid (fun j hj W => index_r l j hj W)
  have HARR : Hid ((arV l).toList.toArray = arV l) := Lib.hid (by simp)
  have HV3 := Lib.hid v3
  have HV := Lib.hid hV
  have HW0 := Lib.hid hW0
  have HFIN : Hid (∀ wr, Row wr (w.heap.size + 1) 45 (uF zl17) 17 → Row wr (w.heap.size + 1 + 1) 45 (mixL l 16) 17 → Below w.heap.size w wr →
      wr.heap[w.heap.size + 1]? = some (.cells (rtV zl17) 45 (0, 0)) ∧ wr.heap[w.heap.size + 1 + 1]? = some (.cells (rtV l) 45 (0, 0)) ∧ (wr.setRow (w.heap.size + 1) (rtV l)).heap[w.heap.size + 1]? = some (.cells (rtV l) 45 (0, 0)) ∧ Below w.heap.size w (wr.setRow (w.heap.size + 1) (rtV l))) :=
    Lib.hid (fun wr h2 h3 hb => ⟨h2, mixL_end h3, setRow_heap _ _ _ _ _ _ h2, below_setRow hb (by omega) _⟩)
  have HLV : Hid (∀ x, x = rtV l → rtV l = x) := Lib.hid (fun x h => h.symm)
  clear v1 v2 v3 r1 r2 r3 hb0 hbV hV hW0 e1 e2
  obtain ⟨rt, hrt⟩ : ∃ z, z = rtV l := ⟨_, rfl⟩
  obtain ⟨zz, hzz⟩ : ∃ z, z = rtV zl17 := ⟨_, rfl⟩
  have hzs : zz.size = 17 := by rw [hzz, rowV_size]
  have hzne : ¬ zz = #[] := fun h => by rw [h] at hzs; simp at hzs
  obtain ⟨ar, har⟩ : ∃ z, z = arV l := ⟨_, rfl⟩
  rw [← hrt] at HIB HSL HONE HFIN HV hc0 ⊢
  rw [← hzz] at hz HSZ HSL HFIN HV HV3 HIZ HONZ HW0
  rw [← har] at HIA HMID HIX HARR
  have HRT := Lib.hid hrt
  rw [HV.out] at HV3 HW0
  rw [HW0.out] at HMID H0
  clear hrt hzz har hx0
  go_enter Try.func14, Try.ntmps14
  go_wp2_with (first
    | (with_reducible refine wpList_store_row rfl 45 (.tmp 3) (.tmp 8) rfl _ _ rfl rfl 45 _ HV3.out HIZ.out HSZ.out HONZ.out ?_)
    | (with_reducible refine wpList_load_mid rfl 38 (.tmp 9) rfl w.heap.size 1 rfl ar.toList _ HMID.out Try.underlying38 rfl HIA.out ?_))
  go_loopw [11] (fun i wr => LoopR w 40 45 45 l i wr) (fun i _ => (16 - intOf i).toNat)
  case atStart => exact H0.out
  case round =>
    obtain ⟨k, rfl, hk, hb, h1, h2, h3⟩ := hrel
    by_cases hlt : k < 16
    · have hst := mixL_step h3 hlt
      have hc := h3.cell (i := 1 + k) (by omega)
      have hf := h3.free (1 + k)
      have hi := HIX.out k hlt
      obtain ⟨old, hold⟩ : ∃ z, z = mixL l k (1 + k) := ⟨_, rfl⟩
      rw [← hold] at hc
      obtain ⟨x, hx⟩ : ∃ x, x = l.getD (k + 1) 0 := ⟨_, rfl⟩
      rw [← hx] at hst hi
      have HN : Hid (LoopR w 40 45 45 l (.int .i64 ((k : Int) + 1)) (wr.setCell ⟨w.heap.size + 1 + 1, 1 + k, none⟩ (.int .u64 (x : Int)))) :=
        Lib.hid ⟨k + 1, by simp, by omega, hb.setCell (p := ⟨w.heap.size + 1 + 1, 1 + k, none⟩) (by simp; omega) _, h1.far (p := ⟨w.heap.size + 1 + 1, 1 + k, none⟩) (by simp; omega) _, h2.far (p := ⟨w.heap.size + 1 + 1, 1 + k, none⟩) (by simp) _, hst⟩
      clear hst hold hx h1 h2 h3 hb HFIN H0
      go_wp2
      go_roundw
      case rel => exact HN.out
      case measure => simp [intOf]; omega
    · obtain rfl : k = 16 := by omega
      obtain ⟨g1, g2, g3, g4⟩ := HFIN.out wr h2 h3 hb
      have G1 := Lib.hid g1
      have G2 := Lib.hid g2
      have G3 := Lib.hid g3
      have G4 := Lib.hid g4
      clear g1 g2 g3 g4 h1 h2 h3 hb HFIN H0
      go_wp2_with (first
        | (with_reducible refine wpList_load_row rfl 45 (.tmp 3) rfl _ rfl 45 _ _ _ G2.out Try.underlying45 rfl HIB.out ?_)
        | (with_reducible refine wpList_store_row rfl 45 (.tmp 2) (.tmp 20) rfl _ _ rfl rfl 45 _ G1.out HIB.out HSL.out HONE.out ?_))
      exact bodyPost_ret (v := .agg rt) (results_cell_row rfl _ _ _ 45 _ (0, 0) _ rfl G3.out Try.underlying45 rfl HIB.out) rfl ⟨rfl, G4.out⟩
set_option maxHeartbeats 2000000 in
theorem plain_any (l : List Nat) (w : World) : Calls Try.prog 17 #[.agg (rtV l)] w fun e w' => e = .returned (.agg (rtV l)) ∧ Below w.heap.size w w' := by
  have hz := zero_rtr
  obtain ⟨x0, hx0⟩ : ∃ x, l.getD 0 0 = x := ⟨_, rfl⟩
  have e1 : ∀ o, (w.alloc o).heap.size = w.heap.size + 1 := fun o => by simp
  have e2 : ∀ o p, ((w.alloc o).alloc p).heap.size = w.heap.size + 1 + 1 := fun o p => by simp
  obtain ⟨V, hV⟩ : ∃ V, V = ((w.alloc (.cells (rtV l) 45)).alloc (.cells (rtV zl17) 40)).alloc (.cells (rtV zl17) 40) := ⟨_, rfl⟩
  have hbV : Below w.heap.size w V := by rw [hV]; exact (((Below.refl _ _).alloc (Nat.le_refl _) _).alloc (by rw [e1]; omega) _).alloc (by rw [e2]; omega) _
  have v1 : Row V w.heap.size 45 (uF l) 17 := by rw [hV]; exact ((Row.new w _ _ _).alloc _).alloc _
  have v2 : Row V (w.heap.size + 1) 40 (uF zl17) 17 := by
    rw [hV]; have := (Row.new (w.alloc (.cells (rtV l) 45)) 40 (uF zl17) 17).alloc (.cells (rtV zl17) 40)
    rw [e1] at this; exact this
  have v3 : V.heap[w.heap.size + 1 + 1]? = some (.cells (rtV zl17) 40 (0, 0)) := by
    have := heap_alloc_new ((w.alloc (.cells (rtV l) 45)).alloc (.cells (rtV zl17) 40)) (.cells (rtV zl17) 40)
    rw [e2, ← hV] at this; exact this
  obtain ⟨W0, hW0⟩ : ∃ W0, W0 = V.setRow (w.heap.size + 1 + 1) ((rtV zl17).setIfInBounds 0 (.int .u64 (x0 : Int))) := ⟨_, rfl⟩
  have hb0 : Below w.heap.size w W0 := by rw [hW0]; exact below_setRow hbV (by omega) _
  have r1 : Row W0 w.heap.size 45 (uF l) 17 := by rw [hW0]; exact (setRow_other _ _ _ _ (by omega)).trans v1
  have r2 : Row W0 (w.heap.size + 1) 40 (uF zl17) 17 := by rw [hW0]; exact (setRow_other _ _ _ _ (by omega)).trans v2
  have r3 : Row W0 (w.heap.size + 1 + 1) 40 (mixL l 0) 17 := by
    have := setRow_heap V (w.heap.size + 1 + 1) _ ((rtV zl17).setIfInBounds 0 (.int .u64 (x0 : Int))) _ _ v3
    rw [← hW0, mixL_new l x0 hx0] at this; exact this
  have H0 : Hid (LoopR w 45 40 40 l (.int .i64 0) W0) := Lib.hid ⟨0, rfl, by omega, hb0, r1, r2, r3⟩
  have HMID := Lib.hid (rt_mid r1)
  have hc0 : (rtV l)[0]? = some (.int .u64 (x0 : Int)) := by rw [← hx0]; exact rowV_at (uF l) (by omega)
  have HIA := Lib.hid (info_arh l)
  have HIB := Lib.hid (info_rtr l)
  have HIZ : Hid ((Try.prog.info? 40).map (·.size) = some ((rtV zl17).setIfInBounds 0 (.int .u64 (x0 : Int))).size) := Lib.hid (by rw [Array.size_setIfInBounds]; exact info_rtr zl17)
  have HSZ : Hid ((rtV zl17).size = ((rtV zl17).setIfInBounds 0 (.int .u64 (x0 : Int))).size) := Lib.hid (by simp)
  have HSL : Hid ((rtV zl17).size = (rtV l).size) := Lib.hid (by rw [rowV_size, rowV_size])
  have HONE := Lib.hid (rt_one l)
  have HONZ : Hid (((rtV zl17).setIfInBounds 0 (.int .u64 (x0 : Int))).all (·.oneCell') = true) := Lib.hid (by rw [rowV_set, Array.all_eq_true]; intro i hi; rw [rowV_size] at hi; have h2 := rowV_at (fun i => if i = 0 then Value.int IntKind.u64 (x0 : Int) else uF zl17 i) hi; rw [Array.getElem?_eq_getElem (by rw [rowV_size]; exact hi)] at h2; rw [Option.some.inj h2]; split <;> rfl)
  have HIX := Lib.hid (fun j hj W => index_h l j hj W)
  have HARR : Hid ((arV l).toList.toArray = arV l) := Lib.hid (by simp)
  have HV3 := Lib.hid v3
  have HV := Lib.hid hV
  have HW0 := Lib.hid hW0
  have HFIN : Hid (∀ wr, Row wr (w.heap.size + 1) 40 (uF zl17) 17 → Row wr (w.heap.size + 1 + 1) 40 (mixL l 16) 17 → Below w.heap.size w wr →
      wr.heap[w.heap.size + 1]? = some (.cells (rtV zl17) 40 (0, 0)) ∧ wr.heap[w.heap.size + 1 + 1]? = some (.cells (rtV l) 40 (0, 0)) ∧ (wr.setRow (w.heap.size + 1) (rtV l)).heap[w.heap.size + 1]? = some (.cells (rtV l) 40 (0, 0)) ∧ Below w.heap.size w (wr.setRow (w.heap.size + 1) (rtV l))) :=
    Lib.hid (fun wr h2 h3 hb => ⟨h2, mixL_end h3, setRow_heap _ _ _ _ _ _ h2, below_setRow hb (by omega) _⟩)
  have HLV : Hid (∀ x, x = rtV l → rtV l = x) := Lib.hid (fun x h => h.symm)
  clear v1 v2 v3 r1 r2 r3 hb0 hbV hV hW0 e1 e2
  obtain ⟨rt, hrt⟩ : ∃ z, z = rtV l := ⟨_, rfl⟩
  obtain ⟨zz, hzz⟩ : ∃ z, z = rtV zl17 := ⟨_, rfl⟩
  have hzs : zz.size = 17 := by rw [hzz, rowV_size]
  have hzne : ¬ zz = #[] := fun h => by rw [h] at hzs; simp at hzs
  obtain ⟨ar, har⟩ : ∃ z, z = arV l := ⟨_, rfl⟩
  rw [← hrt] at HIB HSL HONE HFIN HV hc0 ⊢
  rw [← hzz] at hz HSZ HSL HFIN HV HV3 HIZ HONZ HW0
  rw [← har] at HIA HMID HIX HARR
  have HRT := Lib.hid hrt
  rw [HV.out] at HV3 HW0
  rw [HW0.out] at HMID H0
  clear hrt hzz har hx0
  go_enter Try.func17, Try.ntmps17
  go_wp2_with (first
    | (with_reducible refine wpList_store_row rfl 40 (.tmp 3) (.tmp 8) rfl _ _ rfl rfl 40 _ HV3.out HIZ.out HSZ.out HONZ.out ?_)
    | (with_reducible refine wpList_load_mid rfl 43 (.tmp 9) rfl w.heap.size 1 rfl ar.toList _ HMID.out Try.underlying43 rfl HIA.out ?_))
  go_loopw [11] (fun i wr => LoopR w 45 40 40 l i wr) (fun i _ => (16 - intOf i).toNat)
  case atStart => exact H0.out
  case round =>
    obtain ⟨k, rfl, hk, hb, h1, h2, h3⟩ := hrel
    by_cases hlt : k < 16
    · have hst := mixL_step h3 hlt
      have hc := h3.cell (i := 1 + k) (by omega)
      have hf := h3.free (1 + k)
      have hi := HIX.out k hlt
      obtain ⟨old, hold⟩ : ∃ z, z = mixL l k (1 + k) := ⟨_, rfl⟩
      rw [← hold] at hc
      obtain ⟨x, hx⟩ : ∃ x, x = l.getD (k + 1) 0 := ⟨_, rfl⟩
      rw [← hx] at hst hi
      have HN : Hid (LoopR w 45 40 40 l (.int .i64 ((k : Int) + 1)) (wr.setCell ⟨w.heap.size + 1 + 1, 1 + k, none⟩ (.int .u64 (x : Int)))) :=
        Lib.hid ⟨k + 1, by simp, by omega, hb.setCell (p := ⟨w.heap.size + 1 + 1, 1 + k, none⟩) (by simp; omega) _, h1.far (p := ⟨w.heap.size + 1 + 1, 1 + k, none⟩) (by simp; omega) _, h2.far (p := ⟨w.heap.size + 1 + 1, 1 + k, none⟩) (by simp) _, hst⟩
      clear hst hold hx h1 h2 h3 hb HFIN H0
      go_wp2
      go_roundw
      case rel => exact HN.out
      case measure => simp [intOf]; omega
    · obtain rfl : k = 16 := by omega
      obtain ⟨g1, g2, g3, g4⟩ := HFIN.out wr h2 h3 hb
      have G1 := Lib.hid g1
      have G2 := Lib.hid g2
      have G3 := Lib.hid g3
      have G4 := Lib.hid g4
      clear g1 g2 g3 g4 h1 h2 h3 hb HFIN H0
      go_wp2_with (first
        | (with_reducible refine wpList_load_row rfl 40 (.tmp 3) rfl _ rfl 40 _ _ _ G2.out Try.underlying40 rfl HIB.out ?_)
        | (with_reducible refine wpList_store_row rfl 40 (.tmp 2) (.tmp 20) rfl _ _ rfl rfl 40 _ G1.out HIB.out HSL.out HONE.out ?_))
      exact bodyPost_ret (v := .agg rt) (results_cell_row rfl _ _ _ 40 _ (0, 0) _ rfl G3.out Try.underlying40 rfl HIB.out) rfl ⟨rfl, G4.out⟩
end Go.Proofs.Ytfnppoagmambgaa
