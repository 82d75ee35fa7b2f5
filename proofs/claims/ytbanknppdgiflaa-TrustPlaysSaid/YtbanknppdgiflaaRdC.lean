/-
  The document's register: Set, what each case leaves, exactly.
-/
import Derived.Test.YtbanknppdgiflaaRdB
import Derived.Test.YtbanknppdgiflaaTrI
namespace Go.Proofs.Ytbanknppdgiflaa
open Go.RowKit Go
set_option linter.unusedVariables false
set_option linter.unusedSimpArgs false
abbrev RgT : TypeId := 36
def rgF (f : Nat → Value) (d : Value) (i : Nat) : Value := if i < 33 then f i else d
/-- block r is a register of the document beside its device g: it holds f -/
def RgB (W : World) (r g : Nat) (f : Nat → Value) : Prop := Cells W r 34 (rgF f (.pointer (some ⟨g, 0, none⟩)))
set_option maxHeartbeats 1000000 in
set_option maxRecDepth 100000 in
theorem rset_down (r g bp bm L nc c c' : Nat) (l l' : List Nat) (lv : Value) (nA : Option Addr) (u : Int) (kv av : Value) (k : Nat) (al : List Value) (w : World) (hr : RgB w r g (regF c l)) (h : RdQ w g bp bm L nc lv nA true u kv av k al) :
    Calls Try.prog 8 #[.pointer (some ⟨r, 0, none⟩), .agg (rowV (regF c' l') 33)] w fun e w' => e = .returned (.int .i64 8) ∧ Below w.heap.size w w' := by
  have hb0 : Below w.heap.size w (w.alloc (.cells (rowV (regF c' l') 33) 26)) := (Below.refl _ _).alloc (Nat.le_refl _) _
  have k33 : (w.alloc (.cells (rowV (regF c' l') 33) 26)).cell? ⟨r, 33, none⟩ = some (.pointer (some ⟨g, 0, none⟩)) := (Cells.alloc hr _).cell 33 (by omega)
  have k4 : (w.alloc (.cells (rowV (regF c' l') 33) 26)).cell? ⟨g, 4, none⟩ = some (.bool true) := (h.next hb0).dev.cell 4
  have HB0 := Lib.hid hb0
  obtain ⟨rr, hrr⟩ : ∃ z, z = rowV (regF c' l') 33 := ⟨_, rfl⟩
  rw [← hrr] at k33 k4 HB0
  rw [← hrr]
  clear hr h hb0 hrr
  go_enter Try.func8, Try.ntmps8
  go_wp2
  go_ret
  exact ⟨rfl, HB0.out⟩
set_option maxHeartbeats 1000000 in
set_option maxRecDepth 100000 in
theorem rset_low (r g bp bm L nc c c' : Nat) (l l' : List Nat) (lv : Value) (nA : Option Addr) (u : Int) (kv av : Value) (k : Nat) (al : List Value) (w : World) (hr : RgB w r g (regF c l)) (h : RdQ w g bp bm L nc lv nA false u kv av k al) (hc : c' ≤ c) :
    Calls Try.prog 8 #[.pointer (some ⟨r, 0, none⟩), .agg (rowV (regF c' l') 33)] w fun e w' => e = .returned (.int .i64 3) ∧ Below w.heap.size w w' := by
  have hb0 : Below w.heap.size w (w.alloc (.cells (rowV (regF c' l') 33) 26)) := (Below.refl _ _).alloc (Nat.le_refl _) _
  have hal := heap_alloc_new w (.cells (rowV (regF c' l') 33) 26)
  have hr1 : RgB (w.alloc (.cells (rowV (regF c' l') 33) 26)) r g (regF c l) := Cells.alloc hr _
  have k33 : (w.alloc (.cells (rowV (regF c' l') 33) 26)).cell? ⟨r, 33, none⟩ = some (.pointer (some ⟨g, 0, none⟩)) := hr1.cell 33 (by omega)
  have k4 : (w.alloc (.cells (rowV (regF c' l') 33) 26)).cell? ⟨g, 4, none⟩ = some (.bool false) := (h.next hb0).dev.cell 4
  have HR1 := Lib.hid hr1
  have HB0 := Lib.hid hb0
  have HAL : Hid (∀ W, Below (w.alloc (.cells (rowV (regF c' l') 33) 26)).heap.size (w.alloc (.cells (rowV (regF c' l') 33) 26)) W → W.cell? ⟨w.heap.size, 0, none⟩ = some (.int .u64 (c' : Int))) := Lib.hid (fun W hW => (hW.cell (p := ⟨w.heap.size, 0, none⟩) (by simp)).trans ((blk_cell hal 0).trans (rowV_at _ (by omega))))
  have HCR : Hid (∀ W, Below (w.alloc (.cells (rowV (regF c' l') 33) 26)).heap.size (w.alloc (.cells (rowV (regF c' l') 33) 26)) W → W.cell? ⟨r, 0, none⟩ = some (.int .u64 (c : Int))) := Lib.hid (fun W hW => (Cells.after HR1.out hW).cell 0 (by omega))
  have hcc : (c' : Int) ≤ (c : Int) := by omega
  obtain ⟨rr, hrr⟩ : ∃ z, z = rowV (regF c' l') 33 := ⟨_, rfl⟩
  rw [← hrr] at k33 k4 HB0 HAL HCR
  rw [← hrr]
  clear hr h hb0 hrr hr1 hal HR1
  go_enter Try.func8, Try.ntmps8
  go_wp2_with fail
  generalize w.alloc (.cells rr 26) = V at *
  have HAL' := Lib.hid (fun W (h : After V W) => HAL.out W h)
  have HCR' := Lib.hid (fun W (h : After V W) => HCR.out W h)
  refine wp_region_class (After V) (by kernel_rfl) (by kernel_rfl) (After.drew V) ?_
  repeat (first
    | go_big_quiet_skip
    | (go_big_quiet_want; first
      | (with_reducible refine quiet_cell 22 (.tmp 13) rfl _ _ rfl (.int .u64 (c' : Int)) _ (fun W h => HAL'.out W h) Try.underlying22 rfl ?_; (simp only [Act.put, List.setIfInBounds_toArray, List.set_cons_zero, List.set_cons_succ]); go_big_quiet_on)
      | (with_reducible refine quiet_cell 22 (.tmp 18) rfl _ _ rfl (.int .u64 (c : Int)) _ (fun W h => HCR'.out W h) Try.underlying22 rfl ?_; (simp only [Act.put, List.setIfInBounds_toArray, List.set_cons_zero, List.set_cons_succ]); go_big_quiet_on)
      | (go_big_quiet_op; first
        | go_big_quiet_on
        | ((with_reducible refine ⟨_, fun _ _ => rfl, ?_⟩); go_big_quiet_on)
        | ((with_reducible refine ⟨_, fun _ _ => ⟨rfl, rfl⟩, ?_⟩); go_big_quiet_on))))
  refine wpQuiet_nil ?_
  intro W4 hW4
  have HW4 := Lib.hid hW4
  clear hW4
  go_wp2
  go_ret
  exact ⟨rfl, HB0.out.trans (Below.mono HW4.out HB0.out.size)⟩
theorem rg_store {W : World} {r g : Nat} {f f' : Nat → Value} {cs : Array Value} (h : RgB W r g f) (hc : cs = rowV f' 33) : RgB (W.setCells r 0 cs.toList) r g f' := by
  have hl : cs.toList.length = 33 := by rw [hc]; simp [rowV_size]
  refine (Cells.sets (o := 0) (vs := cs.toList) h (by rw [hl]; omega)).congr fun i hi => ?_
  rw [hl]
  unfold rgF
  by_cases e : i < 33
  · rw [if_pos ⟨by omega, by omega⟩, if_pos e, Nat.sub_zero, List.getD_eq_getElem?_getD, Array.getElem?_toList, hc, rowV_at _ e]; rfl
  · rw [if_neg (by omega), if_neg e, if_neg e]
/-- what a Set of the document's register leaves -/
def RSetE (w : World) (r g bp bm L nc c c' : Nat) (l l' : List Nat) (lv : Value) (nA : Option Addr) (off : Bool) (u : Int) (kv av : Value) (k : Nat) (al : List Value) (e : Ending) (w' : World) : Prop :=
  (off = true ∧ e = .returned (.int .i64 8) ∧ RgB w' r g (regF c l) ∧ RdQ w' g bp bm L nc lv nA true u kv av k al ∧ Below w.heap.size w w') ∨
  (off = false ∧ c' ≤ c ∧ e = .returned (.int .i64 3) ∧ RgB w' r g (regF c l) ∧ RdQ w' g bp bm L nc lv nA false u kv av k al ∧ Below w.heap.size w w') ∨
  (off = false ∧ c < c' ∧ u = 1 ∧ e = .returned (.int .i64 8) ∧ RgB w' r g (regF c l) ∧ RdQ w' g bp bm L nc lv nA true 0 kv av k al ∧ Turns (RdS g bp bm) w w') ∨
  (off = false ∧ c < c' ∧ u ≠ 1 ∧ ∃ av', e = .returned (.int .i64 0) ∧ RgB w' r g (regF c' l') ∧ RdQ w' g bp bm L nc lv nA false (if 1 < u then u - 1 else u) kv av' (k + 1) (al ++ actV 4 0 0) ∧
    Turns (fun j => j = r ∨ j = g ∨ av.ownBlock = some j) w w' ∧ (av'.ownBlock = av.ownBlock ∨ ∃ j, w.heap.size ≤ j ∧ av'.ownBlock = some j))
set_option maxHeartbeats 1000000 in
set_option maxRecDepth 100000 in
theorem rset_act (r g bp bm L nc c c' : Nat) (l l' : List Nat) (lv : Value) (nA : Option Addr) (u : Int) (kv av : Value) (k : Nat) (al : List Value) (w : World) (hr : RgB w r g (regF c l)) (h : RdQ w g bp bm L nc lv nA false u kv av k al) (hc : c < c') (hgr : g < r) (hav : av.ownBlock ≠ some r) (hu0 : 0 ≤ u) (hub : u ≤ 9223372036854775807) (hk : k < 1000) :
    Calls Try.prog 8 #[.pointer (some ⟨r, 0, none⟩), .agg (rowV (regF c' l') 33)] w (RSetE w r g bp bm L nc c c' l l' lv nA false u kv av k al) := by
  have hb0 : Below w.heap.size w (w.alloc (.cells (rowV (regF c' l') 33) 26)) := (Below.refl _ _).alloc (Nat.le_refl _) _
  have hal := heap_alloc_new w (.cells (rowV (regF c' l') 33) 26)
  have hsz : (w.alloc (.cells (rowV (regF c' l') 33) 26)).heap.size = w.heap.size + 1 := by simp
  have hr1 : RgB (w.alloc (.cells (rowV (regF c' l') 33) 26)) r g (regF c l) := Cells.alloc hr _
  have k33 : (w.alloc (.cells (rowV (regF c' l') 33) 26)).cell? ⟨r, 33, none⟩ = some (.pointer (some ⟨g, 0, none⟩)) := hr1.cell 33 (by omega)
  have k4 : (w.alloc (.cells (rowV (regF c' l') 33) 26)).cell? ⟨g, 4, none⟩ = some (.bool false) := (h.next hb0).dev.cell 4
  have HR1 := Lib.hid hr1
  have HB0 := Lib.hid hb0
  have HD0 := Lib.hid (h.next hb0)
  have HSZ := Lib.hid hsz
  have HRL := Lib.hid hr.lt
  have HOL := Lib.hid h.own.lt
  have HBG := Lib.hid (And.intro h.bg h.mg)
  have HBL := Lib.hid hal
  have HON : Hid ((rowV (regF c' l') 33).all (·.oneCell') = true) := Lib.hid (one_reg _ _)
  have HIA := Lib.hid (info_reg (regF c' l'))
  have HAL : Hid (∀ W, Below (w.alloc (.cells (rowV (regF c' l') 33) 26)).heap.size (w.alloc (.cells (rowV (regF c' l') 33) 26)) W → W.cell? ⟨w.heap.size, 0, none⟩ = some (.int .u64 (c' : Int))) := Lib.hid (fun W hW => (hW.cell (p := ⟨w.heap.size, 0, none⟩) (by simp)).trans ((blk_cell hal 0).trans (rowV_at _ (by omega))))
  have HCR : Hid (∀ W, Below (w.alloc (.cells (rowV (regF c' l') 33) 26)).heap.size (w.alloc (.cells (rowV (regF c' l') 33) 26)) W → W.cell? ⟨r, 0, none⟩ = some (.int .u64 (c : Int))) := Lib.hid (fun W hW => (Cells.after HR1.out hW).cell 0 (by omega))
  have hcc : ¬ (c' : Int) ≤ (c : Int) := by omega
  have hccn : ¬ c' ≤ c := by omega
  have HCC := Lib.hid hc
  have HDO := Lib.hid (fun W (hW : RdQ W g bp bm L nc lv nA false u kv av k al) => rdo_any g bp bm L nc lv nA false u kv av k al W hW hu0 hub hk)
  have HAV := Lib.hid hav
  have HGR := Lib.hid hgr
  obtain ⟨rr, hrr⟩ : ∃ z, z = rowV (regF c' l') 33 := ⟨_, rfl⟩
  have HRR := Lib.hid hrr
  rw [← hrr] at k33 k4 HB0 HAL HCR HR1 HD0 HSZ HBL HON HIA
  rw [← hrr]
  clear hr h hb0 hrr hr1 hal hsz hc hav hgr hu0 hub hk
  go_enter Try.func8, Try.ntmps8
  go_wp2_with fail
  generalize w.alloc (.cells rr 26) = V at *
  have HAL' := Lib.hid (fun W (h : After V W) => HAL.out W h)
  have HCR' := Lib.hid (fun W (h : After V W) => HCR.out W h)
  refine wp_region_class (After V) (by kernel_rfl) (by kernel_rfl) (After.drew V) ?_
  repeat (first
    | go_big_quiet_skip
    | (go_big_quiet_want; first
      | (with_reducible refine quiet_cell 22 (.tmp 13) rfl _ _ rfl (.int .u64 (c' : Int)) _ (fun W h => HAL'.out W h) Try.underlying22 rfl ?_; (simp only [Act.put, List.setIfInBounds_toArray, List.set_cons_zero, List.set_cons_succ]); go_big_quiet_on)
      | (with_reducible refine quiet_cell 22 (.tmp 18) rfl _ _ rfl (.int .u64 (c : Int)) _ (fun W h => HCR'.out W h) Try.underlying22 rfl ?_; (simp only [Act.put, List.setIfInBounds_toArray, List.set_cons_zero, List.set_cons_succ]); go_big_quiet_on)
      | (go_big_quiet_op; first
        | go_big_quiet_on
        | ((with_reducible refine ⟨_, fun _ _ => rfl, ?_⟩); go_big_quiet_on)
        | ((with_reducible refine ⟨_, fun _ _ => ⟨rfl, rfl⟩, ?_⟩); go_big_quiet_on))))
  refine wpQuiet_nil ?_
  intro W4 hW4
  have HW4 : Hid (Below V.heap.size V W4) := Lib.hid hW4
  have HR4 : Hid (RgB W4 r g (regF c l)) := Lib.hid (Cells.after HR1.out hW4)
  have HD4 := Lib.hid (HD0.out.next hW4)
  have HBL4 : Hid (W4.heap[w.heap.size]? = some (.cells rr 26 (0, 0))) := Lib.hid ((Below.block hW4 _ (by rw [HSZ.out]; omega)).trans HBL.out)
  have j33 : W4.cell? ⟨r, 33, none⟩ = some (.pointer (some ⟨g, 0, none⟩)) := HR4.out.cell 33 (by omega)
  clear hW4 k33 k4
  go_wp2_with fail
  refine (HDO.out _ HD4.out).mono ?_
  have hs4 : w.heap.size + 1 ≤ W4.heap.size := by have h1 := HSZ.out; have h2 := HW4.out.size; omega
  have HS4 := Lib.hid hs4
  have t0 : ∀ S : Nat → Prop, Turns S w W4 := fun S => Turns.of_below (HB0.out.trans (HW4.out.mono HB0.out.size))
  have HT0 := Lib.hid t0
  clear hs4 t0
  rintro e w2 (⟨h1, _, _⟩ | ⟨_, hu, rfl, hq, ht⟩ | ⟨_, hu, av', rfl, hq, ht, ho⟩)
  · cases h1
  · have HE : Hid (RSetE w r g bp bm L nc c c' l l' lv nA false u kv av k al (.returned (.int .i64 8)) w2) := Lib.hid (by
      refine .inr (.inr (.inl ⟨rfl, HCC.out, hu, rfl, Cells.same HR4.out ht.size (ht.block r (by have := HRL.out; have := HS4.out; omega) (fun q => ?_)), hq, (HT0.out (RdS g bp bm)).trans ht (fun _ _ q => q)⟩))
      have := HBG.out
      have := HGR.out
      rcases q with q | q | q <;> omega)
    clear hq ht hu
    go_wp2
    go_ret
    exact HE.out
  · have hn : ¬ (r = g ∨ av.ownBlock = some r) := fun q => by
      have := HGR.out
      rcases q with q | q
      · omega
      · exact HAV.out q
    have hr2 : RgB w2 r g (regF c l) := Cells.same HR4.out ht.size (ht.block r (by have := HRL.out; have := HS4.out; omega) hn)
    have hbl2 : w2.heap[w.heap.size]? = some (.cells rr 26 (0, 0)) := (ht.block w.heap.size (by have := HS4.out; omega) (fun q => by
      have h1 := HRL.out
      have h2 := HGR.out
      rcases q with q | q
      · omega
      · have := (HOL.out _ q).2; omega)).trans HBL4.out
    have hnr : av'.ownBlock ≠ some r := fun q => by
      rcases ho with q2 | ⟨j, hj, q2⟩
      · exact HAV.out (q2 ▸ q)
      · have h3 : j = r := by rw [q] at q2; exact (Option.some.inj q2).symm
        have h1 := HRL.out
        have h2 := HS4.out
        omega
    have HE : Hid (RSetE w r g bp bm L nc c c' l l' lv nA false u kv av k al (.returned (.int .i64 0)) (w2.setCells r 0 rr.toList)) := Lib.hid (by
      refine .inr (.inr (.inr ⟨rfl, HCC.out, hu, av', rfl, rg_store hr2 HRR.out, ?_, ?_, ?_⟩))
      · have h2 := HGR.out
        have h3 := hq.bg
        have h4 := hq.mg
        refine ⟨(heap_setCells r _ _ _ g (by omega)).trans hq.dev, ?_, (heap_setCells r _ _ _ bp (by omega)).trans hq.pend, (heap_setCells r _ _ _ bm (by omega)).trans hq.mark, h3, h4, hq.pm, hq.L1⟩
        obtain ⟨h1, h2⟩ := hq.own
        refine ⟨h1, ?_⟩
        rcases h2 with h2 | ⟨b9, cap, cur, hv, hbg, hh, hr⟩
        · exact .inl h2
        · exact .inr ⟨b9, cap, cur, hv, hbg, (heap_setCells r _ _ _ b9 (fun q => hnr (by rw [hv, q]; rfl))).trans hh, hr⟩
      · exact ((HT0.out (fun j => j = r ∨ j = g ∨ av.ownBlock = some j)).trans ht (fun j _ q => .inr q)).trans (S' := fun j => j = r) ⟨os_setCells r _ _ _, tape_setCells r _ _ _, output_setCells r _ _ _, by rw [size_setCells]; exact Nat.le_refl _, fun j _ hn => heap_setCells r _ _ _ j hn⟩ (fun j _ q => .inl q)
      · rcases ho with q2 | ⟨j, hj, q2⟩
        · exact .inl q2
        · exact .inr ⟨j, by have := HS4.out; omega, q2⟩)
    have HTH : Hid (w2.there r 0 rr.size) := Lib.hid (hr2.there (by rw [HRR.out, rowV_size]; omega))
    have HBL2 := Lib.hid hbl2
    clear hq ht ho hr2 hbl2 hnr hn hu
    go_wp2_with (first
      | (with_reducible refine wpList_load_row rfl 26 (.tmp 3) rfl _ rfl 26 _ _ _ HBL2.out Try.underlying26 rfl HIA.out ?_)
      | (with_reducible refine wpList_store_mid rfl 26 (.tmp 31) (.tmp 29) rfl r 0 rr rfl rfl HTH.out HIA.out HON.out ?_))
    go_ret
    exact HE.out
theorem rset_any (r g bp bm L nc c c' : Nat) (l l' : List Nat) (lv : Value) (nA : Option Addr) (off : Bool) (u : Int) (kv av : Value) (k : Nat) (al : List Value) (w : World) (hr : RgB w r g (regF c l)) (h : RdQ w g bp bm L nc lv nA off u kv av k al) (hgr : g < r) (hav : av.ownBlock ≠ some r) (hu0 : 0 ≤ u) (hub : u ≤ 9223372036854775807) (hk : k < 1000) :
    Calls Try.prog 8 #[.pointer (some ⟨r, 0, none⟩), .agg (rowV (regF c' l') 33)] w (RSetE w r g bp bm L nc c c' l l' lv nA off u kv av k al) := by
  cases off
  · by_cases hc : c < c'
    · exact rset_act r g bp bm L nc c c' l l' lv nA u kv av k al w hr h hc hgr hav hu0 hub hk
    · refine (rset_low r g bp bm L nc c c' l l' lv nA u kv av k al w hr h (by omega)).mono ?_
      rintro e w' ⟨he, hb⟩
      exact .inr (.inl ⟨rfl, by omega, he, Cells.after hr hb, h.next hb, hb⟩)
  · refine (rset_down r g bp bm L nc c c' l l' lv nA u kv av k al w hr h).mono ?_
    rintro e w' ⟨he, hb⟩
    exact .inl ⟨rfl, he, Cells.after hr hb, h.next hb, hb⟩
end Go.Proofs.Ytbanknppdgiflaa
