/-
  Joined: NwD5, NwD6, NwD7, NwD8, NwD9, NwD10, NwDX, NwF.
-/
import Derived.Test.YthigknolpdohoaaZwD
import Derived.Test.YthigknolpdohoaaNvAA
namespace Go.Proofs.Ythigknolpdohoaa
set_option maxRecDepth 100000
section
open Go.RowKit Go
set_option linter.unusedVariables false
set_option linter.unusedSimpArgs false
set_option maxRecDepth 100000
set_option maxHeartbeats 8000000 in
theorem step_5 (w0 w : World) (z : List (Nat × Obj)) (g b L c : Nat) (r : RI) (s t : DSt) (h : Duo w0 w z g b L c r s t) (hks : s.k < 16384) (hkt : t.k < 16384) (at_ m : Int) (lb lp : List Nat) (B1 B2 : Option Addr) (e1 e2 : Nat) (hb1 : BS w0 w0.heap.size B1 lb.length e1 lb) (hb2 : BS w0 w0.heap.size B2 lp.length e2 lp) (hA1 : B1 = none → e1 = 0) (hA2 : B2 = none → e2 = 0) (hfa : -9223372036854775808 ≤ at_ ∧ at_ ≤ 9223372036854775807) (hfm : -9223372036854775808 ≤ m ∧ m ≤ 9223372036854775807) :
    Calls Try.prog 10 #[.pointer (some ⟨g, 0, none⟩), .pointer (some ⟨r.g, 0, none⟩), .agg #[.int .i64 5, .int .i64 at_, .int .i64 m, .slice B1 lb.length e1, .slice B2 lp.length e2]] w fun e w' => e = .returned (.bool (stB (O8.cut ⟨5, at_, m, lb, lp⟩) L s t)) ∧ Duo w0 w' z g b L c r (stS (O8.cut ⟨5, at_, m, lb, lp⟩) L s) (stS (O8.cut ⟨5, at_, m, lb, lp⟩) L t) := by
  obtain ⟨nb, hnb⟩ : ∃ nb, lb.length = nb := ⟨_, rfl⟩
  obtain ⟨np, hnp⟩ : ∃ np, lp.length = np := ⟨_, rfl⟩
  rw [hnb] at hb1 ⊢
  rw [hnp] at hb2 ⊢
  have HT1 : Hid (BS w0 w0.heap.size B1 (min nb 150) e1 (lb.take 150)) := Lib.hid (cut_bsN 150 hb1)
  have HT2 : Hid (BS w0 w0.heap.size B2 (min np 12) e2 (lp.take 12)) := Lib.hid (cut_bsN 12 hb2)
  have HCC := Lib.hid (fun W => cut8_any 5 at_ m B1 B2 nb e1 np e2 hb1.cap.1 hb2.cap.1 W)
  have HD0 := Lib.hid h
  have HNN := Lib.hid (And.intro hA1 hA2)
  have HFF := Lib.hid (And.intro hfa hfm)
  have HKK := Lib.hid (And.intro hks hkt)
  have HLB : Hid (min nb 150 ≤ 150 ∧ min np 12 ≤ 12 ∧ (lb.take 150).length = min nb 150 ∧ (lp.take 12).length = min np 12) := Lib.hid ⟨Nat.min_le_right _ _, Nat.min_le_right _ _, HT1.out.len, HT2.out.len⟩
  have hX : ∀ wA, Below (w.heap.size + 1) (w.alloc (.cells #[.int .i64 5, .int .i64 at_, .int .i64 m, .slice B1 nb e1, .slice B2 np e2] 30)) wA → wA.heap[w.heap.size]? = some (.cells #[.int .i64 5, .int .i64 at_, .int .i64 m, .slice B1 nb e1, .slice B2 np e2] 30 (0, 0)) := fun wA hb => (hb.block _ (by simp)).trans (heap_alloc_new _ _)
  have HX := Lib.hid hX
  obtain ⟨oc, hoc⟩ : ∃ oc, oc = O8.cut ⟨5, at_, m, lb, lp⟩ := ⟨_, rfl⟩
  rw [← hoc]
  have HOC : Hid (oc = ⟨5, at_, m, lb.take 150, lp.take 12⟩) := Lib.hid hoc
  clear h hks hkt hb1 hb2 hA1 hA2 hfa hfm hX hoc
  go_enter Try.func10, Try.ntmps10
  go_wp2_with fail
  refine (HCC.out _).mono ?_
  rintro e wA ⟨rfl, hb⟩
  have hXA := HX.out wA (by rw [show w.heap.size + 1 = (w.alloc (.cells #[.int .i64 5, .int .i64 at_, .int .i64 m, .slice B1 nb e1, .slice B2 np e2] 30)).heap.size by simp]; exact hb)
  have HBA : Hid (Below w.heap.size w wA) := Lib.hid (((Below.refl _ _).alloc (Nat.le_refl _) _).trans (hb.mono (by simp)))
  clear hb HX HCC
  have hI9 : (Try.prog.info? 30).map (·.size) = some (#[.int .i64 5, .int .i64 at_, .int .i64 m, .slice B1 (min nb 150) e1, .slice B2 (min np 12) e2] : Array Value).size := info_op8
  have hS9 : (#[.int .i64 5, .int .i64 at_, .int .i64 m, .slice B1 nb e1, .slice B2 np e2] : Array Value).size = (#[.int .i64 5, .int .i64 at_, .int .i64 m, .slice B1 (min nb 150) e1, .slice B2 (min np 12) e2] : Array Value).size := rfl
  have hO9 : (#[.int .i64 5, .int .i64 at_, .int .i64 m, .slice B1 (min nb 150) e1, .slice B2 (min np 12) e2] : Array Value).all (·.oneCell') = true := by simp [Value.oneCell']
  generalize lb.take 150 = l1 at *
  generalize lp.take 12 = l2 at *
  generalize min nb 150 = nc at *
  generalize min np 12 = pc at *
  go_wp2_with (refine wpList_store_row rfl 30 (.tmp 5) (.tmp 15) rfl w.heap.size #[.int .i64 5, .int .i64 at_, .int .i64 m, .slice B1 nc e1, .slice B2 pc e2] rfl rfl 30 _ hXA hI9 hS9 hO9 ?_; obtain ⟨wB, hwB⟩ : ∃ wB, wB = wA.setRow w.heap.size #[.int .i64 5, .int .i64 at_, .int .i64 m, .slice B1 nc e1, .slice B2 pc e2] := ⟨_, rfl⟩; rw [← hwB]; have hY : wB.heap[w.heap.size]? = some (.cells #[.int .i64 5, .int .i64 at_, .int .i64 m, .slice B1 nc e1, .slice B2 pc e2] 30 (0, 0)) := (by rw [hwB]; exact setRow_heap _ _ _ _ _ _ hXA); have hWB : Below w.heap.size w wB := (by rw [hwB]; exact below_setRow HBA.out (Nat.le_refl _) _); have HD := Lib.hid (HD0.out.mark hWB (Nat.le_refl _) hY); clear hwB hXA hI9 hS9 hO9 hWB; have y0 : wB.cell? ⟨w.heap.size, 0, none⟩ = some (.int .i64 5) := blk_cell hY 0; have y1 : wB.cell? ⟨w.heap.size, 1, none⟩ = some (.int .i64 at_) := blk_cell hY 1; have y2 : wB.cell? ⟨w.heap.size, 2, none⟩ = some (.int .i64 m) := blk_cell hY 2; have y3 : wB.cell? ⟨w.heap.size, 3, none⟩ = some (.slice B1 nc e1) := blk_cell hY 3; have y4 : wB.cell? ⟨w.heap.size, 4, none⟩ = some (.slice B2 pc e2) := blk_cell hY 4; clear hY)
  refine (HD.out.doP (fun av pv hp hlt hz => fence_P g b L c av pv s _ hp HKK.out.1)).mono ?_
  rintro e x1 ⟨rfl, hd⟩
  have HD1 := Lib.hid hd
  clear hd
  go_wp2_with fail
  refine (HD1.out.doR (fun N M kv av2 pl hp hlt hz => fence_R r L N M kv av2 pl t _ hp HKK.out.2 hp.w.sz.2.2)).mono ?_
  rintro e x2 ⟨rfl, hd⟩
  have HD2 := Lib.hid hd
  clear hd
  have HF : Hid (Duo w0 x2 z g b L c r (stS oc L s) (stS oc L t)) := Lib.hid (by
    rw [HOC.out]
    have eS : ∀ q : DSt, stS ⟨5, at_, m, l1, l2⟩ L q = actS q L 3 0 0 (turnW (fun _ => Wd.fe) 0 (8 * L) q.ws) := fun q => by simp [stS]
    rw [eS, eS]
    exact HD2.out.sub (fun x hx => List.mem_cons_of_mem _ hx))
  have HV : Hid (stB oc L s t = (actE s L 0 0 == actE t L 0 0)) := Lib.hid (by
    rw [HOC.out]
    simp [stB])
  go_wp2
  go_ret
  refine ⟨?_, HF.out⟩
  rw [HV.out]
  rfl
end
section
open Go.RowKit Go
set_option linter.unusedVariables false
set_option linter.unusedSimpArgs false
set_option maxRecDepth 100000
set_option maxHeartbeats 8000000 in
theorem step_6 (w0 w : World) (z : List (Nat × Obj)) (g b L c : Nat) (r : RI) (s t : DSt) (h : Duo w0 w z g b L c r s t) (hks : s.k < 16384) (hkt : t.k < 16384) (at_ m : Int) (lb lp : List Nat) (B1 B2 : Option Addr) (e1 e2 : Nat) (hb1 : BS w0 w0.heap.size B1 lb.length e1 lb) (hb2 : BS w0 w0.heap.size B2 lp.length e2 lp) (hA1 : B1 = none → e1 = 0) (hA2 : B2 = none → e2 = 0) (hfa : -9223372036854775808 ≤ at_ ∧ at_ ≤ 9223372036854775807) (hfm : -9223372036854775808 ≤ m ∧ m ≤ 9223372036854775807) :
    Calls Try.prog 10 #[.pointer (some ⟨g, 0, none⟩), .pointer (some ⟨r.g, 0, none⟩), .agg #[.int .i64 6, .int .i64 at_, .int .i64 m, .slice B1 lb.length e1, .slice B2 lp.length e2]] w fun e w' => e = .returned (.bool (stB (O8.cut ⟨6, at_, m, lb, lp⟩) L s t)) ∧ Duo w0 w' z g b L c r (stS (O8.cut ⟨6, at_, m, lb, lp⟩) L s) (stS (O8.cut ⟨6, at_, m, lb, lp⟩) L t) := by
  obtain ⟨nb, hnb⟩ : ∃ nb, lb.length = nb := ⟨_, rfl⟩
  obtain ⟨np, hnp⟩ : ∃ np, lp.length = np := ⟨_, rfl⟩
  rw [hnb] at hb1 ⊢
  rw [hnp] at hb2 ⊢
  have HT1 : Hid (BS w0 w0.heap.size B1 (min nb 150) e1 (lb.take 150)) := Lib.hid (cut_bsN 150 hb1)
  have HT2 : Hid (BS w0 w0.heap.size B2 (min np 12) e2 (lp.take 12)) := Lib.hid (cut_bsN 12 hb2)
  have HCC := Lib.hid (fun W => cut8_any 6 at_ m B1 B2 nb e1 np e2 hb1.cap.1 hb2.cap.1 W)
  have HD0 := Lib.hid h
  have HNN := Lib.hid (And.intro hA1 hA2)
  have HFF := Lib.hid (And.intro hfa hfm)
  have HKK := Lib.hid (And.intro hks hkt)
  have HLB : Hid (min nb 150 ≤ 150 ∧ min np 12 ≤ 12 ∧ (lb.take 150).length = min nb 150 ∧ (lp.take 12).length = min np 12) := Lib.hid ⟨Nat.min_le_right _ _, Nat.min_le_right _ _, HT1.out.len, HT2.out.len⟩
  have hX : ∀ wA, Below (w.heap.size + 1) (w.alloc (.cells #[.int .i64 6, .int .i64 at_, .int .i64 m, .slice B1 nb e1, .slice B2 np e2] 30)) wA → wA.heap[w.heap.size]? = some (.cells #[.int .i64 6, .int .i64 at_, .int .i64 m, .slice B1 nb e1, .slice B2 np e2] 30 (0, 0)) := fun wA hb => (hb.block _ (by simp)).trans (heap_alloc_new _ _)
  have HX := Lib.hid hX
  obtain ⟨oc, hoc⟩ : ∃ oc, oc = O8.cut ⟨6, at_, m, lb, lp⟩ := ⟨_, rfl⟩
  rw [← hoc]
  have HOC : Hid (oc = ⟨6, at_, m, lb.take 150, lp.take 12⟩) := Lib.hid hoc
  clear h hks hkt hb1 hb2 hA1 hA2 hfa hfm hX hoc
  go_enter Try.func10, Try.ntmps10
  go_wp2_with fail
  refine (HCC.out _).mono ?_
  rintro e wA ⟨rfl, hb⟩
  have hXA := HX.out wA (by rw [show w.heap.size + 1 = (w.alloc (.cells #[.int .i64 6, .int .i64 at_, .int .i64 m, .slice B1 nb e1, .slice B2 np e2] 30)).heap.size by simp]; exact hb)
  have HBA : Hid (Below w.heap.size w wA) := Lib.hid (((Below.refl _ _).alloc (Nat.le_refl _) _).trans (hb.mono (by simp)))
  clear hb HX HCC
  have hI9 : (Try.prog.info? 30).map (·.size) = some (#[.int .i64 6, .int .i64 at_, .int .i64 m, .slice B1 (min nb 150) e1, .slice B2 (min np 12) e2] : Array Value).size := info_op8
  have hS9 : (#[.int .i64 6, .int .i64 at_, .int .i64 m, .slice B1 nb e1, .slice B2 np e2] : Array Value).size = (#[.int .i64 6, .int .i64 at_, .int .i64 m, .slice B1 (min nb 150) e1, .slice B2 (min np 12) e2] : Array Value).size := rfl
  have hO9 : (#[.int .i64 6, .int .i64 at_, .int .i64 m, .slice B1 (min nb 150) e1, .slice B2 (min np 12) e2] : Array Value).all (·.oneCell') = true := by simp [Value.oneCell']
  generalize lb.take 150 = l1 at *
  generalize lp.take 12 = l2 at *
  generalize min nb 150 = nc at *
  generalize min np 12 = pc at *
  go_wp2_with (refine wpList_store_row rfl 30 (.tmp 5) (.tmp 15) rfl w.heap.size #[.int .i64 6, .int .i64 at_, .int .i64 m, .slice B1 nc e1, .slice B2 pc e2] rfl rfl 30 _ hXA hI9 hS9 hO9 ?_; obtain ⟨wB, hwB⟩ : ∃ wB, wB = wA.setRow w.heap.size #[.int .i64 6, .int .i64 at_, .int .i64 m, .slice B1 nc e1, .slice B2 pc e2] := ⟨_, rfl⟩; rw [← hwB]; have hY : wB.heap[w.heap.size]? = some (.cells #[.int .i64 6, .int .i64 at_, .int .i64 m, .slice B1 nc e1, .slice B2 pc e2] 30 (0, 0)) := (by rw [hwB]; exact setRow_heap _ _ _ _ _ _ hXA); have hWB : Below w.heap.size w wB := (by rw [hwB]; exact below_setRow HBA.out (Nat.le_refl _) _); have HD := Lib.hid (HD0.out.mark hWB (Nat.le_refl _) hY); clear hwB hXA hI9 hS9 hO9 hWB; have y0 : wB.cell? ⟨w.heap.size, 0, none⟩ = some (.int .i64 6) := blk_cell hY 0; have y1 : wB.cell? ⟨w.heap.size, 1, none⟩ = some (.int .i64 at_) := blk_cell hY 1; have y2 : wB.cell? ⟨w.heap.size, 2, none⟩ = some (.int .i64 m) := blk_cell hY 2; have y3 : wB.cell? ⟨w.heap.size, 3, none⟩ = some (.slice B1 nc e1) := blk_cell hY 3; have y4 : wB.cell? ⟨w.heap.size, 4, none⟩ = some (.slice B2 pc e2) := blk_cell hY 4; clear hY)
  refine (HD.out.doP (fun av pv hp hlt hz => do4_P g b L c av pv s _ hp HKK.out.1)).mono ?_
  rintro e x1 ⟨rfl, hd⟩
  have HD1 := Lib.hid hd
  clear hd
  go_wp2_with fail
  refine (HD1.out.doR (fun N M kv av2 pl hp hlt hz => do4_R r L N M kv av2 pl t _ hp HKK.out.2 hp.w.sz.2.2)).mono ?_
  rintro e x2 ⟨rfl, hd⟩
  have HD2 := Lib.hid hd
  clear hd
  have HF : Hid (Duo w0 x2 z g b L c r (stS oc L s) (stS oc L t)) := Lib.hid (by
    rw [HOC.out]
    have eS : ∀ q : DSt, stS ⟨6, at_, m, l1, l2⟩ L q = actS q L 4 0 0 q.ws := fun q => by simp [stS]
    rw [eS, eS]
    exact HD2.out.sub (fun x hx => List.mem_cons_of_mem _ hx))
  have HV : Hid (stB oc L s t = (actE s L 0 0 == actE t L 0 0)) := Lib.hid (by
    rw [HOC.out]
    simp [stB])
  go_wp2
  go_ret
  refine ⟨?_, HF.out⟩
  rw [HV.out]
  rfl
end
section
open Go.RowKit Go
set_option linter.unusedVariables false
set_option linter.unusedSimpArgs false
set_option maxRecDepth 100000
set_option maxHeartbeats 8000000 in
theorem step_7 (w0 w : World) (z : List (Nat × Obj)) (g b L c : Nat) (r : RI) (s t : DSt) (h : Duo w0 w z g b L c r s t) (hks : s.k < 16384) (hkt : t.k < 16384) (at_ m : Int) (lb lp : List Nat) (B1 B2 : Option Addr) (e1 e2 : Nat) (hb1 : BS w0 w0.heap.size B1 lb.length e1 lb) (hb2 : BS w0 w0.heap.size B2 lp.length e2 lp) (hA1 : B1 = none → e1 = 0) (hA2 : B2 = none → e2 = 0) (hfa : -9223372036854775808 ≤ at_ ∧ at_ ≤ 9223372036854775807) (hfm : -9223372036854775808 ≤ m ∧ m ≤ 9223372036854775807) :
    Calls Try.prog 10 #[.pointer (some ⟨g, 0, none⟩), .pointer (some ⟨r.g, 0, none⟩), .agg #[.int .i64 7, .int .i64 at_, .int .i64 m, .slice B1 lb.length e1, .slice B2 lp.length e2]] w fun e w' => e = .returned (.bool (stB (O8.cut ⟨7, at_, m, lb, lp⟩) L s t)) ∧ Duo w0 w' z g b L c r (stS (O8.cut ⟨7, at_, m, lb, lp⟩) L s) (stS (O8.cut ⟨7, at_, m, lb, lp⟩) L t) := by
  obtain ⟨nb, hnb⟩ : ∃ nb, lb.length = nb := ⟨_, rfl⟩
  obtain ⟨np, hnp⟩ : ∃ np, lp.length = np := ⟨_, rfl⟩
  rw [hnb] at hb1 ⊢
  rw [hnp] at hb2 ⊢
  have HT1 : Hid (BS w0 w0.heap.size B1 (min nb 150) e1 (lb.take 150)) := Lib.hid (cut_bsN 150 hb1)
  have HT2 : Hid (BS w0 w0.heap.size B2 (min np 12) e2 (lp.take 12)) := Lib.hid (cut_bsN 12 hb2)
  have HCC := Lib.hid (fun W => cut8_any 7 at_ m B1 B2 nb e1 np e2 hb1.cap.1 hb2.cap.1 W)
  have HD0 := Lib.hid h
  have HNN := Lib.hid (And.intro hA1 hA2)
  have HFF := Lib.hid (And.intro hfa hfm)
  have HKK := Lib.hid (And.intro hks hkt)
  have HLB : Hid (min nb 150 ≤ 150 ∧ min np 12 ≤ 12 ∧ (lb.take 150).length = min nb 150 ∧ (lp.take 12).length = min np 12) := Lib.hid ⟨Nat.min_le_right _ _, Nat.min_le_right _ _, HT1.out.len, HT2.out.len⟩
  have hX : ∀ wA, Below (w.heap.size + 1) (w.alloc (.cells #[.int .i64 7, .int .i64 at_, .int .i64 m, .slice B1 nb e1, .slice B2 np e2] 30)) wA → wA.heap[w.heap.size]? = some (.cells #[.int .i64 7, .int .i64 at_, .int .i64 m, .slice B1 nb e1, .slice B2 np e2] 30 (0, 0)) := fun wA hb => (hb.block _ (by simp)).trans (heap_alloc_new _ _)
  have HX := Lib.hid hX
  obtain ⟨oc, hoc⟩ : ∃ oc, oc = O8.cut ⟨7, at_, m, lb, lp⟩ := ⟨_, rfl⟩
  rw [← hoc]
  have HOC : Hid (oc = ⟨7, at_, m, lb.take 150, lp.take 12⟩) := Lib.hid hoc
  clear h hks hkt hb1 hb2 hA1 hA2 hfa hfm hX hoc
  go_enter Try.func10, Try.ntmps10
  go_wp2_with fail
  refine (HCC.out _).mono ?_
  rintro e wA ⟨rfl, hb⟩
  have hXA := HX.out wA (by rw [show w.heap.size + 1 = (w.alloc (.cells #[.int .i64 7, .int .i64 at_, .int .i64 m, .slice B1 nb e1, .slice B2 np e2] 30)).heap.size by simp]; exact hb)
  have HBA : Hid (Below w.heap.size w wA) := Lib.hid (((Below.refl _ _).alloc (Nat.le_refl _) _).trans (hb.mono (by simp)))
  clear hb HX HCC
  have hI9 : (Try.prog.info? 30).map (·.size) = some (#[.int .i64 7, .int .i64 at_, .int .i64 m, .slice B1 (min nb 150) e1, .slice B2 (min np 12) e2] : Array Value).size := info_op8
  have hS9 : (#[.int .i64 7, .int .i64 at_, .int .i64 m, .slice B1 nb e1, .slice B2 np e2] : Array Value).size = (#[.int .i64 7, .int .i64 at_, .int .i64 m, .slice B1 (min nb 150) e1, .slice B2 (min np 12) e2] : Array Value).size := rfl
  have hO9 : (#[.int .i64 7, .int .i64 at_, .int .i64 m, .slice B1 (min nb 150) e1, .slice B2 (min np 12) e2] : Array Value).all (·.oneCell') = true := by simp [Value.oneCell']
  generalize lb.take 150 = l1 at *
  generalize lp.take 12 = l2 at *
  generalize min nb 150 = nc at *
  generalize min np 12 = pc at *
  go_wp2_with (refine wpList_store_row rfl 30 (.tmp 5) (.tmp 15) rfl w.heap.size #[.int .i64 7, .int .i64 at_, .int .i64 m, .slice B1 nc e1, .slice B2 pc e2] rfl rfl 30 _ hXA hI9 hS9 hO9 ?_; obtain ⟨wB, hwB⟩ : ∃ wB, wB = wA.setRow w.heap.size #[.int .i64 7, .int .i64 at_, .int .i64 m, .slice B1 nc e1, .slice B2 pc e2] := ⟨_, rfl⟩; rw [← hwB]; have hY : wB.heap[w.heap.size]? = some (.cells #[.int .i64 7, .int .i64 at_, .int .i64 m, .slice B1 nc e1, .slice B2 pc e2] 30 (0, 0)) := (by rw [hwB]; exact setRow_heap _ _ _ _ _ _ hXA); have hWB : Below w.heap.size w wB := (by rw [hwB]; exact below_setRow HBA.out (Nat.le_refl _) _); have HD := Lib.hid (HD0.out.mark hWB (Nat.le_refl _) hY); clear hwB hXA hI9 hS9 hO9 hWB; have y0 : wB.cell? ⟨w.heap.size, 0, none⟩ = some (.int .i64 7) := blk_cell hY 0; have y1 : wB.cell? ⟨w.heap.size, 1, none⟩ = some (.int .i64 at_) := blk_cell hY 1; have y2 : wB.cell? ⟨w.heap.size, 2, none⟩ = some (.int .i64 m) := blk_cell hY 2; have y3 : wB.cell? ⟨w.heap.size, 3, none⟩ = some (.slice B1 nc e1) := blk_cell hY 3; have y4 : wB.cell? ⟨w.heap.size, 4, none⟩ = some (.slice B2 pc e2) := blk_cell hY 4; clear hY)
  refine (HD.out.doP (fun av pv hp hlt hz => crash_P g b L c pc e2 B2 l2 av pv s _ hp (bs_now HT2.out HD.out.under) (ps_off (far_low HT2.out (fun j q => (hlt j q).1))))).mono ?_
  rintro e x1 ⟨rfl, hd⟩
  have HD1 := Lib.hid hd
  have hX5 := hd.has (List.mem_cons_self ..)
  have p1 : x1.cell? ⟨w.heap.size, 1, none⟩ = some (.int .i64 at_) := blk_cell hX5 1
  have p2 : x1.cell? ⟨w.heap.size, 2, none⟩ = some (.int .i64 m) := blk_cell hX5 2
  have p3 : x1.cell? ⟨w.heap.size, 3, none⟩ = some (.slice B1 nc e1) := blk_cell hX5 3
  have p4 : x1.cell? ⟨w.heap.size, 4, none⟩ = some (.slice B2 pc e2) := blk_cell hX5 4
  clear hX5
  clear hd
  go_wp2_with fail
  refine (HD1.out.doR (fun N M kv av2 pl hp hlt hz => crash_R r L N M pc e2 kv av2 pl t B2 l2 _ hp (bs_now HT2.out HD1.out.under) (by have := HLB.out; omega) (fun h0 ad e q => far_low HT2.out (S := RS r kv av2) (fun j q => (hlt j q).1) h0 ad e (r5_rs r kv av2 q)))).mono ?_
  rintro e x2 ⟨rfl, hd⟩
  have HD2 := Lib.hid hd
  have hX6 := hd.has (List.mem_cons_self ..)
  have q1 : x2.cell? ⟨w.heap.size, 1, none⟩ = some (.int .i64 at_) := blk_cell hX6 1
  have q2 : x2.cell? ⟨w.heap.size, 2, none⟩ = some (.int .i64 m) := blk_cell hX6 2
  have q3 : x2.cell? ⟨w.heap.size, 3, none⟩ = some (.slice B1 nc e1) := blk_cell hX6 3
  have q4 : x2.cell? ⟨w.heap.size, 4, none⟩ = some (.slice B2 pc e2) := blk_cell hX6 4
  clear hX6
  clear hd
  obtain ⟨sp, hsp⟩ : ∃ sp, sp = stS oc L s := ⟨_, rfl⟩
  obtain ⟨tp, htp⟩ : ∃ tp, tp = stS oc L t := ⟨_, rfl⟩
  have HSP := Lib.hid (And.intro hsp htp)
  have HDL : Hid (Duo w0 x2 _ g b L c r sp tp) := Lib.hid (by
    have eS : ∀ q : DSt, stS ⟨7, at_, m, l1, l2⟩ L q = q.crash L l2 := fun q => by simp [stS]
    rw [hsp, htp, HOC.out, eS, eS]
    exact HD2.out)
  clear hsp htp
  obtain ⟨av, pv, kv, av2, pl, N, M, hp, hr, _⟩ := HDL.out
  have HLP := Lib.hid (load_P g b L c at_ m av pv sp x2 hp)
  have HRV := Lib.hid hr
  obtain ⟨zs, hzs⟩ : ∃ zs, zs = refS8 L sp.off at_ m := ⟨_, rfl⟩
  obtain ⟨zt, hzt⟩ : ∃ zt, zt = refS8 L tp.off at_ m := ⟨_, rfl⟩
  obtain ⟨TS, hTS⟩ : ∃ TS, TS = ldL sp L at_ m := ⟨_, rfl⟩
  obtain ⟨TT, hTT⟩ : ∃ TT, TT = ldL tp L at_ m := ⟨_, rfl⟩
  have HTS : Hid (∀ i, TS.getD i 0 < 256) := Lib.hid (by rw [hTS]; exact ldL_b hp.m.mem.1 _ _ _)
  have HTT : Hid (∀ i, TT.getD i 0 < 256) := Lib.hid (by rw [hTT]; exact ldL_b hr.ok _ _ _)
  rw [← hzs, ← hTS] at HLP
  have HQZ := Lib.hid (And.intro hzs (And.intro hzt (And.intro hTS hTT)))
  have HVV : Hid (stB oc L s t = ((zs == zt) && ((str TS).toList == (str TT).toList))) := Lib.hid (by
    rw [hzs, hzt, hTS, hTT, HSP.out.1, HSP.out.2, HOC.out]
    unfold stB
    rw [if_neg (by show ¬ ((7 : Int) = 0 ∨ (7 : Int) = 1 ∨ (7 : Int) = 2); omega), if_neg (by show ¬ ((7 : Int) = 3 ∨ (7 : Int) = 4); omega), if_neg (by show ¬ ((7 : Int) = 5 ∨ (7 : Int) = 6); omega), if_neg (by show ¬ (7 : Int) = 10; omega)])
  clear hp hr hzs hzt hTS hTT
  go_wp2_with fail
  refine HLP.out.mono ?_
  rintro e x8 ⟨v8, rfl, ho8, hb8⟩
  have hd8 := HDL.out.next hb8
  have hX8 := hd8.has (List.mem_cons_self ..)
  have r1 : x8.cell? ⟨w.heap.size, 1, none⟩ = some (.int .i64 at_) := blk_cell hX8 1
  have r2 : x8.cell? ⟨w.heap.size, 2, none⟩ = some (.int .i64 m) := blk_cell hX8 2
  have r3 : x8.cell? ⟨w.heap.size, 3, none⟩ = some (.slice B1 nc e1) := blk_cell hX8 3
  have r4 : x8.cell? ⟨w.heap.size, 4, none⟩ = some (.slice B2 pc e2) := blk_cell hX8 4
  clear hX8
  have HD8 := Lib.hid hd8
  have hlr := load_R r L N M kv av2 pl tp at_ m HFF.out.2 x8 (HRV.out.next hb8)
  rw [← HQZ.out.2.1, ← HQZ.out.2.2.2] at hlr
  have HLR := Lib.hid hlr
  obtain ⟨A8, c8, rfl, hs8⟩ := ho8.bs HTS.out
  have HS8 := Lib.hid hs8
  clear hd8 ho8 hb8 hs8 hlr HLP
  obtain ⟨m8, hm8⟩ : ∃ m8, TS.length = m8 := ⟨_, rfl⟩
  rw [hm8] at HS8 ⊢
  clear hm8
  go_wp2_with fail
  refine HLR.out.mono ?_
  rintro e x9 ⟨v9, rfl, ho9, hb9⟩
  have HD9 := Lib.hid (HD8.out.next hb9)
  obtain ⟨A9, c9, rfl, hs9⟩ := ho9.bs HTT.out
  have hc8 : (convert 28 9 (.slice A8 m8 c8)).run Try.prog x9 = .ok (.string (str TS)) x9 := ((HS8.out.below hb9).more hb9.size).conv _ 5 _ Try.underlying28 Try.underlying5 Try.underlying9
  have hc9 : (convert 28 9 (.slice A9 TT.length c9)).run Try.prog x9 = .ok (.string (str TT)) x9 := hs9.conv _ 5 _ Try.underlying28 Try.underlying5 Try.underlying9
  have HF : Hid (Duo w0 x9 z g b L c r (stS oc L s) (stS oc L t)) := Lib.hid (by rw [← HSP.out.1, ← HSP.out.2]; exact HD9.out.sub (fun x hx => List.mem_cons_of_mem _ hx))
  clear ho9 hb9 hs9 HLR
  generalize str TS = XS at *
  generalize str TT = XT at *
  generalize TT.length = m9 at *
  by_cases he : (zs == zt) = true
  · go_wp2
    go_ret
    refine ⟨?_, HF.out⟩
    rw [HVV.out, he, Bool.true_and]
    rfl
  · have he2 : (zs == zt) = false := Bool.eq_false_iff.mpr he
    clear he
    go_wp2
    go_ret
    refine ⟨?_, HF.out⟩
    rw [HVV.out, he2, Bool.false_and]
    rfl
end
section
open Go.RowKit Go
set_option linter.unusedVariables false
set_option linter.unusedSimpArgs false
set_option maxRecDepth 100000
set_option maxHeartbeats 8000000 in
theorem step_8 (w0 w : World) (z : List (Nat × Obj)) (g b L c : Nat) (r : RI) (s t : DSt) (h : Duo w0 w z g b L c r s t) (hks : s.k < 16384) (hkt : t.k < 16384) (at_ m : Int) (lb lp : List Nat) (B1 B2 : Option Addr) (e1 e2 : Nat) (hb1 : BS w0 w0.heap.size B1 lb.length e1 lb) (hb2 : BS w0 w0.heap.size B2 lp.length e2 lp) (hA1 : B1 = none → e1 = 0) (hA2 : B2 = none → e2 = 0) (hfa : -9223372036854775808 ≤ at_ ∧ at_ ≤ 9223372036854775807) (hfm : -9223372036854775808 ≤ m ∧ m ≤ 9223372036854775807) :
    Calls Try.prog 10 #[.pointer (some ⟨g, 0, none⟩), .pointer (some ⟨r.g, 0, none⟩), .agg #[.int .i64 8, .int .i64 at_, .int .i64 m, .slice B1 lb.length e1, .slice B2 lp.length e2]] w fun e w' => e = .returned (.bool (stB (O8.cut ⟨8, at_, m, lb, lp⟩) L s t)) ∧ Duo w0 w' z g b L c r (stS (O8.cut ⟨8, at_, m, lb, lp⟩) L s) (stS (O8.cut ⟨8, at_, m, lb, lp⟩) L t) := by
  obtain ⟨nb, hnb⟩ : ∃ nb, lb.length = nb := ⟨_, rfl⟩
  obtain ⟨np, hnp⟩ : ∃ np, lp.length = np := ⟨_, rfl⟩
  rw [hnb] at hb1 ⊢
  rw [hnp] at hb2 ⊢
  have HT1 : Hid (BS w0 w0.heap.size B1 (min nb 150) e1 (lb.take 150)) := Lib.hid (cut_bsN 150 hb1)
  have HT2 : Hid (BS w0 w0.heap.size B2 (min np 12) e2 (lp.take 12)) := Lib.hid (cut_bsN 12 hb2)
  have HCC := Lib.hid (fun W => cut8_any 8 at_ m B1 B2 nb e1 np e2 hb1.cap.1 hb2.cap.1 W)
  have HD0 := Lib.hid h
  have HNN := Lib.hid (And.intro hA1 hA2)
  have HFF := Lib.hid (And.intro hfa hfm)
  have HKK := Lib.hid (And.intro hks hkt)
  have HLB : Hid (min nb 150 ≤ 150 ∧ min np 12 ≤ 12 ∧ (lb.take 150).length = min nb 150 ∧ (lp.take 12).length = min np 12) := Lib.hid ⟨Nat.min_le_right _ _, Nat.min_le_right _ _, HT1.out.len, HT2.out.len⟩
  have hX : ∀ wA, Below (w.heap.size + 1) (w.alloc (.cells #[.int .i64 8, .int .i64 at_, .int .i64 m, .slice B1 nb e1, .slice B2 np e2] 30)) wA → wA.heap[w.heap.size]? = some (.cells #[.int .i64 8, .int .i64 at_, .int .i64 m, .slice B1 nb e1, .slice B2 np e2] 30 (0, 0)) := fun wA hb => (hb.block _ (by simp)).trans (heap_alloc_new _ _)
  have HX := Lib.hid hX
  obtain ⟨oc, hoc⟩ : ∃ oc, oc = O8.cut ⟨8, at_, m, lb, lp⟩ := ⟨_, rfl⟩
  rw [← hoc]
  have HOC : Hid (oc = ⟨8, at_, m, lb.take 150, lp.take 12⟩) := Lib.hid hoc
  clear h hks hkt hb1 hb2 hA1 hA2 hfa hfm hX hoc
  go_enter Try.func10, Try.ntmps10
  go_wp2_with fail
  refine (HCC.out _).mono ?_
  rintro e wA ⟨rfl, hb⟩
  have hXA := HX.out wA (by rw [show w.heap.size + 1 = (w.alloc (.cells #[.int .i64 8, .int .i64 at_, .int .i64 m, .slice B1 nb e1, .slice B2 np e2] 30)).heap.size by simp]; exact hb)
  have HBA : Hid (Below w.heap.size w wA) := Lib.hid (((Below.refl _ _).alloc (Nat.le_refl _) _).trans (hb.mono (by simp)))
  clear hb HX HCC
  have hI9 : (Try.prog.info? 30).map (·.size) = some (#[.int .i64 8, .int .i64 at_, .int .i64 m, .slice B1 (min nb 150) e1, .slice B2 (min np 12) e2] : Array Value).size := info_op8
  have hS9 : (#[.int .i64 8, .int .i64 at_, .int .i64 m, .slice B1 nb e1, .slice B2 np e2] : Array Value).size = (#[.int .i64 8, .int .i64 at_, .int .i64 m, .slice B1 (min nb 150) e1, .slice B2 (min np 12) e2] : Array Value).size := rfl
  have hO9 : (#[.int .i64 8, .int .i64 at_, .int .i64 m, .slice B1 (min nb 150) e1, .slice B2 (min np 12) e2] : Array Value).all (·.oneCell') = true := by simp [Value.oneCell']
  generalize lb.take 150 = l1 at *
  generalize lp.take 12 = l2 at *
  generalize min nb 150 = nc at *
  generalize min np 12 = pc at *
  go_wp2_with (refine wpList_store_row rfl 30 (.tmp 5) (.tmp 15) rfl w.heap.size #[.int .i64 8, .int .i64 at_, .int .i64 m, .slice B1 nc e1, .slice B2 pc e2] rfl rfl 30 _ hXA hI9 hS9 hO9 ?_; obtain ⟨wB, hwB⟩ : ∃ wB, wB = wA.setRow w.heap.size #[.int .i64 8, .int .i64 at_, .int .i64 m, .slice B1 nc e1, .slice B2 pc e2] := ⟨_, rfl⟩; rw [← hwB]; have hY : wB.heap[w.heap.size]? = some (.cells #[.int .i64 8, .int .i64 at_, .int .i64 m, .slice B1 nc e1, .slice B2 pc e2] 30 (0, 0)) := (by rw [hwB]; exact setRow_heap _ _ _ _ _ _ hXA); have hWB : Below w.heap.size w wB := (by rw [hwB]; exact below_setRow HBA.out (Nat.le_refl _) _); have HD := Lib.hid (HD0.out.mark hWB (Nat.le_refl _) hY); clear hwB hXA hI9 hS9 hO9 hWB; have y0 : wB.cell? ⟨w.heap.size, 0, none⟩ = some (.int .i64 8) := blk_cell hY 0; have y1 : wB.cell? ⟨w.heap.size, 1, none⟩ = some (.int .i64 at_) := blk_cell hY 1; have y2 : wB.cell? ⟨w.heap.size, 2, none⟩ = some (.int .i64 m) := blk_cell hY 2; have y3 : wB.cell? ⟨w.heap.size, 3, none⟩ = some (.slice B1 nc e1) := blk_cell hY 3; have y4 : wB.cell? ⟨w.heap.size, 4, none⟩ = some (.slice B2 pc e2) := blk_cell hY 4; clear hY)
  refine (HD.out.doP (fun av pv hp hlt hz => on_P g b L c av pv s _ hp)).mono ?_
  rintro e x1 ⟨rfl, hd⟩
  have HD1 := Lib.hid hd
  have hX5 := hd.has (List.mem_cons_self ..)
  have p1 : x1.cell? ⟨w.heap.size, 1, none⟩ = some (.int .i64 at_) := blk_cell hX5 1
  have p2 : x1.cell? ⟨w.heap.size, 2, none⟩ = some (.int .i64 m) := blk_cell hX5 2
  have p3 : x1.cell? ⟨w.heap.size, 3, none⟩ = some (.slice B1 nc e1) := blk_cell hX5 3
  have p4 : x1.cell? ⟨w.heap.size, 4, none⟩ = some (.slice B2 pc e2) := blk_cell hX5 4
  clear hX5
  clear hd
  go_wp2_with fail
  refine (HD1.out.doR (fun N M kv av2 pl hp hlt hz => on_R r L N M kv av2 pl t _ hp)).mono ?_
  rintro e x2 ⟨rfl, hd⟩
  have HD2 := Lib.hid hd
  have hX6 := hd.has (List.mem_cons_self ..)
  have q1 : x2.cell? ⟨w.heap.size, 1, none⟩ = some (.int .i64 at_) := blk_cell hX6 1
  have q2 : x2.cell? ⟨w.heap.size, 2, none⟩ = some (.int .i64 m) := blk_cell hX6 2
  have q3 : x2.cell? ⟨w.heap.size, 3, none⟩ = some (.slice B1 nc e1) := blk_cell hX6 3
  have q4 : x2.cell? ⟨w.heap.size, 4, none⟩ = some (.slice B2 pc e2) := blk_cell hX6 4
  clear hX6
  clear hd
  obtain ⟨sp, hsp⟩ : ∃ sp, sp = stS oc L s := ⟨_, rfl⟩
  obtain ⟨tp, htp⟩ : ∃ tp, tp = stS oc L t := ⟨_, rfl⟩
  have HSP := Lib.hid (And.intro hsp htp)
  have HDL : Hid (Duo w0 x2 _ g b L c r sp tp) := Lib.hid (by
    have eS : ∀ q : DSt, stS ⟨8, at_, m, l1, l2⟩ L q = q.on := fun q => by simp [stS]
    rw [hsp, htp, HOC.out, eS, eS]
    exact HD2.out)
  clear hsp htp
  obtain ⟨av, pv, kv, av2, pl, N, M, hp, hr, _⟩ := HDL.out
  have HLP := Lib.hid (load_P g b L c at_ m av pv sp x2 hp)
  have HRV := Lib.hid hr
  obtain ⟨zs, hzs⟩ : ∃ zs, zs = refS8 L sp.off at_ m := ⟨_, rfl⟩
  obtain ⟨zt, hzt⟩ : ∃ zt, zt = refS8 L tp.off at_ m := ⟨_, rfl⟩
  obtain ⟨TS, hTS⟩ : ∃ TS, TS = ldL sp L at_ m := ⟨_, rfl⟩
  obtain ⟨TT, hTT⟩ : ∃ TT, TT = ldL tp L at_ m := ⟨_, rfl⟩
  have HTS : Hid (∀ i, TS.getD i 0 < 256) := Lib.hid (by rw [hTS]; exact ldL_b hp.m.mem.1 _ _ _)
  have HTT : Hid (∀ i, TT.getD i 0 < 256) := Lib.hid (by rw [hTT]; exact ldL_b hr.ok _ _ _)
  rw [← hzs, ← hTS] at HLP
  have HQZ := Lib.hid (And.intro hzs (And.intro hzt (And.intro hTS hTT)))
  have HVV : Hid (stB oc L s t = ((zs == zt) && ((str TS).toList == (str TT).toList))) := Lib.hid (by
    rw [hzs, hzt, hTS, hTT, HSP.out.1, HSP.out.2, HOC.out]
    unfold stB
    rw [if_neg (by show ¬ ((8 : Int) = 0 ∨ (8 : Int) = 1 ∨ (8 : Int) = 2); omega), if_neg (by show ¬ ((8 : Int) = 3 ∨ (8 : Int) = 4); omega), if_neg (by show ¬ ((8 : Int) = 5 ∨ (8 : Int) = 6); omega), if_neg (by show ¬ (8 : Int) = 10; omega)])
  clear hp hr hzs hzt hTS hTT
  go_wp2_with fail
  refine HLP.out.mono ?_
  rintro e x8 ⟨v8, rfl, ho8, hb8⟩
  have hd8 := HDL.out.next hb8
  have hX8 := hd8.has (List.mem_cons_self ..)
  have r1 : x8.cell? ⟨w.heap.size, 1, none⟩ = some (.int .i64 at_) := blk_cell hX8 1
  have r2 : x8.cell? ⟨w.heap.size, 2, none⟩ = some (.int .i64 m) := blk_cell hX8 2
  have r3 : x8.cell? ⟨w.heap.size, 3, none⟩ = some (.slice B1 nc e1) := blk_cell hX8 3
  have r4 : x8.cell? ⟨w.heap.size, 4, none⟩ = some (.slice B2 pc e2) := blk_cell hX8 4
  clear hX8
  have HD8 := Lib.hid hd8
  have hlr := load_R r L N M kv av2 pl tp at_ m HFF.out.2 x8 (HRV.out.next hb8)
  rw [← HQZ.out.2.1, ← HQZ.out.2.2.2] at hlr
  have HLR := Lib.hid hlr
  obtain ⟨A8, c8, rfl, hs8⟩ := ho8.bs HTS.out
  have HS8 := Lib.hid hs8
  clear hd8 ho8 hb8 hs8 hlr HLP
  obtain ⟨m8, hm8⟩ : ∃ m8, TS.length = m8 := ⟨_, rfl⟩
  rw [hm8] at HS8 ⊢
  clear hm8
  go_wp2_with fail
  refine HLR.out.mono ?_
  rintro e x9 ⟨v9, rfl, ho9, hb9⟩
  have HD9 := Lib.hid (HD8.out.next hb9)
  obtain ⟨A9, c9, rfl, hs9⟩ := ho9.bs HTT.out
  have hc8 : (convert 28 9 (.slice A8 m8 c8)).run Try.prog x9 = .ok (.string (str TS)) x9 := ((HS8.out.below hb9).more hb9.size).conv _ 5 _ Try.underlying28 Try.underlying5 Try.underlying9
  have hc9 : (convert 28 9 (.slice A9 TT.length c9)).run Try.prog x9 = .ok (.string (str TT)) x9 := hs9.conv _ 5 _ Try.underlying28 Try.underlying5 Try.underlying9
  have HF : Hid (Duo w0 x9 z g b L c r (stS oc L s) (stS oc L t)) := Lib.hid (by rw [← HSP.out.1, ← HSP.out.2]; exact HD9.out.sub (fun x hx => List.mem_cons_of_mem _ hx))
  clear ho9 hb9 hs9 HLR
  generalize str TS = XS at *
  generalize str TT = XT at *
  generalize TT.length = m9 at *
  by_cases he : (zs == zt) = true
  · go_wp2
    go_ret
    refine ⟨?_, HF.out⟩
    rw [HVV.out, he, Bool.true_and]
    rfl
  · have he2 : (zs == zt) = false := Bool.eq_false_iff.mpr he
    clear he
    go_wp2
    go_ret
    refine ⟨?_, HF.out⟩
    rw [HVV.out, he2, Bool.false_and]
    rfl
end
section
open Go.RowKit Go
set_option linter.unusedVariables false
set_option linter.unusedSimpArgs false
set_option maxRecDepth 100000
set_option maxHeartbeats 8000000 in
theorem step_9 (w0 w : World) (z : List (Nat × Obj)) (g b L c : Nat) (r : RI) (s t : DSt) (h : Duo w0 w z g b L c r s t) (hks : s.k < 16384) (hkt : t.k < 16384) (at_ m : Int) (lb lp : List Nat) (B1 B2 : Option Addr) (e1 e2 : Nat) (hb1 : BS w0 w0.heap.size B1 lb.length e1 lb) (hb2 : BS w0 w0.heap.size B2 lp.length e2 lp) (hA1 : B1 = none → e1 = 0) (hA2 : B2 = none → e2 = 0) (hfa : -9223372036854775808 ≤ at_ ∧ at_ ≤ 9223372036854775807) (hfm : -9223372036854775808 ≤ m ∧ m ≤ 9223372036854775807) :
    Calls Try.prog 10 #[.pointer (some ⟨g, 0, none⟩), .pointer (some ⟨r.g, 0, none⟩), .agg #[.int .i64 9, .int .i64 at_, .int .i64 m, .slice B1 lb.length e1, .slice B2 lp.length e2]] w fun e w' => e = .returned (.bool (stB (O8.cut ⟨9, at_, m, lb, lp⟩) L s t)) ∧ Duo w0 w' z g b L c r (stS (O8.cut ⟨9, at_, m, lb, lp⟩) L s) (stS (O8.cut ⟨9, at_, m, lb, lp⟩) L t) := by
  obtain ⟨nb, hnb⟩ : ∃ nb, lb.length = nb := ⟨_, rfl⟩
  obtain ⟨np, hnp⟩ : ∃ np, lp.length = np := ⟨_, rfl⟩
  rw [hnb] at hb1 ⊢
  rw [hnp] at hb2 ⊢
  have HT1 : Hid (BS w0 w0.heap.size B1 (min nb 150) e1 (lb.take 150)) := Lib.hid (cut_bsN 150 hb1)
  have HT2 : Hid (BS w0 w0.heap.size B2 (min np 12) e2 (lp.take 12)) := Lib.hid (cut_bsN 12 hb2)
  have HCC := Lib.hid (fun W => cut8_any 9 at_ m B1 B2 nb e1 np e2 hb1.cap.1 hb2.cap.1 W)
  have HD0 := Lib.hid h
  have HNN := Lib.hid (And.intro hA1 hA2)
  have HFF := Lib.hid (And.intro hfa hfm)
  have HKK := Lib.hid (And.intro hks hkt)
  have HLB : Hid (min nb 150 ≤ 150 ∧ min np 12 ≤ 12 ∧ (lb.take 150).length = min nb 150 ∧ (lp.take 12).length = min np 12) := Lib.hid ⟨Nat.min_le_right _ _, Nat.min_le_right _ _, HT1.out.len, HT2.out.len⟩
  have hX : ∀ wA, Below (w.heap.size + 1) (w.alloc (.cells #[.int .i64 9, .int .i64 at_, .int .i64 m, .slice B1 nb e1, .slice B2 np e2] 30)) wA → wA.heap[w.heap.size]? = some (.cells #[.int .i64 9, .int .i64 at_, .int .i64 m, .slice B1 nb e1, .slice B2 np e2] 30 (0, 0)) := fun wA hb => (hb.block _ (by simp)).trans (heap_alloc_new _ _)
  have HX := Lib.hid hX
  obtain ⟨oc, hoc⟩ : ∃ oc, oc = O8.cut ⟨9, at_, m, lb, lp⟩ := ⟨_, rfl⟩
  rw [← hoc]
  have HOC : Hid (oc = ⟨9, at_, m, lb.take 150, lp.take 12⟩) := Lib.hid hoc
  clear h hks hkt hb1 hb2 hA1 hA2 hfa hfm hX hoc
  go_enter Try.func10, Try.ntmps10
  go_wp2_with fail
  refine (HCC.out _).mono ?_
  rintro e wA ⟨rfl, hb⟩
  have hXA := HX.out wA (by rw [show w.heap.size + 1 = (w.alloc (.cells #[.int .i64 9, .int .i64 at_, .int .i64 m, .slice B1 nb e1, .slice B2 np e2] 30)).heap.size by simp]; exact hb)
  have HBA : Hid (Below w.heap.size w wA) := Lib.hid (((Below.refl _ _).alloc (Nat.le_refl _) _).trans (hb.mono (by simp)))
  clear hb HX HCC
  have hI9 : (Try.prog.info? 30).map (·.size) = some (#[.int .i64 9, .int .i64 at_, .int .i64 m, .slice B1 (min nb 150) e1, .slice B2 (min np 12) e2] : Array Value).size := info_op8
  have hS9 : (#[.int .i64 9, .int .i64 at_, .int .i64 m, .slice B1 nb e1, .slice B2 np e2] : Array Value).size = (#[.int .i64 9, .int .i64 at_, .int .i64 m, .slice B1 (min nb 150) e1, .slice B2 (min np 12) e2] : Array Value).size := rfl
  have hO9 : (#[.int .i64 9, .int .i64 at_, .int .i64 m, .slice B1 (min nb 150) e1, .slice B2 (min np 12) e2] : Array Value).all (·.oneCell') = true := by simp [Value.oneCell']
  generalize lb.take 150 = l1 at *
  generalize lp.take 12 = l2 at *
  generalize min nb 150 = nc at *
  generalize min np 12 = pc at *
  go_wp2_with (refine wpList_store_row rfl 30 (.tmp 5) (.tmp 15) rfl w.heap.size #[.int .i64 9, .int .i64 at_, .int .i64 m, .slice B1 nc e1, .slice B2 pc e2] rfl rfl 30 _ hXA hI9 hS9 hO9 ?_; obtain ⟨wB, hwB⟩ : ∃ wB, wB = wA.setRow w.heap.size #[.int .i64 9, .int .i64 at_, .int .i64 m, .slice B1 nc e1, .slice B2 pc e2] := ⟨_, rfl⟩; rw [← hwB]; have hY : wB.heap[w.heap.size]? = some (.cells #[.int .i64 9, .int .i64 at_, .int .i64 m, .slice B1 nc e1, .slice B2 pc e2] 30 (0, 0)) := (by rw [hwB]; exact setRow_heap _ _ _ _ _ _ hXA); have hWB : Below w.heap.size w wB := (by rw [hwB]; exact below_setRow HBA.out (Nat.le_refl _) _); have HD := Lib.hid (HD0.out.mark hWB (Nat.le_refl _) hY); clear hwB hXA hI9 hS9 hO9 hWB; have y0 : wB.cell? ⟨w.heap.size, 0, none⟩ = some (.int .i64 9) := blk_cell hY 0; have y1 : wB.cell? ⟨w.heap.size, 1, none⟩ = some (.int .i64 at_) := blk_cell hY 1; have y2 : wB.cell? ⟨w.heap.size, 2, none⟩ = some (.int .i64 m) := blk_cell hY 2; have y3 : wB.cell? ⟨w.heap.size, 3, none⟩ = some (.slice B1 nc e1) := blk_cell hY 3; have y4 : wB.cell? ⟨w.heap.size, 4, none⟩ = some (.slice B2 pc e2) := blk_cell hY 4; clear hY)
  refine (HD.out.doP (fun av pv hp hlt hz => arm_P g b L c pc e2 m HFF.out.2.2 B2 l2 av pv s _ hp (bs_now HT2.out HD.out.under) (by have := HLB.out; omega))).mono ?_
  rintro e x1 ⟨rfl, hd⟩
  have HD1 := Lib.hid hd
  have hX5 := hd.has (List.mem_cons_self ..)
  have p1 : x1.cell? ⟨w.heap.size, 1, none⟩ = some (.int .i64 at_) := blk_cell hX5 1
  have p2 : x1.cell? ⟨w.heap.size, 2, none⟩ = some (.int .i64 m) := blk_cell hX5 2
  have p3 : x1.cell? ⟨w.heap.size, 3, none⟩ = some (.slice B1 nc e1) := blk_cell hX5 3
  have p4 : x1.cell? ⟨w.heap.size, 4, none⟩ = some (.slice B2 pc e2) := blk_cell hX5 4
  clear hX5
  clear hd
  go_wp2_with fail
  refine (HD1.out.doR (fun N M kv av2 pl hp hlt hz => arm_R r L N M pc e2 kv av2 pl t m HFF.out.2.2 B2 l2 _ hp (bs_now HT2.out HD1.out.under) HNN.out.2 (fun h0 ad e q => far_low HT2.out (S := RS r kv av2) (fun j q => (hlt j q).1) h0 ad e (.inl q)) (by have := HLB.out; omega))).mono ?_
  rintro e x2 ⟨rfl, hd⟩
  have HD2 := Lib.hid hd
  have hX6 := hd.has (List.mem_cons_self ..)
  have q1 : x2.cell? ⟨w.heap.size, 1, none⟩ = some (.int .i64 at_) := blk_cell hX6 1
  have q2 : x2.cell? ⟨w.heap.size, 2, none⟩ = some (.int .i64 m) := blk_cell hX6 2
  have q3 : x2.cell? ⟨w.heap.size, 3, none⟩ = some (.slice B1 nc e1) := blk_cell hX6 3
  have q4 : x2.cell? ⟨w.heap.size, 4, none⟩ = some (.slice B2 pc e2) := blk_cell hX6 4
  clear hX6
  clear hd
  obtain ⟨sp, hsp⟩ : ∃ sp, sp = stS oc L s := ⟨_, rfl⟩
  obtain ⟨tp, htp⟩ : ∃ tp, tp = stS oc L t := ⟨_, rfl⟩
  have HSP := Lib.hid (And.intro hsp htp)
  have HDL : Hid (Duo w0 x2 _ g b L c r sp tp) := Lib.hid (by
    have eS : ∀ q : DSt, stS ⟨9, at_, m, l1, l2⟩ L q = q.arm m l2 := fun q => by simp [stS]
    rw [hsp, htp, HOC.out, eS, eS]
    exact HD2.out)
  clear hsp htp
  obtain ⟨av, pv, kv, av2, pl, N, M, hp, hr, _⟩ := HDL.out
  have HLP := Lib.hid (load_P g b L c at_ m av pv sp x2 hp)
  have HRV := Lib.hid hr
  obtain ⟨zs, hzs⟩ : ∃ zs, zs = refS8 L sp.off at_ m := ⟨_, rfl⟩
  obtain ⟨zt, hzt⟩ : ∃ zt, zt = refS8 L tp.off at_ m := ⟨_, rfl⟩
  obtain ⟨TS, hTS⟩ : ∃ TS, TS = ldL sp L at_ m := ⟨_, rfl⟩
  obtain ⟨TT, hTT⟩ : ∃ TT, TT = ldL tp L at_ m := ⟨_, rfl⟩
  have HTS : Hid (∀ i, TS.getD i 0 < 256) := Lib.hid (by rw [hTS]; exact ldL_b hp.m.mem.1 _ _ _)
  have HTT : Hid (∀ i, TT.getD i 0 < 256) := Lib.hid (by rw [hTT]; exact ldL_b hr.ok _ _ _)
  rw [← hzs, ← hTS] at HLP
  have HQZ := Lib.hid (And.intro hzs (And.intro hzt (And.intro hTS hTT)))
  have HVV : Hid (stB oc L s t = ((zs == zt) && ((str TS).toList == (str TT).toList))) := Lib.hid (by
    rw [hzs, hzt, hTS, hTT, HSP.out.1, HSP.out.2, HOC.out]
    unfold stB
    rw [if_neg (by show ¬ ((9 : Int) = 0 ∨ (9 : Int) = 1 ∨ (9 : Int) = 2); omega), if_neg (by show ¬ ((9 : Int) = 3 ∨ (9 : Int) = 4); omega), if_neg (by show ¬ ((9 : Int) = 5 ∨ (9 : Int) = 6); omega), if_neg (by show ¬ (9 : Int) = 10; omega)])
  clear hp hr hzs hzt hTS hTT
  go_wp2_with fail
  refine HLP.out.mono ?_
  rintro e x8 ⟨v8, rfl, ho8, hb8⟩
  have hd8 := HDL.out.next hb8
  have hX8 := hd8.has (List.mem_cons_self ..)
  have r1 : x8.cell? ⟨w.heap.size, 1, none⟩ = some (.int .i64 at_) := blk_cell hX8 1
  have r2 : x8.cell? ⟨w.heap.size, 2, none⟩ = some (.int .i64 m) := blk_cell hX8 2
  have r3 : x8.cell? ⟨w.heap.size, 3, none⟩ = some (.slice B1 nc e1) := blk_cell hX8 3
  have r4 : x8.cell? ⟨w.heap.size, 4, none⟩ = some (.slice B2 pc e2) := blk_cell hX8 4
  clear hX8
  have HD8 := Lib.hid hd8
  have hlr := load_R r L N M kv av2 pl tp at_ m HFF.out.2 x8 (HRV.out.next hb8)
  rw [← HQZ.out.2.1, ← HQZ.out.2.2.2] at hlr
  have HLR := Lib.hid hlr
  obtain ⟨A8, c8, rfl, hs8⟩ := ho8.bs HTS.out
  have HS8 := Lib.hid hs8
  clear hd8 ho8 hb8 hs8 hlr HLP
  obtain ⟨m8, hm8⟩ : ∃ m8, TS.length = m8 := ⟨_, rfl⟩
  rw [hm8] at HS8 ⊢
  clear hm8
  go_wp2_with fail
  refine HLR.out.mono ?_
  rintro e x9 ⟨v9, rfl, ho9, hb9⟩
  have HD9 := Lib.hid (HD8.out.next hb9)
  obtain ⟨A9, c9, rfl, hs9⟩ := ho9.bs HTT.out
  have hc8 : (convert 28 9 (.slice A8 m8 c8)).run Try.prog x9 = .ok (.string (str TS)) x9 := ((HS8.out.below hb9).more hb9.size).conv _ 5 _ Try.underlying28 Try.underlying5 Try.underlying9
  have hc9 : (convert 28 9 (.slice A9 TT.length c9)).run Try.prog x9 = .ok (.string (str TT)) x9 := hs9.conv _ 5 _ Try.underlying28 Try.underlying5 Try.underlying9
  have HF : Hid (Duo w0 x9 z g b L c r (stS oc L s) (stS oc L t)) := Lib.hid (by rw [← HSP.out.1, ← HSP.out.2]; exact HD9.out.sub (fun x hx => List.mem_cons_of_mem _ hx))
  clear ho9 hb9 hs9 HLR
  generalize str TS = XS at *
  generalize str TT = XT at *
  generalize TT.length = m9 at *
  by_cases he : (zs == zt) = true
  · go_wp2
    go_ret
    refine ⟨?_, HF.out⟩
    rw [HVV.out, he, Bool.true_and]
    rfl
  · have he2 : (zs == zt) = false := Bool.eq_false_iff.mpr he
    clear he
    go_wp2
    go_ret
    refine ⟨?_, HF.out⟩
    rw [HVV.out, he2, Bool.false_and]
    rfl
end
section
open Go.RowKit Go
set_option linter.unusedVariables false
set_option linter.unusedSimpArgs false
set_option maxRecDepth 100000
set_option maxHeartbeats 8000000 in
theorem step_10 (w0 w : World) (z : List (Nat × Obj)) (g b L c : Nat) (r : RI) (s t : DSt) (h : Duo w0 w z g b L c r s t) (hks : s.k < 16384) (hkt : t.k < 16384) (at_ m : Int) (lb lp : List Nat) (B1 B2 : Option Addr) (e1 e2 : Nat) (hb1 : BS w0 w0.heap.size B1 lb.length e1 lb) (hb2 : BS w0 w0.heap.size B2 lp.length e2 lp) (hA1 : B1 = none → e1 = 0) (hA2 : B2 = none → e2 = 0) (hfa : -9223372036854775808 ≤ at_ ∧ at_ ≤ 9223372036854775807) (hfm : -9223372036854775808 ≤ m ∧ m ≤ 9223372036854775807) :
    Calls Try.prog 10 #[.pointer (some ⟨g, 0, none⟩), .pointer (some ⟨r.g, 0, none⟩), .agg #[.int .i64 10, .int .i64 at_, .int .i64 m, .slice B1 lb.length e1, .slice B2 lp.length e2]] w fun e w' => e = .returned (.bool (stB (O8.cut ⟨10, at_, m, lb, lp⟩) L s t)) ∧ Duo w0 w' z g b L c r (stS (O8.cut ⟨10, at_, m, lb, lp⟩) L s) (stS (O8.cut ⟨10, at_, m, lb, lp⟩) L t) := by
  obtain ⟨nb, hnb⟩ : ∃ nb, lb.length = nb := ⟨_, rfl⟩
  obtain ⟨np, hnp⟩ : ∃ np, lp.length = np := ⟨_, rfl⟩
  rw [hnb] at hb1 ⊢
  rw [hnp] at hb2 ⊢
  have HT1 : Hid (BS w0 w0.heap.size B1 (min nb 150) e1 (lb.take 150)) := Lib.hid (cut_bsN 150 hb1)
  have HT2 : Hid (BS w0 w0.heap.size B2 (min np 12) e2 (lp.take 12)) := Lib.hid (cut_bsN 12 hb2)
  have HCC := Lib.hid (fun W => cut8_any 10 at_ m B1 B2 nb e1 np e2 hb1.cap.1 hb2.cap.1 W)
  have HD0 := Lib.hid h
  have HNN := Lib.hid (And.intro hA1 hA2)
  have HFF := Lib.hid (And.intro hfa hfm)
  have HKK := Lib.hid (And.intro hks hkt)
  have HLB : Hid (min nb 150 ≤ 150 ∧ min np 12 ≤ 12 ∧ (lb.take 150).length = min nb 150 ∧ (lp.take 12).length = min np 12) := Lib.hid ⟨Nat.min_le_right _ _, Nat.min_le_right _ _, HT1.out.len, HT2.out.len⟩
  have hX : ∀ wA, Below (w.heap.size + 1) (w.alloc (.cells #[.int .i64 10, .int .i64 at_, .int .i64 m, .slice B1 nb e1, .slice B2 np e2] 30)) wA → wA.heap[w.heap.size]? = some (.cells #[.int .i64 10, .int .i64 at_, .int .i64 m, .slice B1 nb e1, .slice B2 np e2] 30 (0, 0)) := fun wA hb => (hb.block _ (by simp)).trans (heap_alloc_new _ _)
  have HX := Lib.hid hX
  obtain ⟨oc, hoc⟩ : ∃ oc, oc = O8.cut ⟨10, at_, m, lb, lp⟩ := ⟨_, rfl⟩
  rw [← hoc]
  have HOC : Hid (oc = ⟨10, at_, m, lb.take 150, lp.take 12⟩) := Lib.hid hoc
  clear h hks hkt hb1 hb2 hA1 hA2 hfa hfm hX hoc
  go_enter Try.func10, Try.ntmps10
  go_wp2_with fail
  refine (HCC.out _).mono ?_
  rintro e wA ⟨rfl, hb⟩
  have hXA := HX.out wA (by rw [show w.heap.size + 1 = (w.alloc (.cells #[.int .i64 10, .int .i64 at_, .int .i64 m, .slice B1 nb e1, .slice B2 np e2] 30)).heap.size by simp]; exact hb)
  have HBA : Hid (Below w.heap.size w wA) := Lib.hid (((Below.refl _ _).alloc (Nat.le_refl _) _).trans (hb.mono (by simp)))
  clear hb HX HCC
  have hI9 : (Try.prog.info? 30).map (·.size) = some (#[.int .i64 10, .int .i64 at_, .int .i64 m, .slice B1 (min nb 150) e1, .slice B2 (min np 12) e2] : Array Value).size := info_op8
  have hS9 : (#[.int .i64 10, .int .i64 at_, .int .i64 m, .slice B1 nb e1, .slice B2 np e2] : Array Value).size = (#[.int .i64 10, .int .i64 at_, .int .i64 m, .slice B1 (min nb 150) e1, .slice B2 (min np 12) e2] : Array Value).size := rfl
  have hO9 : (#[.int .i64 10, .int .i64 at_, .int .i64 m, .slice B1 (min nb 150) e1, .slice B2 (min np 12) e2] : Array Value).all (·.oneCell') = true := by simp [Value.oneCell']
  generalize lb.take 150 = l1 at *
  generalize lp.take 12 = l2 at *
  generalize min nb 150 = nc at *
  generalize min np 12 = pc at *
  go_upto_region 31 with (refine wpList_store_row rfl 30 (.tmp 5) (.tmp 15) rfl w.heap.size #[.int .i64 10, .int .i64 at_, .int .i64 m, .slice B1 nc e1, .slice B2 pc e2] rfl rfl 30 _ hXA hI9 hS9 hO9 ?_; obtain ⟨wB, hwB⟩ : ∃ wB, wB = wA.setRow w.heap.size #[.int .i64 10, .int .i64 at_, .int .i64 m, .slice B1 nc e1, .slice B2 pc e2] := ⟨_, rfl⟩; rw [← hwB]; have hY : wB.heap[w.heap.size]? = some (.cells #[.int .i64 10, .int .i64 at_, .int .i64 m, .slice B1 nc e1, .slice B2 pc e2] 30 (0, 0)) := (by rw [hwB]; exact setRow_heap _ _ _ _ _ _ hXA); have hWB : Below w.heap.size w wB := (by rw [hwB]; exact below_setRow HBA.out (Nat.le_refl _) _); have HD := Lib.hid (HD0.out.mark hWB (Nat.le_refl _) hY); clear hwB hXA hI9 hS9 hO9 hWB; have y0 : wB.cell? ⟨w.heap.size, 0, none⟩ = some (.int .i64 10) := blk_cell hY 0; have y1 : wB.cell? ⟨w.heap.size, 1, none⟩ = some (.int .i64 at_) := blk_cell hY 1; have y2 : wB.cell? ⟨w.heap.size, 2, none⟩ = some (.int .i64 m) := blk_cell hY 2; have y3 : wB.cell? ⟨w.heap.size, 3, none⟩ = some (.slice B1 nc e1) := blk_cell hY 3; have y4 : wB.cell? ⟨w.heap.size, 4, none⟩ = some (.slice B2 pc e2) := blk_cell hY 4; clear hY)
  refine wp_region_F (S := (fun w' => w'.cell? ⟨w.heap.size, 1, none⟩ = some (.int .i64 at_) ∧ w'.cell? ⟨w.heap.size, 3, none⟩ = some (.slice B1 nc e1))) [] (by kernel_rfl) (⟨y1, y3⟩) (fun hHeld => ?_)
  refine wpAnyF_take (i := 0) (oi := _) (v := ?_) rfl (by kernel_rfl) (by kernel_rfl) (by kernel_rfl) (by kernel_rfl) (fun _ _ _ h => h) (Or.inl ⟨by rfl, ?_⟩) (by assumption) ?_
  rotate_left 1
  · intro w hSw
    (try dsimp only at hSw)
    (first | (go_simp; done) | (go_simp; with_reducible rfl))
  (try simp only [Act.put, List.getElem_toArray, List.getElem_cons_succ, List.getElem_cons_zero, List.setIfInBounds_toArray, List.set_cons_zero, List.set_cons_succ])
  refine wpAnyF_take (i := 1) (oi := _) (v := ?_) rfl (by kernel_rfl) (by kernel_rfl) (by kernel_rfl) (by kernel_rfl) (fun _ _ _ h => h) (Or.inl ⟨by rfl, ?_⟩) (by assumption) ?_
  rotate_left 1
  · intro w hSw
    (try dsimp only at hSw)
    (first | (go_simp; done) | (go_simp; with_reducible rfl))
  (try simp only [Act.put, List.getElem_toArray, List.getElem_cons_succ, List.getElem_cons_zero, List.setIfInBounds_toArray, List.set_cons_zero, List.set_cons_succ])
  refine wpAnyF_take (i := 2) (oi := _) (v := ?_) rfl (by kernel_rfl) (by kernel_rfl) (by kernel_rfl) (by kernel_rfl) (fun _ _ _ h => h) (Or.inl ⟨by rfl, ?_⟩) (by assumption) ?_
  rotate_left 1
  · intro w hSw
    (try dsimp only at hSw)
    (first | (go_simp; done) | (go_simp; with_reducible rfl))
  (try simp only [Act.put, List.getElem_toArray, List.getElem_cons_succ, List.getElem_cons_zero, List.setIfInBounds_toArray, List.set_cons_zero, List.set_cons_succ])
  refine wpAnyF_take (i := 3) (oi := _) (v := ?_) rfl (by kernel_rfl) (by kernel_rfl) (by kernel_rfl) (by kernel_rfl) (fun _ _ _ h => h) (Or.inl ⟨by rfl, ?_⟩) (by assumption) ?_
  rotate_left 1
  · intro w hSw
    (try dsimp only at hSw)
    (first | (go_simp; done) | (go_simp; with_reducible rfl))
  (try simp only [Act.put, List.getElem_toArray, List.getElem_cons_succ, List.getElem_cons_zero, List.setIfInBounds_toArray, List.set_cons_zero, List.set_cons_succ])
  refine wpAnyF_take (i := 4) (oi := _) (v := ?_) rfl (by kernel_rfl) (by kernel_rfl) (by kernel_rfl) (by kernel_rfl) (fun _ _ _ h => h) (Or.inl ⟨by rfl, ?_⟩) (by assumption) ?_
  rotate_left 1
  · intro w hSw
    (try dsimp only at hSw)
    (first | (go_simp; done) | (go_simp; with_reducible rfl))
  (try simp only [Act.put, List.getElem_toArray, List.getElem_cons_succ, List.getElem_cons_zero, List.setIfInBounds_toArray, List.set_cons_zero, List.set_cons_succ])
  refine wpAnyF_take (i := 6) (oi := _) (v := ?_) rfl (by kernel_rfl) (by kernel_rfl) (by kernel_rfl) (by kernel_rfl) (fun _ _ _ h => h) (Or.inl ⟨by rfl, ?_⟩) (by assumption) ?_
  rotate_left 1
  · intro w hSw
    (try dsimp only at hSw)
    (first | (go_simp; done) | (go_simp; with_reducible rfl))
  (try simp only [Act.put, List.getElem_toArray, List.getElem_cons_succ, List.getElem_cons_zero, List.setIfInBounds_toArray, List.set_cons_zero, List.set_cons_succ])
  refine wpAnyF_take (i := 7) (oi := _) (v := ?_) rfl (by kernel_rfl) (by kernel_rfl) (by kernel_rfl) (by kernel_rfl) (fun _ _ _ h => h) (Or.inl ⟨by rfl, ?_⟩) (by assumption) ?_
  rotate_left 1
  · intro w hSw
    (try dsimp only at hSw)
    (first | (go_simp; done) | (go_simp; with_reducible rfl))
  (try simp only [Act.put, List.getElem_toArray, List.getElem_cons_succ, List.getElem_cons_zero, List.setIfInBounds_toArray, List.set_cons_zero, List.set_cons_succ])
  refine wpAnyF_take (i := 8) (oi := _) (v := ?_) rfl (by kernel_rfl) (by kernel_rfl) (by kernel_rfl) (by kernel_rfl) (fun _ _ _ h => h) (Or.inl ⟨by rfl, ?_⟩) (by assumption) ?_
  rotate_left 1
  · intro w hSw
    (try dsimp only at hSw)
    (first | (go_simp; done) | (go_simp; with_reducible rfl))
  (try simp only [Act.put, List.getElem_toArray, List.getElem_cons_succ, List.getElem_cons_zero, List.setIfInBounds_toArray, List.set_cons_zero, List.set_cons_succ])
  refine wpAnyF_take (i := 9) (oi := _) (v := ?_) rfl (by kernel_rfl) (by kernel_rfl) (by kernel_rfl) (by kernel_rfl) (fun _ _ _ h => h) (Or.inl ⟨by rfl, ?_⟩) (by assumption) ?_
  rotate_left 1
  · intro w hSw
    (try dsimp only at hSw)
    (first | (go_simp; done) | (go_simp; with_reducible rfl))
  (try simp only [Act.put, List.getElem_toArray, List.getElem_cons_succ, List.getElem_cons_zero, List.setIfInBounds_toArray, List.set_cons_zero, List.set_cons_succ])
  refine wpAnyF_take (i := 10) (oi := _) (v := ?_) rfl (by kernel_rfl) (by kernel_rfl) (by kernel_rfl) (by kernel_rfl) (fun _ _ _ h => h) (Or.inl ⟨by rfl, ?_⟩) (by assumption) ?_
  rotate_left 1
  · intro w hSw
    (try dsimp only at hSw)
    (first | (go_simp; done) | (go_simp; with_reducible rfl))
  (try simp only [Act.put, List.getElem_toArray, List.getElem_cons_succ, List.getElem_cons_zero, List.setIfInBounds_toArray, List.set_cons_zero, List.set_cons_succ])
  refine wpAnyF_ready (rs := [5]) (by kernel_rfl) (by simp) ?_
  refine AllReadyF.cons (o := _) rfl (fun K hK => ?_) AllReadyF.nil
  go_simp
  refine ((HD.out.next (Below.refl _ _).drew).doP (fun av pv hp hlt hz => tamper_P g b L c nc e1 at_ B1 l1 av pv s _ hp (bs_now HT1.out (HD.out.under.drew)) (ps_off (far_low HT1.out (fun j q => (hlt j q).1))))).mono ?_
  rintro e x1 ⟨rfl, hd⟩
  have HD1 := Lib.hid hd
  have hX5 := hd.has (List.mem_cons_self ..)
  have p1 : x1.cell? ⟨w.heap.size, 1, none⟩ = some (.int .i64 at_) := blk_cell hX5 1
  have p2 : x1.cell? ⟨w.heap.size, 2, none⟩ = some (.int .i64 m) := blk_cell hX5 2
  have p3 : x1.cell? ⟨w.heap.size, 3, none⟩ = some (.slice B1 nc e1) := blk_cell hX5 3
  have p4 : x1.cell? ⟨w.heap.size, 4, none⟩ = some (.slice B2 pc e2) := blk_cell hX5 4
  clear hX5
  clear hd
  refine hK.out _ _ (⟨p1, p3⟩) (fun hHeld5 => ?_)
  clear hK K
  (try simp only [Act.put, List.getElem_toArray, List.getElem_cons_succ, List.getElem_cons_zero, List.setIfInBounds_toArray, List.set_cons_zero, List.set_cons_succ])
  refine wpAnyF_ready (rs := [11]) (by kernel_rfl) (by simp) ?_
  refine AllReadyF.cons (o := _) rfl (fun K hK => ?_) AllReadyF.nil
  go_simp
  refine (HD1.out.doR (fun N M kv av2 pl hp hlt hz => tamper_R r L N M nc e1 kv av2 pl t at_ B1 l1 _ hp (bs_now HT1.out HD1.out.under) (fun h0 ad e q => far_low HT1.out (S := RS r kv av2) (fun j q => (hlt j q).1) h0 ad e (.inr (.inr (.inl q)))))).mono ?_
  rintro e x2 ⟨rfl, hd⟩
  have HD2 := Lib.hid hd
  have hX6 := hd.has (List.mem_cons_self ..)
  have q1 : x2.cell? ⟨w.heap.size, 1, none⟩ = some (.int .i64 at_) := blk_cell hX6 1
  have q2 : x2.cell? ⟨w.heap.size, 2, none⟩ = some (.int .i64 m) := blk_cell hX6 2
  have q3 : x2.cell? ⟨w.heap.size, 3, none⟩ = some (.slice B1 nc e1) := blk_cell hX6 3
  have q4 : x2.cell? ⟨w.heap.size, 4, none⟩ = some (.slice B2 pc e2) := blk_cell hX6 4
  clear hX6
  clear hd
  refine hK.out _ _ (⟨q1, q3⟩) (fun hHeld11 => ?_)
  clear hK K
  (try simp only [Act.put, List.getElem_toArray, List.getElem_cons_succ, List.getElem_cons_zero, List.setIfInBounds_toArray, List.set_cons_zero, List.set_cons_succ])
  refine wpAnyF_take (i := 12) (oi := _) (v := ?_) rfl (by kernel_rfl) (by kernel_rfl) (by kernel_rfl) (by kernel_rfl) (fun _ _ _ h => h) (Or.inl ⟨by rfl, ?_⟩) (by assumption) ?_
  rotate_left 1
  · intro w hSw
    (try dsimp only at hSw)
    (first | (go_simp; done) | (go_simp; with_reducible rfl))
  (try simp only [Act.put, List.getElem_toArray, List.getElem_cons_succ, List.getElem_cons_zero, List.setIfInBounds_toArray, List.set_cons_zero, List.set_cons_succ])
  refine wpAnyF_take (i := 13) (oi := _) (v := ?_) rfl (by kernel_rfl) (by kernel_rfl) (by kernel_rfl) (by kernel_rfl) (fun _ _ _ h => h) (Or.inl ⟨by rfl, ?_⟩) (by assumption) ?_
  rotate_left 1
  · intro w hSw
    (try dsimp only at hSw)
    (first | (go_simp; done) | (go_simp; with_reducible rfl))
  (try simp only [Act.put, List.getElem_toArray, List.getElem_cons_succ, List.getElem_cons_zero, List.setIfInBounds_toArray, List.set_cons_zero, List.set_cons_succ])
  refine wpAnyF_done (by kernel_rfl) ?_ _
  have HF : Hid (Duo w0 x2 z g b L c r (stS oc L s) (stS oc L t)) := Lib.hid (by
    rw [HOC.out]
    have eS : ∀ q : DSt, stS ⟨10, at_, m, l1, l2⟩ L q = q.tamper L at_ nc l1 := fun q => by have := HLB.out.2.2.1; simp [stS, this]
    rw [eS, eS]
    exact HD2.out.sub (fun x hx => List.mem_cons_of_mem _ hx))
  have HV : Hid (stB oc L s t = true) := Lib.hid (by
    rw [HOC.out]
    simp [stB])
  go_wp2
  go_ret
  refine ⟨?_, HF.out⟩
  rw [HV.out]
  rfl
end
section
open Go.RowKit Go
set_option linter.unusedVariables false
set_option linter.unusedSimpArgs false
set_option maxRecDepth 100000
set_option maxHeartbeats 8000000 in
theorem step_X (w0 w : World) (z : List (Nat × Obj)) (g b L c : Nat) (r : RI) (s t : DSt) (h : Duo w0 w z g b L c r s t) (hks : s.k < 16384) (hkt : t.k < 16384) (kd : Int) (hn0 : ¬ kd = 0) (hn1 : ¬ kd = 1) (hn2 : ¬ kd = 2) (hn3 : ¬ kd = 3) (hn4 : ¬ kd = 4) (hn5 : ¬ kd = 5) (hn6 : ¬ kd = 6) (hn7 : ¬ kd = 7) (hn8 : ¬ kd = 8) (hn9 : ¬ kd = 9) (hn10 : ¬ kd = 10) (at_ m : Int) (lb lp : List Nat) (B1 B2 : Option Addr) (e1 e2 : Nat) (hb1 : BS w0 w0.heap.size B1 lb.length e1 lb) (hb2 : BS w0 w0.heap.size B2 lp.length e2 lp) (hA1 : B1 = none → e1 = 0) (hA2 : B2 = none → e2 = 0) (hfa : -9223372036854775808 ≤ at_ ∧ at_ ≤ 9223372036854775807) (hfm : -9223372036854775808 ≤ m ∧ m ≤ 9223372036854775807) :
    Calls Try.prog 10 #[.pointer (some ⟨g, 0, none⟩), .pointer (some ⟨r.g, 0, none⟩), .agg #[.int .i64 kd, .int .i64 at_, .int .i64 m, .slice B1 lb.length e1, .slice B2 lp.length e2]] w fun e w' => e = .returned (.bool (stB (O8.cut ⟨kd, at_, m, lb, lp⟩) L s t)) ∧ Duo w0 w' z g b L c r (stS (O8.cut ⟨kd, at_, m, lb, lp⟩) L s) (stS (O8.cut ⟨kd, at_, m, lb, lp⟩) L t) := by
  obtain ⟨nb, hnb⟩ : ∃ nb, lb.length = nb := ⟨_, rfl⟩
  obtain ⟨np, hnp⟩ : ∃ np, lp.length = np := ⟨_, rfl⟩
  rw [hnb] at hb1 ⊢
  rw [hnp] at hb2 ⊢
  have HT1 : Hid (BS w0 w0.heap.size B1 (min nb 150) e1 (lb.take 150)) := Lib.hid (cut_bsN 150 hb1)
  have HT2 : Hid (BS w0 w0.heap.size B2 (min np 12) e2 (lp.take 12)) := Lib.hid (cut_bsN 12 hb2)
  have HCC := Lib.hid (fun W => cut8_any kd at_ m B1 B2 nb e1 np e2 hb1.cap.1 hb2.cap.1 W)
  have HD0 := Lib.hid h
  have HNN := Lib.hid (And.intro hA1 hA2)
  have HFF := Lib.hid (And.intro hfa hfm)
  have HKK := Lib.hid (And.intro hks hkt)
  have HLB : Hid (min nb 150 ≤ 150 ∧ min np 12 ≤ 12 ∧ (lb.take 150).length = min nb 150 ∧ (lp.take 12).length = min np 12) := Lib.hid ⟨Nat.min_le_right _ _, Nat.min_le_right _ _, HT1.out.len, HT2.out.len⟩
  have hX : ∀ wA, Below (w.heap.size + 1) (w.alloc (.cells #[.int .i64 kd, .int .i64 at_, .int .i64 m, .slice B1 nb e1, .slice B2 np e2] 30)) wA → wA.heap[w.heap.size]? = some (.cells #[.int .i64 kd, .int .i64 at_, .int .i64 m, .slice B1 nb e1, .slice B2 np e2] 30 (0, 0)) := fun wA hb => (hb.block _ (by simp)).trans (heap_alloc_new _ _)
  have HX := Lib.hid hX
  obtain ⟨oc, hoc⟩ : ∃ oc, oc = O8.cut ⟨kd, at_, m, lb, lp⟩ := ⟨_, rfl⟩
  rw [← hoc]
  have HOC : Hid (oc = ⟨kd, at_, m, lb.take 150, lp.take 12⟩) := Lib.hid hoc
  clear h hks hkt hb1 hb2 hA1 hA2 hfa hfm hX hoc
  have hq0 : (kd == 0) = false := by rw [beq_eq_false_iff_ne]; exact hn0
  have hq1 : (kd == 1) = false := by rw [beq_eq_false_iff_ne]; exact hn1
  have hq2 : (kd == 2) = false := by rw [beq_eq_false_iff_ne]; exact hn2
  have hq3 : (kd == 3) = false := by rw [beq_eq_false_iff_ne]; exact hn3
  have hq4 : (kd == 4) = false := by rw [beq_eq_false_iff_ne]; exact hn4
  have hq5 : (kd == 5) = false := by rw [beq_eq_false_iff_ne]; exact hn5
  have hq6 : (kd == 6) = false := by rw [beq_eq_false_iff_ne]; exact hn6
  have hq7 : (kd == 7) = false := by rw [beq_eq_false_iff_ne]; exact hn7
  have hq8 : (kd == 8) = false := by rw [beq_eq_false_iff_ne]; exact hn8
  have hq9 : (kd == 9) = false := by rw [beq_eq_false_iff_ne]; exact hn9
  have hq10 : (kd == 10) = false := by rw [beq_eq_false_iff_ne]; exact hn10
  go_enter Try.func10, Try.ntmps10
  go_wp2_with fail
  refine (HCC.out _).mono ?_
  rintro e wA ⟨rfl, hb⟩
  have hXA := HX.out wA (by rw [show w.heap.size + 1 = (w.alloc (.cells #[.int .i64 kd, .int .i64 at_, .int .i64 m, .slice B1 nb e1, .slice B2 np e2] 30)).heap.size by simp]; exact hb)
  have HBA : Hid (Below w.heap.size w wA) := Lib.hid (((Below.refl _ _).alloc (Nat.le_refl _) _).trans (hb.mono (by simp)))
  clear hb HX HCC
  have hI9 : (Try.prog.info? 30).map (·.size) = some (#[.int .i64 kd, .int .i64 at_, .int .i64 m, .slice B1 (min nb 150) e1, .slice B2 (min np 12) e2] : Array Value).size := info_op8
  have hS9 : (#[.int .i64 kd, .int .i64 at_, .int .i64 m, .slice B1 nb e1, .slice B2 np e2] : Array Value).size = (#[.int .i64 kd, .int .i64 at_, .int .i64 m, .slice B1 (min nb 150) e1, .slice B2 (min np 12) e2] : Array Value).size := rfl
  have hO9 : (#[.int .i64 kd, .int .i64 at_, .int .i64 m, .slice B1 (min nb 150) e1, .slice B2 (min np 12) e2] : Array Value).all (·.oneCell') = true := by simp [Value.oneCell']
  generalize lb.take 150 = l1 at *
  generalize lp.take 12 = l2 at *
  generalize min nb 150 = nc at *
  generalize min np 12 = pc at *
  go_upto_region 32 with (refine wpList_store_row rfl 30 (.tmp 5) (.tmp 15) rfl w.heap.size #[.int .i64 kd, .int .i64 at_, .int .i64 m, .slice B1 nc e1, .slice B2 pc e2] rfl rfl 30 _ hXA hI9 hS9 hO9 ?_; obtain ⟨wB, hwB⟩ : ∃ wB, wB = wA.setRow w.heap.size #[.int .i64 kd, .int .i64 at_, .int .i64 m, .slice B1 nc e1, .slice B2 pc e2] := ⟨_, rfl⟩; rw [← hwB]; have hY : wB.heap[w.heap.size]? = some (.cells #[.int .i64 kd, .int .i64 at_, .int .i64 m, .slice B1 nc e1, .slice B2 pc e2] 30 (0, 0)) := (by rw [hwB]; exact setRow_heap _ _ _ _ _ _ hXA); have hWB : Below w.heap.size w wB := (by rw [hwB]; exact below_setRow HBA.out (Nat.le_refl _) _); have HD := Lib.hid (HD0.out.mark hWB (Nat.le_refl _) hY); clear hwB hXA hI9 hS9 hO9 hWB; have y0 : wB.cell? ⟨w.heap.size, 0, none⟩ = some (.int .i64 kd) := blk_cell hY 0; have y1 : wB.cell? ⟨w.heap.size, 1, none⟩ = some (.int .i64 at_) := blk_cell hY 1; have y2 : wB.cell? ⟨w.heap.size, 2, none⟩ = some (.int .i64 m) := blk_cell hY 2; have y3 : wB.cell? ⟨w.heap.size, 3, none⟩ = some (.slice B1 nc e1) := blk_cell hY 3; have y4 : wB.cell? ⟨w.heap.size, 4, none⟩ = some (.slice B2 pc e2) := blk_cell hY 4; clear hY)
  obtain ⟨sp, hsp⟩ : ∃ sp, sp = stS oc L s := ⟨_, rfl⟩
  obtain ⟨tp, htp⟩ : ∃ tp, tp = stS oc L t := ⟨_, rfl⟩
  have HSP := Lib.hid (And.intro hsp htp)
  have HDL : Hid (Duo w0 wB _ g b L c r sp tp) := Lib.hid (by
    have eS : ∀ q : DSt, stS ⟨kd, at_, m, l1, l2⟩ L q = q := fun q => by simp [stS, hn0, hn1, hn2, hn3, hn4, hn5, hn6, hn7, hn8, hn9, hn10]
    rw [hsp, htp, HOC.out, eS, eS]
    exact HD.out)
  clear hsp htp
  obtain ⟨av, pv, kv, av2, pl, N, M, hp, hr, _⟩ := HDL.out
  have HLP := Lib.hid (load_P g b L c at_ m av pv sp wB hp)
  have HRV := Lib.hid hr
  obtain ⟨zs, hzs⟩ : ∃ zs, zs = refS8 L sp.off at_ m := ⟨_, rfl⟩
  obtain ⟨zt, hzt⟩ : ∃ zt, zt = refS8 L tp.off at_ m := ⟨_, rfl⟩
  obtain ⟨TS, hTS⟩ : ∃ TS, TS = ldL sp L at_ m := ⟨_, rfl⟩
  obtain ⟨TT, hTT⟩ : ∃ TT, TT = ldL tp L at_ m := ⟨_, rfl⟩
  have HTS : Hid (∀ i, TS.getD i 0 < 256) := Lib.hid (by rw [hTS]; exact ldL_b hp.m.mem.1 _ _ _)
  have HTT : Hid (∀ i, TT.getD i 0 < 256) := Lib.hid (by rw [hTT]; exact ldL_b hr.ok _ _ _)
  rw [← hzs, ← hTS] at HLP
  have HQZ := Lib.hid (And.intro hzs (And.intro hzt (And.intro hTS hTT)))
  have HVV : Hid (stB oc L s t = ((zs == zt) && ((str TS).toList == (str TT).toList))) := Lib.hid (by
    rw [hzs, hzt, hTS, hTT, HSP.out.1, HSP.out.2, HOC.out]
    unfold stB
    rw [if_neg (by show ¬ (kd = 0 ∨ (kd : Int) = 1 ∨ (kd : Int) = 2); omega), if_neg (by show ¬ ((kd : Int) = 3 ∨ (kd : Int) = 4); omega), if_neg (by show ¬ ((kd : Int) = 5 ∨ (kd : Int) = 6); omega), if_neg (by show ¬ (kd : Int) = 10; omega)])
  clear hp hr hzs hzt hTS hTT
  go_wp2_with fail
  refine HLP.out.mono ?_
  rintro e x8 ⟨v8, rfl, ho8, hb8⟩
  have hd8 := HDL.out.next hb8
  have hX8 := hd8.has (List.mem_cons_self ..)
  have r1 : x8.cell? ⟨w.heap.size, 1, none⟩ = some (.int .i64 at_) := blk_cell hX8 1
  have r2 : x8.cell? ⟨w.heap.size, 2, none⟩ = some (.int .i64 m) := blk_cell hX8 2
  have r3 : x8.cell? ⟨w.heap.size, 3, none⟩ = some (.slice B1 nc e1) := blk_cell hX8 3
  have r4 : x8.cell? ⟨w.heap.size, 4, none⟩ = some (.slice B2 pc e2) := blk_cell hX8 4
  clear hX8
  have HD8 := Lib.hid hd8
  have hlr := load_R r L N M kv av2 pl tp at_ m HFF.out.2 x8 (HRV.out.next hb8)
  rw [← HQZ.out.2.1, ← HQZ.out.2.2.2] at hlr
  have HLR := Lib.hid hlr
  obtain ⟨A8, c8, rfl, hs8⟩ := ho8.bs HTS.out
  have HS8 := Lib.hid hs8
  clear hd8 ho8 hb8 hs8 hlr HLP
  obtain ⟨m8, hm8⟩ : ∃ m8, TS.length = m8 := ⟨_, rfl⟩
  rw [hm8] at HS8 ⊢
  clear hm8
  go_wp2_with fail
  refine HLR.out.mono ?_
  rintro e x9 ⟨v9, rfl, ho9, hb9⟩
  have HD9 := Lib.hid (HD8.out.next hb9)
  obtain ⟨A9, c9, rfl, hs9⟩ := ho9.bs HTT.out
  have hc8 : (convert 28 9 (.slice A8 m8 c8)).run Try.prog x9 = .ok (.string (str TS)) x9 := ((HS8.out.below hb9).more hb9.size).conv _ 5 _ Try.underlying28 Try.underlying5 Try.underlying9
  have hc9 : (convert 28 9 (.slice A9 TT.length c9)).run Try.prog x9 = .ok (.string (str TT)) x9 := hs9.conv _ 5 _ Try.underlying28 Try.underlying5 Try.underlying9
  have HF : Hid (Duo w0 x9 z g b L c r (stS oc L s) (stS oc L t)) := Lib.hid (by rw [← HSP.out.1, ← HSP.out.2]; exact HD9.out.sub (fun x hx => List.mem_cons_of_mem _ hx))
  clear ho9 hb9 hs9 HLR
  generalize str TS = XS at *
  generalize str TT = XT at *
  generalize TT.length = m9 at *
  by_cases he : (zs == zt) = true
  · go_wp2
    go_ret
    refine ⟨?_, HF.out⟩
    rw [HVV.out, he, Bool.true_and]
    rfl
  · have he2 : (zs == zt) = false := Bool.eq_false_iff.mpr he
    clear he
    go_wp2
    go_ret
    refine ⟨?_, HF.out⟩
    rw [HVV.out, he2, Bool.false_and]
    rfl
end
section
open Go.RowKit Go
set_option linter.unusedVariables false
set_option linter.unusedSimpArgs false
set_option maxRecDepth 100000
theorem step_any (w0 w : World) (z : List (Nat × Obj)) (g b L c : Nat) (r : RI) (s t : DSt) (h : Duo w0 w z g b L c r s t) (hks : s.k < 16384) (hkt : t.k < 16384) (o : O8) (B1 B2 : Option Addr) (e1 e2 : Nat) (hb1 : BS w0 w0.heap.size B1 o.b.length e1 o.b) (hb2 : BS w0 w0.heap.size B2 o.p.length e2 o.p) (hA1 : B1 = none → e1 = 0) (hA2 : B2 = none → e2 = 0) (hf : Fit8 o) :
    Calls Try.prog 10 #[.pointer (some ⟨g, 0, none⟩), .pointer (some ⟨r.g, 0, none⟩), .agg #[.int .i64 o.kind, .int .i64 o.at_, .int .i64 o.n, .slice B1 o.b.length e1, .slice B2 o.p.length e2]] w fun e w' => e = .returned (.bool (stB o.cut L s t)) ∧ Duo w0 w' z g b L c r (stS o.cut L s) (stS o.cut L t) := by
  obtain ⟨kd, at_, m, lb, lp⟩ := o
  by_cases hk0 : kd = 0
  · subst hk0
    exact step_0 w0 w z g b L c r s t h hks hkt at_ m lb lp B1 B2 e1 e2 hb1 hb2 hA1 hA2 hf.1 hf.2
  by_cases hk1 : kd = 1
  · subst hk1
    exact step_1 w0 w z g b L c r s t h hks hkt at_ m lb lp B1 B2 e1 e2 hb1 hb2 hA1 hA2 hf.1 hf.2
  by_cases hk2 : kd = 2
  · subst hk2
    exact step_2 w0 w z g b L c r s t h hks hkt at_ m lb lp B1 B2 e1 e2 hb1 hb2 hA1 hA2 hf.1 hf.2
  by_cases hk3 : kd = 3
  · subst hk3
    exact step_3 w0 w z g b L c r s t h hks hkt at_ m lb lp B1 B2 e1 e2 hb1 hb2 hA1 hA2 hf.1 hf.2
  by_cases hk4 : kd = 4
  · subst hk4
    exact step_4 w0 w z g b L c r s t h hks hkt at_ m lb lp B1 B2 e1 e2 hb1 hb2 hA1 hA2 hf.1 hf.2
  by_cases hk5 : kd = 5
  · subst hk5
    exact step_5 w0 w z g b L c r s t h hks hkt at_ m lb lp B1 B2 e1 e2 hb1 hb2 hA1 hA2 hf.1 hf.2
  by_cases hk6 : kd = 6
  · subst hk6
    exact step_6 w0 w z g b L c r s t h hks hkt at_ m lb lp B1 B2 e1 e2 hb1 hb2 hA1 hA2 hf.1 hf.2
  by_cases hk7 : kd = 7
  · subst hk7
    exact step_7 w0 w z g b L c r s t h hks hkt at_ m lb lp B1 B2 e1 e2 hb1 hb2 hA1 hA2 hf.1 hf.2
  by_cases hk8 : kd = 8
  · subst hk8
    exact step_8 w0 w z g b L c r s t h hks hkt at_ m lb lp B1 B2 e1 e2 hb1 hb2 hA1 hA2 hf.1 hf.2
  by_cases hk9 : kd = 9
  · subst hk9
    exact step_9 w0 w z g b L c r s t h hks hkt at_ m lb lp B1 B2 e1 e2 hb1 hb2 hA1 hA2 hf.1 hf.2
  by_cases hk10 : kd = 10
  · subst hk10
    exact step_10 w0 w z g b L c r s t h hks hkt at_ m lb lp B1 B2 e1 e2 hb1 hb2 hA1 hA2 hf.1 hf.2
  exact step_X w0 w z g b L c r s t h hks hkt kd hk0 hk1 hk2 hk3 hk4 hk5 hk6 hk7 hk8 hk9 hk10 at_ m lb lp B1 B2 e1 e2 hb1 hb2 hA1 hA2 hf.1 hf.2
theorem duo_same {w0 W : World} {z : List (Nat × Obj)} {g b L c : Nat} {r : RI} {s : DSt} (h : Duo w0 W z g b L c r s s) (hi : IntsA s.al) (hk : s.k ≤ 16384) :
    Calls Try.prog 9 #[.pointer (some ⟨g, 0, none⟩), .pointer (some ⟨r.g, 0, none⟩)] W fun e w' => e = .returned (.bool true) ∧ Below W.heap.size W w' := by
  obtain ⟨av, pv, kv, av2, pl, N, M, h1, h2, _⟩ := h
  exact same_any g b L c N M r av pv kv av2 pl s W h1 h2 hi hk
/-- behind some calls of both -/
def QuR (w : World) (g b L c : Nat) (r : RI) (n q : Nat) (iv : Value) (W : World) : Prop :=
  ∃ (i : Nat) (s : DSt), iv = .int .i64 (i : Int) ∧ i ≤ n ∧ Duo w W [] g b L c r s s ∧ s.k ≤ i ∧ s.k ≤ q ∧ IntsA s.al
end
end Go.Proofs.Ythigknolpdohoaa
