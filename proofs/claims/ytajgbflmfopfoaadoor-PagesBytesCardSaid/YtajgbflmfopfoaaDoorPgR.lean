/-
  PagesChecks; PagesUndo and PagesFirst.
-/
import Derived.Test.YtajgbflmfopfoaaDoorPgQ
namespace Go.Proofs.YtajgbflmfopfoaaDoor
open Go.RowKit Go Go.WideShapes Go.ChangeShapes Go.Deep
set_option linter.unusedVariables false
set_option linter.unusedSimpArgs false
set_option maxRecDepth 100000
set_option maxHeartbeats 4000000 in
theorem checks_any (A : Option Addr) (n c : Nat) (l : List Pg) (p : Pg) (w : World) (h : PS w A n c l) (hp : p.c ≤ 9223372036854775807 ∧ -9223372036854775808 ≤ p.r ∧ p.r ≤ 9223372036854775807) (hS : SZ w) :
    Calls Tryd.prog 4 #[.slice A n c, .agg #[.int .i64 p.k, .int .i64 p.c, .int .i64 p.r, .int .i64 p.s, .int .u64 p.n]] w fun e w' => e = .returned (.bool true) ∧ Below w.heap.size w w' := by
  obtain ⟨V, hV⟩ : ∃ V, V = w.alloc (.cells #[.int .i64 p.k, .int .i64 p.c, .int .i64 p.r, .int .i64 p.s, .int .u64 p.n] OpT) := ⟨_, rfl⟩
  have hsz : V.heap.size = w.heap.size + 1 := by rw [hV, box1]
  have hbV : Below w.heap.size w V := by rw [hV]; exact bel_alloc _ _
  have hbx : V.heap[w.heap.size]? = some (.cells #[.int .i64 p.k, .int .i64 p.c, .int .i64 p.r, .int .i64 p.s, .int .u64 p.n] OpT (0, 0)) := by rw [hV]; exact heap_alloc_new _ _
  have HBX : Hid (∀ W, Below V.heap.size V W → W.cell? ⟨w.heap.size, 0, none⟩ = some (.int .i64 p.k) ∧ W.cell? ⟨w.heap.size, 1, none⟩ = some (.int .i64 p.c) ∧ W.cell? ⟨w.heap.size, 2, none⟩ = some (.int .i64 p.r) ∧ W.cell? ⟨w.heap.size, 3, none⟩ = some (.int .i64 p.s) ∧ W.cell? ⟨w.heap.size, 4, none⟩ = some (.int .u64 p.n)) := Lib.hid (fun W hb => five ((hb.block _ (by omega)).trans hbx))
  have HLV : Hid (∀ W, Below V.heap.size V W → w.heap.size < W.heap.size) := Lib.hid (fun W hb => by have := hb.size; omega)
  have HFE := Lib.hid (few_any A n c l V (h.below hbV))
  have hl70 : (l.take 70).length ≤ 70 := by rw [List.length_take]; omega
  have HPL : Hid (∀ W, PS V A (l.take 70).length c (l.take 70) → Below V.heap.size V W → PS W A (l.take 70).length c (l.take 70)) := Lib.hid (fun W q hb => q.below hb)
  generalize l.take 70 = l7 at *
  have HSV : Hid (∀ W, Below V.heap.size V W → SZ W) := Lib.hid (fun W hb => (hS.below hbV).below hb)
  have HBW := Lib.hid hbV
  have HPP := Lib.hid hp
  have HV := Lib.hid hV
  obtain ⟨x, hx⟩ : ∃ x, x = mayL l7 := ⟨_, rfl⟩
  have HCK : Hid (∀ A c W, PS W A l7.length c l7 → SZ W → Calls Tryd.prog 12 #[.slice A l7.length c] W fun e w' => e = .returned (.int .i64 (if x then 0 else 4)) ∧ Below W.heap.size W w') := Lib.hid (fun A c W h1 h2 => by rw [hx]; exact check_any A _ c l7 W h1 h2)
  have HMA : Hid (∀ A c W, PS W A l7.length c l7 → SZ W → Calls Tryd.prog 14 #[.slice A l7.length c] W fun e w' => e = .returned (.bool x) ∧ Below W.heap.size W w') := Lib.hid (fun A c W h1 h2 => by rw [hx]; exact rmay_any A _ c l7 W h1 h2)
  clear h hS hbV hbx hsz hp hx
  rw [hV] at HFE
  clear hV
  obtain ⟨q, hq⟩ : ∃ q, q = l7.length := ⟨_, rfl⟩
  have HQ := Lib.hid hq
  rw [← hq] at HFE hl70
  clear hq
  cases x
  · rw [if_neg (by decide)] at HCK
    go_enter Tryd.func4, Tryd.ntmps4
    go_wp2_with fail
    refine HFE.out.mono ?_
    rintro e w0 ⟨rfl, hw0, hp7⟩
    have HP7 : Hid (PS V A q c l7) := Lib.hid (by rw [HV.out]; exact hp7)
    have HW0 : Hid (V = w0) := Lib.hid (by rw [HV.out]; exact hw0)
    have HB0 : Hid (Below V.heap.size V w0) := Lib.hid (by rw [← HW0.out]; exact Below.refl _ _)
    clear hw0 hp7
    rw [HQ.out] at HP7
    go_wp2_with fail
    rw [HQ.out]
    refine (ours_any A _ c l7 w0 (HPL.out _ HP7.out HB0.out) (by rw [← HQ.out]; omega)).mono ?_
    rintro e w1 ⟨A3, c3', rfl, hmi, hx1, hb⟩
    clear hx1
    have HB1 := Lib.hid (HB0.out.trans (hb.mono HB0.out.size))
    have HMI := Lib.hid hmi
    clear hb hmi
    go_wp2_with fail
    refine (HCK.out A3 c3' w1 HMI.out (HSV.out _ HB1.out)).mono ?_
    rintro e w2 ⟨rfl, hb⟩
    have HB2 := Lib.hid (HB1.out.trans (hb.mono HB1.out.size))
    clear hb
    go_wp2_with fail
    refine (HMA.out A c w2 (HPL.out _ HP7.out HB2.out) (HSV.out _ HB2.out)).mono ?_
    rintro e w3 ⟨rfl, hb⟩
    have HB3 := Lib.hid (HB2.out.trans (hb.mono HB2.out.size))
    clear hb
    go_wp2_with fail
    refine (HMA.out A c w3 (HPL.out _ HP7.out HB3.out) (HSV.out _ HB3.out)).mono ?_
    rintro e w4 ⟨rfl, hb⟩
    have HB4 := Lib.hid (HB3.out.trans (hb.mono HB3.out.size))
    clear hb
    obtain ⟨c0, c1, c2, c3, c4⟩ := HBX.out _ HB4.out
    have hlv4 := HLV.out _ HB4.out
    go_wp2_with fail
    refine (step_any A _ c l7 p.k p.c p.r p.s p.n w4 (HPL.out _ HP7.out HB4.out) (HSV.out _ HB4.out) (by rw [← HQ.out]; omega) HPP.out.1 HPP.out.2.1 HPP.out.2.2).mono ?_
    rintro e w5 ⟨l', A', c', hx1, rfl, hx2, hb⟩
    have HB5 := Lib.hid (HB4.out.trans (hb.mono HB4.out.size))
    clear hb hx1 hx2 c0 c1 c2 c3 c4
    go_wp2_with fail
    refine (awake19_any _ (HSV.out _ HB5.out)).mono ?_
    rintro e w6 ⟨rfl, hb⟩
    have HB6 := Lib.hid (HBW.out.trans ((HB5.out.trans (hb.mono HB5.out.size)).mono HBW.out.size))
    clear hb
    go_wp2
    go_ret
    exact ⟨rfl, HB6.out⟩
  · rw [if_pos rfl] at HCK
    go_enter Tryd.func4, Tryd.ntmps4
    go_wp2_with fail
    refine HFE.out.mono ?_
    rintro e w0 ⟨rfl, hw0, hp7⟩
    have HP7 : Hid (PS V A q c l7) := Lib.hid (by rw [HV.out]; exact hp7)
    have HW0 : Hid (V = w0) := Lib.hid (by rw [HV.out]; exact hw0)
    have HB0 : Hid (Below V.heap.size V w0) := Lib.hid (by rw [← HW0.out]; exact Below.refl _ _)
    clear hw0 hp7
    rw [HQ.out] at HP7
    go_wp2_with fail
    rw [HQ.out]
    refine (ours_any A _ c l7 w0 (HPL.out _ HP7.out HB0.out) (by rw [← HQ.out]; omega)).mono ?_
    rintro e w1 ⟨A3, c3', rfl, hmi, hx1, hb⟩
    clear hx1
    have HB1 := Lib.hid (HB0.out.trans (hb.mono HB0.out.size))
    have HMI := Lib.hid hmi
    clear hb hmi
    go_wp2_with fail
    refine (HCK.out A3 c3' w1 HMI.out (HSV.out _ HB1.out)).mono ?_
    rintro e w2 ⟨rfl, hb⟩
    have HB2 := Lib.hid (HB1.out.trans (hb.mono HB1.out.size))
    clear hb
    go_wp2_with fail
    refine (HMA.out A c w2 (HPL.out _ HP7.out HB2.out) (HSV.out _ HB2.out)).mono ?_
    rintro e w3 ⟨rfl, hb⟩
    have HB3 := Lib.hid (HB2.out.trans (hb.mono HB2.out.size))
    clear hb
    go_wp2_with fail
    refine (HMA.out A c w3 (HPL.out _ HP7.out HB3.out) (HSV.out _ HB3.out)).mono ?_
    rintro e w4 ⟨rfl, hb⟩
    have HB4 := Lib.hid (HB3.out.trans (hb.mono HB3.out.size))
    clear hb
    obtain ⟨c0, c1, c2, c3, c4⟩ := HBX.out _ HB4.out
    have hlv4 := HLV.out _ HB4.out
    go_wp2_with fail
    refine (step_any A _ c l7 p.k p.c p.r p.s p.n w4 (HPL.out _ HP7.out HB4.out) (HSV.out _ HB4.out) (by rw [← HQ.out]; omega) HPP.out.1 HPP.out.2.1 HPP.out.2.2).mono ?_
    rintro e w5 ⟨l', A', c', hx1, rfl, hx2, hb⟩
    have HB5 := Lib.hid (HB4.out.trans (hb.mono HB4.out.size))
    clear hb hx1 hx2 c0 c1 c2 c3 c4
    go_wp2_with fail
    refine (awake19_any _ (HSV.out _ HB5.out)).mono ?_
    rintro e w6 ⟨rfl, hb⟩
    have HB6 := Lib.hid (HBW.out.trans ((HB5.out.trans (hb.mono HB5.out.size)).mono HBW.out.size))
    clear hb
    go_wp2
    go_ret
    exact ⟨rfl, HB6.out⟩
section
variable {H : Type} {enc : TypeId × Value → H} {w : World}
theorem op_open {g : Array Value} {d : DataW H} {p : List MemPlace} (h : DataW.Trod enc Tryd.prog w 0 (fun _ => true) true 26 (.agg g) d p) :
    ∃ q : Pg, g = #[.int .i64 q.k, .int .i64 q.c, .int .i64 q.r, .int .i64 q.s, .int .u64 q.n] ∧ q.c ≤ 9223372036854775807 ∧ -9223372036854775808 ≤ q.r ∧ q.r ≤ 9223372036854775807 := by
  obtain ⟨fuel, hfu⟩ := h
  obtain ⟨ys, n', _, _, hl, hyl, hf⟩ := DataW.trod_struct Tryd.underlying26 hfu
  have hc5 : Tryd.prog.cellsOf 26 = 5 := by kernel_rfl
  rw [hc5] at hl
  have hyl5 : ys.length = 5 := hyl
  have c1 : Tryd.prog.cellsOf 3 = 1 := by kernel_rfl
  have c2 : Tryd.prog.cellsOf 24 = 1 := by kernel_rfl
  have hg : (Value.agg g).cells.toList = g.toList := by simp [Value.cells]
  rw [hg] at hl hf
  obtain ⟨l⟩ := g
  match l, hl with
  | [v0, v1, v2, v3, v4], _ =>
    have r0 : DataW.trod enc Tryd.prog w 0 (fun _ => true) true n' 3 (([v0, v1, v2, v3, v4].drop 0).take (Tryd.prog.cellsOf 3)) = ys[0]? := hf 0 _ rfl
    have r1 : DataW.trod enc Tryd.prog w 0 (fun _ => true) true n' 3 (([v0, v1, v2, v3, v4].drop 1).take (Tryd.prog.cellsOf 3)) = ys[1]? := hf 1 _ rfl
    have r2 : DataW.trod enc Tryd.prog w 0 (fun _ => true) true n' 3 (([v0, v1, v2, v3, v4].drop 2).take (Tryd.prog.cellsOf 3)) = ys[2]? := hf 2 _ rfl
    have r3 : DataW.trod enc Tryd.prog w 0 (fun _ => true) true n' 3 (([v0, v1, v2, v3, v4].drop 3).take (Tryd.prog.cellsOf 3)) = ys[3]? := hf 3 _ rfl
    have r4 : DataW.trod enc Tryd.prog w 0 (fun _ => true) true n' 24 (([v0, v1, v2, v3, v4].drop 4).take (Tryd.prog.cellsOf 24)) = ys[4]? := hf 4 _ rfl
    rw [c1] at r0 r1 r2 r3
    rw [c2] at r4
    have q : ∀ j, j < 5 → ∃ y, ys[j]? = some y := fun j hj => ⟨_, List.getElem?_eq_getElem (by omega)⟩
    obtain ⟨y0, hy0⟩ := q 0 (by omega)
    obtain ⟨y1, hy1⟩ := q 1 (by omega)
    obtain ⟨y2, hy2⟩ := q 2 (by omega)
    obtain ⟨y3, hy3⟩ := q 3 (by omega)
    obtain ⟨y4, hy4⟩ := q 4 (by omega)
    rw [hy0] at r0
    rw [hy1] at r1
    rw [hy2] at r2
    rw [hy3] at r3
    rw [hy4] at r4
    obtain ⟨z0, q0, _, w0⟩ := DataW.trod_int Tryd.underlying3 r0
    obtain ⟨z1, q1, _, w1⟩ := DataW.trod_int Tryd.underlying3 r1
    obtain ⟨z2, q2, _, w2⟩ := DataW.trod_int Tryd.underlying3 r2
    obtain ⟨z3, q3, _, w3⟩ := DataW.trod_int Tryd.underlying3 r3
    obtain ⟨z4, q4, _, w4⟩ := DataW.trod_int Tryd.underlying24 r4
    simp only [List.drop_zero, List.drop_succ_cons, List.take_succ_cons, List.take_zero, List.cons.injEq, and_true] at q0 q1 q2 q3 q4
    subst q0 q1 q2 q3 q4
    exact ⟨⟨z0, z1, z2, z3, z4⟩, rfl, (bounds_i64 w1).2, (bounds_i64 w2).1, (bounds_i64 w2).2⟩
end
end Go.Proofs.YtajgbflmfopfoaaDoor
