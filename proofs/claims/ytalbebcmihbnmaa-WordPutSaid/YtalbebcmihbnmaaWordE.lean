/-
  The walk of WordPut, where the statement leaves an order open.
-/
import Derived.Test.YtalbebcmihbnmaaWordC
import Derived.Deep.RegionWith
namespace Go.Proofs.Ytalbebcmihbnmaa
open Go.RowKit
set_option linter.unusedVariables false
theorem putI_len (n : Int) (v : Nat) : (putI n v).length ≤ 8 := by
  unfold putI; split
  · rw [putL_len]; omega
  · simp
theorem below5 {w w0 w1 w2 w3 w4 : World} (h0 : Below w.heap.size w w0) (h1 : Below w0.drew.heap.size w0.drew w1) (h2 : Below w1.heap.size w1 w2) (h3 : Below w2.heap.size w2 w3) (h4 : Below w3.heap.size w3 w4) :
    Below w.heap.size w w4 := by
  have k0 : w.heap.size ≤ w0.heap.size := h0.size
  have e : w0.drew.heap.size = w0.heap.size := rfl
  have k1 : w0.heap.size ≤ w1.heap.size := h1.size
  have k2 : w1.heap.size ≤ w2.heap.size := h2.size
  have k3 : w2.heap.size ≤ w3.heap.size := h3.size
  exact ((((h0.trans ((Below.refl w.heap.size w0).drew)).trans (h1.mono (by omega))).trans (h2.mono (by omega))).trans (h3.mono (by omega))).trans (h4.mono (by omega))
set_option maxHeartbeats 4000000 in
theorem wordPut_any (n : Int) (v : Nat) (hv : v < 2 ^ 64) (w : World) :
    Calls Try.prog 3 #[.int .i64 n, .int .u64 (v : Int)] w fun e w' => e = .returned (.bool true) ∧ Below w.heap.size w w' := by
  have hl8 := putI_len n v
  go_enter Try.func3, Try.ntmps3
  go_wp2_with fail
  refine (refPut_any n v hv _).mono ?_
  rintro e w0 ⟨A0, c0, rfl, hb0, hx0⟩
  have HL := Lib.hid hl8
  have hp := fun W => put_any n v hv W
  have hq := fun W => high_any n v hv W
  have HP := Lib.hid hp
  have HQ := Lib.hid hq
  clear hl8 hp hq
  generalize putI n v = l at *
  go_wp2_with fail
  have hc0 := conv_at hx0.dr
  go_region_with (first
    | (go_at_call 16; refine (HP.out _).mono ?_; rintro e w1 ⟨A1, c1, rfl, hb1, hx1⟩; have hy1 := (hx0.dr.below hb1).more hb1.size; have hc1 := conv_at hx1; have hd1 := conv_at hy1)
    | (go_at_call 17; refine (HQ.out _).mono ?_; rintro e w2 ⟨A2, c2, rfl, hb2, hx2⟩; have hy2 := (hy1.below hb2).more hb2.size; have hz2 := (hx1.below hb2).more hb2.size; have hc2 := conv_at hx2; rw [List.length_reverse] at hc2; have hd2 := conv_at hy2; have he2 := conv_at hz2)
    | (go_at_call 18; refine (turned_any _ _ _ l _ hy2 (by have := HL.out; omega)).mono ?_; rintro e w3 ⟨A3, c3, rfl, hb3, hx3⟩; have hc3 := conv_at hx3; rw [List.length_reverse] at hc3; have hd3 := conv_at (hx2.below hb3); rw [List.length_reverse] at hd3; have hg3 := conv_at (hz2.below hb3); have hh3 := conv_at (hy2.below hb3))
    | (go_at_call 19; refine (awake1_any _).mono ?_; rintro e w4 ⟨rfl, hb4⟩))
  all_goals
    have HB := Lib.hid (below5 hb0 hb1 hb2 hb3 hb4)
    clear hc0 hc1 hd1 hc2 hd2 he2 hc3 hd3 hg3 hh3 hx0 hx1 hy1 hx2 hy2 hz2 hx3 hb0 hb1 hb2 hb3 hb4 HP HQ
    go_wp2
    go_ret
    exact ⟨rfl, HB.out⟩
end Go.Proofs.Ytalbebcmihbnmaa
