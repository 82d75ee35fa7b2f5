/-
  The walk of WordPad, where the statement leaves an order open.
-/
import Derived.Test.YtalbebcmihbnmaaWordC
import Derived.Deep.RegionWith
namespace Go.Proofs.Ytalbebcmihbnmaa
open Go.RowKit
set_option linter.unusedVariables false
theorem below3 {w w1 w2 w3 : World} (h1 : Below w.drew.heap.size w.drew w1) (h2 : Below w1.heap.size w1 w2) (h3 : Below w2.heap.size w2 w3) : Below w.heap.size w w3 := by
  have h0 : Below w.heap.size w w.drew := (Below.refl _ _).drew
  have e : w.drew.heap.size = w.heap.size := rfl
  have k1 : w.heap.size ≤ w1.heap.size := h1.size
  have k2 : w1.heap.size ≤ w2.heap.size := h2.size
  exact ((h0.trans (h1.mono (by omega))).trans (h2.mono k1)).trans (h3.mono (by omega))
set_option maxHeartbeats 1000000 in
theorem wordPad_any (A : Option Addr) (m c : Nat) (n : Int) (l : List Nat) (w : World) (hs : BS w w.heap.size A m c l) :
    Calls Try.prog 8 #[.slice A m c, .int .i64 n] w fun e w' => e = .returned (.bool true) ∧ Below w.heap.size w w' := by
  rcases (by omega : n ≤ 300 ∨ (300 < n ∧ n < 65000) ∨ 65000 ≤ n) with h | ⟨h, h2⟩ | h
  all_goals
    go_enter Try.func8, Try.ntmps8
    go_wp2_with fail
    refine (short_any _ _ _ l _ hs).mono ?_
    rintro e w1 ⟨rfl, hs1, rfl⟩
    clear hs
    have hm : (l.take 80).length ≤ 1000 := by rw [List.length_take]; omega
    generalize l.take 80 = m at *
    go_wp2_with fail
    go_region_with (first
      | (go_at_call 26; refine (pad_any _ _ _ _ m _ (by exact hs1) hm).mono ?_; rintro e w1 ⟨A1, c1, rfl, hb1, hx1⟩; have hc1 := conv_at hx1)
      | (go_at_call 27; refine (refPad_any _ _ _ _ m _ (by exact (hs1.dr.below hb1).more hb1.size) hm).mono ?_; rintro e w2 ⟨A2, c2, rfl, hb2, hx2⟩; have hc2 := conv_at hx2; have hc3 := conv_at (hx1.below hb2))
      | (go_at_call 19; refine (awake1_any _).mono ?_; rintro e w3 ⟨rfl, hb3⟩))
    all_goals
      have HB := Lib.hid (below3 hb1 hb2 hb3)
      clear hc1 hc2 hc3 hx1 hx2 hb1 hb2 hb3 hs1
      go_wp2
      go_ret
      exact ⟨rfl, HB.out⟩
end Go.Proofs.Ytalbebcmihbnmaa
