/-
  The walk of WordSame, where the statement leaves an order open.
-/
import Derived.Test.YtalbebcmihbnmaaWordC
import Derived.Deep.RegionWith
namespace Go.Proofs.Ytalbebcmihbnmaa
open Go.RowKit
set_option linter.unusedVariables false
theorem same_eq (A A2 : Option Addr) (n c n2 c2 B : Nat) (l l2 : List Nat) (w : World) (hs : BS w B A n c l) (hs2 : BS w B A2 n2 c2 l2) :
    Calls Try.prog 24 #[.slice A n c, .slice A2 n2 c2] w fun e w' => e = .returned (.bool ((str l).toList == (str l2).toList)) ∧ w = w' := same_any A A2 n c n2 c2 B l l2 w hs hs2
def SameRel (w : World) (l : List Nat) (z k : Value) (wr : World) : Prop := ∃ j : Nat, z = .bool (allZ (l.take j)) ∧ k = .int .i64 (j : Int) ∧ j ≤ l.length ∧ w = wr
theorem allZ_step {l : List Nat} {j : Nat} (hj : j < l.length) : allZ (l.take (j + 1)) = (allZ (l.take j) && (l.getD j 0 == 0)) := by
  rw [take_succ_getD l j hj]
  simp [allZ, List.all_append]
set_option maxHeartbeats 2000000 in
theorem wordSame_any (A A2 : Option Addr) (n c n2 c2 : Nat) (l l2 : List Nat) (w : World) (hs : BS w w.heap.size A n c l) (hs2 : BS w w.heap.size A2 n2 c2 l2) :
    Calls Try.prog 7 #[.slice A n c, .slice A2 n2 c2] w fun e w' => e = .returned (.bool true) ∧ Below w.heap.size w w' := by
  go_enter Try.func7, Try.ntmps7
  go_wp2_with fail
  refine (short_any _ _ _ l _ hs).mono ?_
  rintro e w1 ⟨rfl, ht, hw⟩
  have hm : (l.take 80).length ≤ 1000 := by rw [List.length_take]; omega
  generalize l.take 80 = m at *
  subst hw
  go_wp2_with fail
  refine (short_any _ _ _ l2 _ hs2).mono ?_
  rintro e w1 ⟨rfl, ht2, hw⟩
  generalize l2.take 80 = m2 at *
  subst hw
  have HT := Lib.hid ht
  have HT2 := Lib.hid ht2
  have hcap := ht.cap
  clear ht ht2 hs hs2
  go_wp2
  go_loop [5, 14] (fun z k => SameRel w m z k w) (fun _ k => (m.length - intOf k).toNat)
  case atStart => exact ⟨0, rfl, rfl, by omega, rfl⟩
  case round =>
    obtain ⟨j, rfl, rfl, hj, _⟩ := hrel
    by_cases hlt : j < m.length
    · obtain ⟨b, o, rfl, _, hcell⟩ := HT.out.at_ (by omega)
      have k1 := hcell j hlt
      have hst := allZ_step hlt
      clear hcell
      generalize m.getD j 0 = x at *
      have HS := Lib.hid hst
      clear hst
      generalize allZ (m.take j) = z at *
      cases z
      all_goals
        go_wp2
        go_round
        case rel => exact ⟨j + 1, by rw [HS.out]; first | rfl | (congr 1; rw [Bool.eq_iff_iff]; simp), rfl, by omega, rfl⟩
        case measure => simp [intOf]; omega
    · obtain rfl : j = m.length := by omega
      have hc1 := conv_at HT.out.dr
      have hc2 := conv_at HT2.out.dr
      go_wp2
      go_region_with (first
        | (go_at_call 24; first
            | ((with_reducible refine (same_eq _ _ _ _ _ _ _ m m2 _ (by exact HT.out.dr) (by exact HT2.out.dr)).mono ?_); rintro e w1 ⟨rfl, rfl⟩)
            | ((with_reducible refine (same_eq _ _ _ _ _ _ _ m m _ (by exact HT.out.dr) (by exact HT.out.dr)).mono ?_); rintro e w1 ⟨rfl, rfl⟩))
        | (go_at_call 25; refine (zero_any _ _ _ _ m _ (by exact HT.out.dr) hm).mono ?_; rintro e w2 ⟨rfl, rfl⟩)
        | (go_at_call 19; refine (awake1_any _).mono ?_; rintro e w4 ⟨rfl, hb4⟩))
      all_goals
        have HB := Lib.hid ((Below.refl w.heap.size w).drew.trans hb4)
        clear hc1 hc2 hb4
        go_wp2
        go_ret
        exact ⟨rfl, HB.out⟩
end Go.Proofs.Ytalbebcmihbnmaa
