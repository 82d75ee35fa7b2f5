/-
  ShaPad's walk, where the statement leaves an order open.
-/
import Derived.Test.YtcioonadjmkbcaaShaQ
import Derived.Test.YtcioonadjmkbcaaShaJ
import Derived.Deep.RegionWith
namespace Go.Proofs.Ytcioonadjmkbcaa
open Go.RowKit Go
set_option linter.unusedVariables false
theorem conv_at {w : World} {B n c : Nat} {A : Option Addr} {l : List Nat} (h : BS w B A n c l) : (convert 33 9 (.slice A n c)).run Try.prog w = .ok (.string (str l)) w :=
  h.conv _ 5 _ Try.underlying33 Try.underlying5 Try.underlying9
set_option maxHeartbeats 400000 in
theorem pad_no (n : Int) (h : n < 0 ∨ 1099511627776 < n) (w : World) : Calls Try.prog 29 #[.int .i64 n] w fun e w' => e = .returned (.slice none 0 0) ∧ w = w' := by
  rcases h with h | h
  all_goals
    go_enter Try.func29, Try.ntmps29
    go_wp2
    go_ret
    exact ⟨rfl, rfl⟩
set_option maxHeartbeats 400000 in
theorem shaPad_out (n : Int) (h : n < 0 ∨ 1099511627776 < n) (w : World) : Calls Try.prog 6 #[.int .i64 n] w fun e w' => e = .returned (.bool true) ∧ Below w.heap.size w w' := by
  have HP := Lib.hid (pad_no n h)
  rcases h with h | h
  all_goals
    go_enter Try.func6, Try.ntmps6
    go_wp2_with fail
    refine (HP.out _).mono ?_
    rintro e w' ⟨rfl, rfl⟩
    go_wp2_with fail
    refine (awake_any _).mono ?_
    rintro e w1 ⟨rfl, hb⟩
    go_wp2
    go_ret
    exact ⟨rfl, hb⟩
theorem pad_len_mod (n : Nat) : (n + (Sha.pad n).length) % 64 = 0 := by
  unfold Sha.pad
  simp only [List.length_append, List.length_cons, List.length_replicate, List.length_reverse, putL_len]
  omega
set_option maxHeartbeats 8000000 in
set_option maxRecDepth 100000 in
theorem shaPad_in (n : Nat) (hn : n ≤ 1099511627776) (w : World) : Calls Try.prog 6 #[.int .i64 (n : Int)] w fun e w' => e = .returned (.bool true) ∧ Below w.heap.size w w' := by
  have HP := Lib.hid (pad_yes n hn)
  have HR := Lib.hid (refPad_yes n hn)
  have hm := pad_len_mod n
  have hlen := pad_len n
  go_enter Try.func6, Try.ntmps6
  go_wp2_with fail
  refine (HP.out _).mono ?_
  rintro e w1 ⟨A1, c1, rfl, hb1, hx1, _⟩
  generalize Sha.pad n = l at *
  generalize hL : l.length = L at *
  clear hL HP
  go_wp2_with fail
  have hc1 := conv_at (hx1.dr)
  have q1 : IntKind.i64.wrap ((n : Int) + (L : Int)) = (n : Int) + (L : Int) := IntWalk.i64_in _ (by omega)
  have q2 : ((n : Int) + (L : Int)).tmod 64 = 0 := by rw [Int.tmod_eq_emod_of_nonneg (by omega)]; omega
  have HX1 := Lib.hid hx1.dr
  have HB1 := Lib.hid hb1
  clear hx1 hb1 hm
  go_region_with (first
    | (go_at_call 30; (with_reducible refine (HR.out _).mono ?_); rintro e w2 ⟨A2, c2, he2, hb2, hx2, _⟩; subst he2; have hc2 := conv_at hx2; have hc3 := conv_at (HX1.out.below hb2))
    | (go_at_call 21; refine (awake_any _).mono ?_; rintro e w3 ⟨rfl, hb3⟩))
  all_goals
    have HB : Below w.heap.size w w3 := by
      have h2 : Below w1.heap.size w1 w2 := ⟨hb2.os, hb2.tape, hb2.output, hb2.size, hb2.block⟩
      have e1 := HB1.out.size
      have e2 := h2.size
      exact (HB1.out.trans (h2.mono e1)).trans (hb3.mono (by omega))
    have HBB := Lib.hid HB
    clear HB hc1 hc2 hc3 hx2 hb2 hb3 q1 q2
    go_wp2
    go_ret
    exact ⟨rfl, HBB.out⟩
theorem shaPad_any (n : Int) (w : World) : Calls Try.prog 6 #[.int .i64 n] w fun e w' => e = .returned (.bool true) ∧ Below w.heap.size w w' := by
  by_cases h : 0 ≤ n ∧ n ≤ 1099511627776
  · obtain ⟨k, rfl⟩ : ∃ k : Nat, n = (k : Int) := ⟨n.toNat, by omega⟩
    exact shaPad_in k (by omega) w
  · exact shaPad_out n (by omega) w
end Go.Proofs.Ytcioonadjmkbcaa
