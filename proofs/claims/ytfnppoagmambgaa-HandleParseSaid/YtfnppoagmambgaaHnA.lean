/-
  Handles: a place's number, a number's place, Make; the document's; the example of chapter 20.
-/
import Derived.Test.YtfnppoagmambgaaBits
import Derived.Test.YtfnppoagmambgaaProg
import Derived.Lib.Hide
namespace Go.Proofs.Ytfnppoagmambgaa
open Go.RowKit Go
set_option linter.unusedVariables false
set_option linter.unusedSimpArgs false
/-- a place as a value -/
abbrev plA (p s r : Int) : Array Value := #[.int .i64 p, .int .i64 s, .int .u64 r]
/-- may there be such a place -/
def HMay (p s r : Int) : Prop := 0 ≤ p ∧ p ≤ 63 ∧ 0 ≤ s ∧ s ≤ 15 ∧ 1 ≤ r ∧ r ≤ 281474976710655
instance (p s r : Int) : Decidable (HMay p s r) := by unfold HMay; infer_instance
/-- a number's parts -/
abbrev hP (h : Int) : Int := h / 72057594037927936
abbrev hS (h : Int) : Int := h / 281474976710656 % 256
abbrev hR (h : Int) : Int := h % 281474976710656
theorem and48 (h : Nat) (hh : h < 2 ^ 64) : bits .and .u64 (h : Int) 281474976710655 = (h : Int) % 281474976710656 := by
  have e := (bits_cast .u64 64 (by decide) wraps_u64 h 281474976710655 hh (by decide)).1
  rw [show h &&& 281474976710655 = h % 281474976710656 from Nat.and_two_pow_sub_one_eq_mod h 48] at e
  exact e.trans (by omega)
/-- what a number's place is -/
def PlV (h : Int) : Value := if HMay (hP h) (hS h) (hR h) then .tuple #[.agg (plA (hP h) (hS h) (hR h)), .bool true] else .tuple #[.agg (plA 0 0 0), .bool false]
theorem PlV_yes {h : Int} (hm : HMay (hP h) (hS h) (hR h)) : PlV h = .tuple #[.agg (plA (hP h) (hS h) (hR h)), .bool true] := if_pos hm
theorem PlV_no {h : Int} (hm : ¬ HMay (hP h) (hS h) (hR h)) : PlV h = .tuple #[.agg (plA 0 0 0), .bool false] := if_neg hm
theorem two_new (w : World) (a b : Obj) : Below w.heap.size w ((w.alloc a).alloc b) := ((Below.refl _ _).alloc (Nat.le_refl _) _).alloc (by simp) _
set_option maxRecDepth 100000 in
theorem hplace_any (h : Nat) (hh : h < 2 ^ 64) (w : World) :
    Calls Try.prog 11 #[.int .u64 (h : Int)] w fun e w' => e = .returned (PlV (h : Int)) ∧ Below w.heap.size w w' := by
  have tn := Lib.hid (two_new w)
  have e1 := and48 h hh
  rcases (by omega : 64 ≤ hP h ∨ (hP h < 64 ∧ 16 ≤ hS h) ∨ (hP h < 64 ∧ hS h < 16 ∧ hR h = 0) ∨ (hP h < 64 ∧ hS h < 16 ∧ ¬ hR h = 0)) with h1 | ⟨h1, h2⟩ | ⟨h1, h2, h3⟩ | ⟨h1, h2, h3⟩
  · rw [PlV_no (by unfold HMay; omega)]
    go_enter Try.func11, Try.ntmps11
    have a1 := decide_eq_true h1
    unfold hP at a1
    go_wp2
    exact bodyPost_ret (by simp [results, Try.results11, go_sem]) rfl ⟨rfl, tn.out _ _⟩
  · rw [PlV_no (by unfold HMay; omega)]
    go_enter Try.func11, Try.ntmps11
    have a1 := decide_eq_false (Int.not_le.mpr h1)
    have a2 := decide_eq_true h2
    unfold hP at a1
    unfold hS at a2
    go_wp2
    exact bodyPost_ret (by simp [results, Try.results11, go_sem]) rfl ⟨rfl, tn.out _ _⟩
  · rw [PlV_no (by unfold HMay; omega)]
    go_enter Try.func11, Try.ntmps11
    have a1 := decide_eq_false (Int.not_le.mpr h1)
    have a2 := decide_eq_false (Int.not_le.mpr h2)
    unfold hP at a1
    unfold hS at a2
    unfold hR at h3
    go_wp2
    exact bodyPost_ret (by simp [results, Try.results11, go_sem]) rfl ⟨rfl, tn.out _ _⟩
  · rw [PlV_yes (by unfold HMay; unfold hP hS hR at *; omega)]
    go_enter Try.func11, Try.ntmps11
    have a1 := decide_eq_false (Int.not_le.mpr h1)
    have a2 := decide_eq_false (Int.not_le.mpr h2)
    have a3 : (hR h == 0) = false := by rw [beq_eq_false_iff_ne]; exact h3
    unfold hP at a1
    unfold hS at a2
    unfold hR at a3
    go_wp2
    exact bodyPost_ret (by simp [results, Try.results11, go_sem]) rfl ⟨rfl, tn.out _ _⟩
theorem wrap_get (z : Int) : ∃ n : Nat, n < 2 ^ 64 ∧ IntKind.u64.wrap z = (n : Int) := ⟨(z % 18446744073709551616).toNat, by omega, by simp [IntKind.wrap, IntKind.bits, IntKind.signed]; omega⟩
/-- a place's parts in one number -/
theorem num_of (p s : Int) (r : Nat) (hr : r < 2 ^ 64) : ∃ h : Nat, h < 2 ^ 64 ∧ bits BinOp.or IntKind.u64 (bits BinOp.or IntKind.u64 (IntKind.u64.wrap (IntKind.u64.wrap p * 72057594037927936)) (IntKind.u64.wrap (IntKind.u64.wrap s * 281474976710656))) (r : Int) = (h : Int) ∧ (HMay p s (r : Int) → (h : Int) = (p * 256 + s) * 281474976710656 + r) := by
  obtain ⟨a, ha, ea⟩ := wrap_get (IntKind.u64.wrap p * 72057594037927936)
  obtain ⟨b, hb, eb⟩ := wrap_get (IntKind.u64.wrap s * 281474976710656)
  have hab : a ||| b < 2 ^ 64 := Nat.or_lt_two_pow ha hb
  refine ⟨(a ||| b) ||| r, Nat.or_lt_two_pow hab hr, by rw [ea, eb, or64 ha hb, or64 hab hr], fun hm => ?_⟩
  obtain ⟨h1, h2, h3, h4, h5, h6⟩ := hm
  obtain ⟨P, rfl⟩ : ∃ P : Nat, p = (P : Int) := ⟨p.toNat, by omega⟩
  obtain ⟨S, rfl⟩ : ∃ S : Nat, s = (S : Int) := ⟨s.toNat, by omega⟩
  have e1 : a = 2 ^ 56 * P := by
    rw [IntWalk.u64_in (P : Int) (by omega), IntWalk.u64_in _ (by omega)] at ea
    omega
  have e2 : b = 2 ^ 48 * S := by
    rw [IntWalk.u64_in (S : Int) (by omega), IntWalk.u64_in _ (by omega)] at eb
    omega
  have q1 : a ||| b = 2 ^ 48 * (256 * P + S) := by
    have := Nat.two_pow_add_eq_or_of_lt (i := 56) (b := b) (by omega) P
    rw [e1, ← this, e2]
    omega
  have q2 := Nat.two_pow_add_eq_or_of_lt (i := 48) (b := r) (by omega) (256 * P + S)
  rw [q1, ← q2]
  omega
set_option maxRecDepth 100000 in
theorem hnumber_any (p s : Int) (r : Nat) (hr : r < 2 ^ 64) (w : World) :
    Calls Try.prog 21 #[.agg (plA p s (r : Int))] w fun e w' => (∃ h : Nat, h < 2 ^ 64 ∧ e = .returned (.int .u64 (h : Int)) ∧ (HMay p s (r : Int) → (h : Int) = (p * 256 + s) * 281474976710656 + r)) ∧ Below w.heap.size w w' := by
  obtain ⟨h, h1, h2, h3⟩ := num_of p s r hr
  have H3 := Lib.hid h3
  clear h3
  go_enter Try.func21, Try.ntmps21
  go_wp2
  go_ret
  exact ⟨⟨h, h1, rfl, H3.out⟩, (Below.refl _ _).alloc (Nat.le_refl _) _⟩
set_option maxRecDepth 100000 in
theorem rmay_any (p s : Int) (r : Int) (w : World) :
    Calls Try.prog 9 #[.agg (plA p s r)] w fun e w' => e = .returned (.bool (decide (HMay p s r))) ∧ Below w.heap.size w w' := by
  go_enter Try.func9, Try.ntmps9
  go_wp2
  all_goals
    go_ret
    refine ⟨ret_bool ?_, (Below.refl _ _).alloc (Nat.le_refl _) _⟩
    simp only [HMay]
    grind
set_option maxRecDepth 100000 in
theorem rmake_any (p s r : Int) (hm : HMay p s r) (w : World) :
    Calls Try.prog 12 #[.agg (plA p s r)] w fun e w' => e = .returned (.int .u64 ((p * 256 + s) * 281474976710656 + r)) ∧ Below w.heap.size w w' := by
  obtain ⟨h1, h2, h3, h4, h5, h6⟩ := hm
  go_enter Try.func12, Try.ntmps12
  go_wp2
  go_ret
  exact ⟨rfl, (Below.refl _ _).alloc (Nat.le_refl _) _⟩
end Go.Proofs.Ytfnppoagmambgaa
