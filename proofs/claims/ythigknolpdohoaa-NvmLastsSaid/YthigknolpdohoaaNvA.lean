/-
  A device: its length, whether it is off, whether there are such bytes, why not.
-/
import Derived.Test.YthigknolpdohoaaRows
import Derived.Test.YthigknolpdohoaaBits
import Derived.WalkKit
import Derived.WalkSpells
import Derived.WalkLawsBesides
import Derived.Lib.Hide
namespace Go.Proofs.Ythigknolpdohoaa
open Go.RowKit Go
set_option linter.unusedVariables false
set_option linter.unusedSimpArgs false
/-- the five cells of a device -/
def DevB (W : World) (g : Nat) (lv : Value) (off : Bool) (av : Value) (u : Int) (pv : Value) : Prop := W.heap[g]? = some (.cells #[lv, .bool off, av, .int .i64 u, pv] 52 (0, 0))
section
variable {W W' : World} {g : Nat} {lv av pv : Value} {off : Bool} {u : Int}
theorem DevB.lt (h : DevB W g lv off av u pv) : g < W.heap.size := blk_lt h
theorem DevB.lines (h : DevB W g lv off av u pv) : W.cell? ⟨g, 0, none⟩ = some lv := blk_cell h 0
theorem DevB.offC (h : DevB W g lv off av u pv) : W.cell? ⟨g, 1, none⟩ = some (.bool off) := blk_cell h 1
theorem DevB.acts (h : DevB W g lv off av u pv) : W.cell? ⟨g, 2, none⟩ = some av := blk_cell h 2
theorem DevB.until (h : DevB W g lv off av u pv) : W.cell? ⟨g, 3, none⟩ = some (.int .i64 u) := blk_cell h 3
theorem DevB.picks (h : DevB W g lv off av u pv) : W.cell? ⟨g, 4, none⟩ = some pv := blk_cell h 4
theorem DevB.free (h : DevB W g lv off av u pv) (i : Nat) : W.frozen? ⟨g, i, none⟩ = false := blk_free h i
theorem DevB.next (h : DevB W g lv off av u pv) (hb : Below W.heap.size W W') : DevB W' g lv off av u pv := (hb.block g h.lt).trans h
end
set_option maxHeartbeats 400000 in
theorem len8_any (g n c : Nat) (A : Option Addr) (off : Bool) (av pv : Value) (u : Int) (w : World) (h : DevB w g (.slice A n c) off av u pv) (hn : n ≤ 1024) :
    Calls Try.prog 24 #[.pointer (some ⟨g, 0, none⟩)] w fun e w' => e = .returned (.int .i64 (64 * (n : Int))) ∧ w = w' := by
  have k0 := h.lines
  clear h
  go_enter Try.func24, Try.ntmps24
  go_wp2
  go_ret
  exact ⟨rfl, rfl⟩
theorem len8_nil (w : World) : Calls Try.prog 24 #[.pointer none] w fun e w' => e = .returned (.int .i64 0) ∧ w = w' := by
  go_enter Try.func24, Try.ntmps24
  go_wp2
  go_ret
  exact ⟨rfl, rfl⟩
set_option maxHeartbeats 400000 in
theorem down8_any (g : Nat) (lv : Value) (off : Bool) (av pv : Value) (u : Int) (w : World) (h : DevB w g lv off av u pv) :
    Calls Try.prog 23 #[.pointer (some ⟨g, 0, none⟩)] w fun e w' => e = .returned (.bool off) ∧ w = w' := by
  have k1 := h.offC
  clear h
  go_enter Try.func23, Try.ntmps23
  go_wp2
  go_ret
  exact ⟨by simp, rfl⟩
/-- are there n bytes from at on, of so many lines? -/
def hasB (L : Nat) (at_ n : Int) : Bool := decide (0 ≤ at_ ∧ at_ ≤ 64 * (L : Int) ∧ 0 ≤ n ∧ n ≤ 64 * (L : Int) - at_)
set_option maxHeartbeats 1000000 in
theorem has_any (g L c : Nat) (A : Option Addr) (off : Bool) (av pv : Value) (u at_ n : Int) (w : World) (h : DevB w g (.slice A L c) off av u pv) (hL : L ≤ 1024) :
    Calls Try.prog 59 #[.pointer (some ⟨g, 0, none⟩), .int .i64 at_, .int .i64 n] w fun e w' => e = .returned (.bool (hasB L at_ n)) ∧ w = w' := by
  have HL := Lib.hid (fun W (hW : DevB W g (.slice A L c) off av u pv) => len8_any g L c A off av pv u W hW hL)
  have HD := Lib.hid h
  clear h
  by_cases h1 : 0 ≤ at_
  · by_cases h2 : at_ ≤ 64 * (L : Int)
    · by_cases h3 : 0 ≤ n
      · by_cases h4 : n ≤ 64 * (L : Int) - at_
        · have HR : Hid (hasB L at_ n = true) := Lib.hid (decide_eq_true ⟨h1, h2, h3, h4⟩)
          go_enter Try.func59, Try.ntmps59
          go_wp2_with (go_at_call 24; (with_reducible refine (HL.out _ HD.out).mono ?_); rintro e w' ⟨rfl, rfl⟩)
          go_ret
          exact ⟨by rw [HR.out]; rfl, rfl⟩
        · have HR : Hid (hasB L at_ n = false) := Lib.hid (decide_eq_false (fun q => h4 q.2.2.2))
          have d4 : decide (n ≤ 64 * (L : Int) - at_) = false := decide_eq_false h4
          clear h4
          go_enter Try.func59, Try.ntmps59
          go_wp2_with (go_at_call 24; (with_reducible refine (HL.out _ HD.out).mono ?_); rintro e w' ⟨rfl, rfl⟩)
          go_ret
          exact ⟨by rw [HR.out]; rfl, rfl⟩
      · have HR : Hid (hasB L at_ n = false) := Lib.hid (decide_eq_false (fun q => h3 q.2.2.1))
        have d3 : decide (0 ≤ n) = false := decide_eq_false h3
        clear h3
        go_enter Try.func59, Try.ntmps59
        go_wp2_with (go_at_call 24; (with_reducible refine (HL.out _ HD.out).mono ?_); rintro e w' ⟨rfl, rfl⟩)
        go_ret
        exact ⟨by rw [HR.out]; rfl, rfl⟩
    · have HR : Hid (hasB L at_ n = false) := Lib.hid (decide_eq_false (fun q => h2 q.2.1))
      have d2 : decide (at_ ≤ 64 * (L : Int)) = false := decide_eq_false h2
      clear h2
      go_enter Try.func59, Try.ntmps59
      go_wp2_with (go_at_call 24; (with_reducible refine (HL.out _ HD.out).mono ?_); rintro e w' ⟨rfl, rfl⟩)
      go_ret
      exact ⟨by rw [HR.out]; rfl, rfl⟩
  · have HR : Hid (hasB L at_ n = false) := Lib.hid (decide_eq_false (fun q => h1 q.1))
    have d1 : decide (0 ≤ at_) = false := decide_eq_false h1
    clear h1
    go_enter Try.func59, Try.ntmps59
    go_wp2
    go_ret
    exact ⟨by rw [HR.out]; rfl, rfl⟩
/-- why n bytes from at on can't be had: ErrDown, ErrRange, OK -/
def refS8 (L : Nat) (off : Bool) (at_ n : Int) : Int := if off then 8 else if hasB L at_ n then 0 else 3
set_option maxHeartbeats 1000000 in
theorem refuses_any (g L c : Nat) (A : Option Addr) (off : Bool) (av pv : Value) (u at_ n : Int) (w : World) (h : DevB w g (.slice A L c) off av u pv) (hL : L ≤ 1024) :
    Calls Try.prog 51 #[.pointer (some ⟨g, 0, none⟩), .int .i64 at_, .int .i64 n] w fun e w' => e = .returned (.int .i64 (refS8 L off at_ n)) ∧ w = w' := by
  have HH := Lib.hid (has_any g L c A off av pv u at_ n w h hL)
  have k1 := h.offC
  clear h
  cases off
  · have hb : hasB L at_ n = true ∨ hasB L at_ n = false := by cases hasB L at_ n <;> simp
    have HR : Hid (refS8 L false at_ n = if hasB L at_ n then 0 else 3) := Lib.hid rfl
    generalize hasB L at_ n = q at *
    rcases hb with rfl | rfl
    · go_enter Try.func51, Try.ntmps51
      go_wp2_with (go_at_call 59; (with_reducible refine HH.out.mono ?_); rintro e w' ⟨rfl, rfl⟩)
      go_ret
      exact ⟨by rw [HR.out]; rfl, rfl⟩
    · go_enter Try.func51, Try.ntmps51
      go_wp2_with (go_at_call 59; (with_reducible refine HH.out.mono ?_); rintro e w' ⟨rfl, rfl⟩)
      go_ret
      exact ⟨by rw [HR.out]; rfl, rfl⟩
  · have HR : Hid (refS8 L true at_ n = 8) := Lib.hid rfl
    go_enter Try.func51, Try.ntmps51
    go_wp2
    go_ret
    exact ⟨by rw [HR.out]; rfl, rfl⟩
theorem refuses_nil (at_ n : Int) (w : World) : Calls Try.prog 51 #[.pointer none, .int .i64 at_, .int .i64 n] w fun e w' => e = .returned (.int .i64 2) ∧ w = w' := by
  go_enter Try.func51, Try.ntmps51
  go_wp2
  go_ret
  exact ⟨rfl, rfl⟩
set_option maxHeartbeats 400000 in
/-- no Arm: nothing goes -/
theorem goes_no (g : Nat) (lv : Value) (off : Bool) (av pv : Value) (w : World) (h : DevB w g lv off av 0 pv) :
    Calls Try.prog 61 #[.pointer (some ⟨g, 0, none⟩)] w fun e w' => e = .returned (.bool false) ∧ w = w' := by
  have k3 := h.until
  clear h
  go_enter Try.func61, Try.ntmps61
  go_wp2
  go_ret
  exact ⟨rfl, rfl⟩
end Go.Proofs.Ythigknolpdohoaa
