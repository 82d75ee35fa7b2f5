/-
  Geometries: plain numbers; the program's counts.
-/
import Derived.Test.YtnalebocfbbpdaaProg
import Derived.WalkKit
import Derived.OpenShut
import Derived.Below
import Derived.Lib.Hide
import Derived.Test.YtnalebocfbbpdaaCls
import Derived.Test.YtnalebocfbbpdaaBits
namespace Go.Proofs.Ytnalebocfbbpdaa
open Go.RowKit Go
set_option linter.unusedVariables false
namespace Geo
def mp (p : Nat) : Nat := (p + 15) / 16
def se (p : Nat) : Nat := 1 + mp p + p
def ep (p : Nat) : Nat := (se p + 31) / 32
def lv (p : Nat) : Nat := 1 + ep p + se p
def tot (p t : Nat) : Nat := lv p + (1 + t)
/-- it may be -/
def May (p t : Int) : Prop := 1 ≤ p ∧ p ≤ 64 ∧ 4 ≤ t ∧ t ≤ 24
end Geo
theorem calls_low {P : Program} {f : FuncId} {args : Array Value} {w : World} {v : Value} (h : Calls P f args w fun e w' => e = .returned v ∧ w = w') : Calls P f args w fun e w' => e = .returned v ∧ Below w.heap.size w w' :=
  h.mono fun _ _ ⟨he, hw⟩ => ⟨he, hw ▸ Below.refl _ _⟩
theorem filled16 (n : Nat) (h : n ≤ 1000) (w : World) : Calls Try.prog 56 #[.int .i64 (n : Int), .int .i64 16] w fun e w' => e = .returned (.int .i64 (((n + 15) / 16 : Nat) : Int)) ∧ w = w' := by
  have h1 : 0 ≤ (n : Int) ∧ (n : Int) ≤ 1000 := by omega
  obtain ⟨h0, h2⟩ := h1
  go_enter Try.func56, Try.ntmps56
  go_wp2
  go_ret
  refine ⟨ret_int ?_, rfl⟩
  omega
theorem filled32 (n : Nat) (h : n ≤ 1000) (w : World) : Calls Try.prog 56 #[.int .i64 (n : Int), .int .i64 32] w fun e w' => e = .returned (.int .i64 (((n + 31) / 32 : Nat) : Int)) ∧ w = w' := by
  have h1 : 0 ≤ (n : Int) ∧ (n : Int) ≤ 1000 := by omega
  obtain ⟨h0, h2⟩ := h1
  go_enter Try.func56, Try.ntmps56
  go_wp2
  go_ret
  refine ⟨ret_int ?_, rfl⟩
  omega
/-- block g has the two numbers of a geometry -/
def Two (w : World) (g : Nat) (t : TypeId) (x y : Int) : Prop := w.heap[g]? = some (.cells #[.int .i64 x, .int .i64 y] t (0, 0))
theorem Two.new (w : World) (t : TypeId) (x y : Int) : Two (w.alloc (.cells #[.int .i64 x, .int .i64 y] t)) w.heap.size t x y := heap_alloc_new w _
theorem Two.lt {w : World} {g : Nat} {t : TypeId} {x y : Int} (h : Two w g t x y) : g < w.heap.size := blk_lt h
theorem Two.after {W w : World} {g : Nat} {t : TypeId} {x y : Int} (h : Two W g t x y) (hw : After W w) : Two w g t x y := (Below.block hw g h.lt).trans h
theorem Two.range {w : World} {g : Nat} {t : TypeId} {x y : Int} (h : Two w g t x y) : w.rangeAt g 0 [.int .i64 x, .int .i64 y] := fun j v hv => by
  rw [Nat.zero_add, blk_cell h j]
  simpa using hv
theorem Two.fst {w : World} {g : Nat} {t : TypeId} {x y : Int} (h : Two w g t x y) : w.cell? ⟨g, 0, none⟩ = some (.int .i64 x) := blk_cell h 0
theorem Two.snd {w : World} {g : Nat} {t : TypeId} {x y : Int} (h : Two w g t x y) : w.cell? ⟨g, 1, none⟩ = some (.int .i64 y) := blk_cell h 1
theorem check_yes (p t : Int) (h : Geo.May p t) (w : World) : Calls Try.prog 22 #[.agg #[.int .i64 p, .int .i64 t]] w fun e w' => e = .returned (.int .i64 0) ∧ Below w.heap.size w w' := by
  obtain ⟨h1, h2, h3, h4⟩ := h
  have hb : Below w.heap.size w (w.alloc (.cells #[.int .i64 p, .int .i64 t] 23)) := (Below.refl _ _).alloc (Nat.le_refl _) _
  have HB := Lib.hid hb
  clear hb
  go_enter Try.func22, Try.ntmps22
  go_wp2
  go_ret
  exact ⟨rfl, HB.out⟩
theorem check_no (p t : Int) (h : ¬ Geo.May p t) (w : World) : Calls Try.prog 22 #[.agg #[.int .i64 p, .int .i64 t]] w fun e w' => e = .returned (.int .i64 1) ∧ Below w.heap.size w w' := by
  unfold Geo.May at h
  have hb : Below w.heap.size w (w.alloc (.cells #[.int .i64 p, .int .i64 t] 23)) := (Below.refl _ _).alloc (Nat.le_refl _) _
  have HB := Lib.hid hb
  have HH := Lib.hid h
  clear hb h
  rcases (by have := HH.out; omega : p < 1 ∨ (1 ≤ p ∧ 64 < p) ∨ (1 ≤ p ∧ p ≤ 64 ∧ t < 4) ∨ (1 ≤ p ∧ p ≤ 64 ∧ 4 ≤ t ∧ 24 < t)) with h1 | ⟨h1, h2⟩ | ⟨h1, h2, h3⟩ | ⟨h1, h2, h3, h4⟩
  all_goals
    go_enter Try.func22, Try.ntmps22
    go_wp2
    go_ret
    exact ⟨rfl, HB.out⟩
/-! the plan of a geometry that may be -/
theorem plan_maps (p : Nat) (t : Int) (hp : p ≤ 64) (w : World) : Calls Try.prog 53 #[.agg #[.int .i64 (p : Int), .int .i64 t]] w fun e w' => e = .returned (.int .i64 ((Geo.mp p : Nat) : Int)) ∧ Below w.heap.size w w' := by
  have hb : Below w.heap.size w (w.alloc (.cells #[.int .i64 (p : Int), .int .i64 t] 85)) := (Below.refl _ _).alloc (Nat.le_refl _) _
  have HB := Lib.hid hb
  clear hb
  go_enter Try.func53, Try.ntmps53
  go_wp2_with fail
  refine (filled16 p (by omega) _).mono ?_
  rintro e w' ⟨rfl, rfl⟩
  go_wp2
  go_ret
  exact ⟨rfl, HB.out⟩
end Go.Proofs.Ytnalebocfbbpdaa
