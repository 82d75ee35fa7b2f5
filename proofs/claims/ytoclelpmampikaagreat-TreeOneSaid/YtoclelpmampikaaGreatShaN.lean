/-
  A new sum.
-/
import Derived.Test.YtoclelpmampikaaGreatShaM
namespace Go.Proofs.YtoclelpmampikaaGreat
open Go.RowKit Go
set_option linter.unusedVariables false
def zhF (i : Nat) : Value := if i = 0 then .nilFunc else if i < 9 then u32 0 else if i < 73 then u8 0 else .int .i64 0
theorem zero_hash (w : World) : (zeroValue 127).run Tryz.prog w = .ok (.agg (rowV zhF 74)) w := by kernel_rfl
theorem tab_first_at {i : Nat} (h : i < 8) : tabF 64 8 (64 + i) = .int .u32 ((Sha.first.at_ i : Nat) : Int) := by
  unfold tabF
  rw [if_neg (by omega), if_pos (by omega), Nat.add_sub_cancel_left]
  rcases (by omega : i = 0 ∨ i = 1 ∨ i = 2 ∨ i = 3 ∨ i = 4 ∨ i = 5 ∨ i = 6 ∨ i = 7) with rfl | rfl | rfl | rfl | rfl | rfl | rfl | rfl <;> rfl
theorem tab_load {w : World} {g : Nat} (h : IsTab w g) {i : Nat} (hi : i < 8) : w.cell? ⟨g, 64 + i, none⟩ = some (.int .u32 ((Sha.first.at_ i : Nat) : Int)) :=
  (Row.cell h (i := 64 + i) (by omega)).trans (congrArg some (tab_first_at hi))
theorem repl0 (n i : Nat) : (List.replicate n 0).getD i 0 = 0 := by
  rw [List.getD_eq_getElem?_getD, List.getElem?_replicate]
  split <;> rfl
theorem new_row (g : Nat) (s : Sha.St) : (((((((((rowV zhF 74).setIfInBounds 0 (.func (Fn.func 68) #[.pointer (some ⟨g, 0, none⟩)] #[])).setIfInBounds 1 (.int .u32 (s.a : Int))).setIfInBounds 2 (.int .u32 (s.b : Int))).setIfInBounds 3 (.int .u32 (s.c : Int))).setIfInBounds
    4 (.int .u32 (s.d : Int))).setIfInBounds 5 (.int .u32 (s.e : Int))).setIfInBounds 6 (.int .u32 (s.f : Int))).setIfInBounds 7 (.int .u32 (s.g : Int))).setIfInBounds 8 (.int .u32 (s.h : Int)) = rowV (hashF g s (List.replicate 64 0) 0) 74 := by
  simp only [rowV_set]
  refine rowV_congr fun i hi => ?_
  by_cases h9 : i < 9
  · rcases (by omega : i = 0 ∨ i = 1 ∨ i = 2 ∨ i = 3 ∨ i = 4 ∨ i = 5 ∨ i = 6 ∨ i = 7 ∨ i = 8) with rfl | rfl | rfl | rfl | rfl | rfl | rfl | rfl | rfl <;> rfl
  · rw [if_neg (by omega), if_neg (by omega), if_neg (by omega), if_neg (by omega), if_neg (by omega), if_neg (by omega), if_neg (by omega), if_neg (by omega), if_neg (by omega)]
    have h0 : ¬ i = 0 := by omega
    unfold zhF hashF
    simp only [if_neg h0, if_neg h9, repl0]
    rfl
theorem new_sum {w : World} {g : Nat} (h : IsTab w g) : IsSum (w.alloc (.cells (rowV (hashF g Sha.first (List.replicate 64 0) 0) 74) 127)) w.heap.size g [] := by
  refine ⟨List.replicate 64 0, ⟨by simp, fun i => by rw [repl0]; omega, rfl⟩, Row.new w _ _ _, Row.alloc h _⟩
set_option maxHeartbeats 1000000 in
set_option maxRecDepth 100000 in
theorem new_any (g : Nat) (w : World) (h : IsTab w g) :
    Calls Tryz.prog 53 #[.pointer (some ⟨g, 0, none⟩)] w fun e w' => e = .returned (.pointer (some ⟨w.heap.size, 0, none⟩)) ∧ Below w.heap.size w w' ∧ IsSum w' w.heap.size g [] := by
  have hz := zero_hash
  have k0 : w.cell? ⟨g, 64, none⟩ = some (.int .u32 ((Sha.first.a : Nat) : Int)) := tab_load h (i := 0) (by omega)
  have k1 : w.cell? ⟨g, 65, none⟩ = some (.int .u32 ((Sha.first.b : Nat) : Int)) := tab_load h (i := 1) (by omega)
  have k2 : w.cell? ⟨g, 66, none⟩ = some (.int .u32 ((Sha.first.c : Nat) : Int)) := tab_load h (i := 2) (by omega)
  have k3 : w.cell? ⟨g, 67, none⟩ = some (.int .u32 ((Sha.first.d : Nat) : Int)) := tab_load h (i := 3) (by omega)
  have k4 : w.cell? ⟨g, 68, none⟩ = some (.int .u32 ((Sha.first.e : Nat) : Int)) := tab_load h (i := 4) (by omega)
  have k5 : w.cell? ⟨g, 69, none⟩ = some (.int .u32 ((Sha.first.f : Nat) : Int)) := tab_load h (i := 5) (by omega)
  have k6 : w.cell? ⟨g, 70, none⟩ = some (.int .u32 ((Sha.first.g : Nat) : Int)) := tab_load h (i := 6) (by omega)
  have k7 : w.cell? ⟨g, 71, none⟩ = some (.int .u32 ((Sha.first.h : Nat) : Int)) := tab_load h (i := 7) (by omega)
  have hn := new_sum h
  have hb : Below w.heap.size w (w.alloc (.cells (rowV (hashF g Sha.first (List.replicate 64 0) 0) 74) 127)) := (Below.refl _ _).alloc (Nat.le_refl _) _
  rw [← new_row g Sha.first] at hn hb
  have HN := Lib.hid hn
  have HB := Lib.hid hb
  clear hn hb
  clear h
  go_enter Tryz.func53, Tryz.ntmps53
  go_wp2
  go_ret
  exact ⟨rfl, HB.out, HN.out⟩
set_option maxHeartbeats 400000 in
theorem new_nil (w : World) : Calls Tryz.prog 53 #[.pointer none] w fun e w' => e = .returned (.pointer none) ∧ w = w' := by
  go_enter Tryz.func53, Tryz.ntmps53
  go_wp2
  go_ret
  exact ⟨rfl, rfl⟩
end Go.Proofs.YtoclelpmampikaaGreat
