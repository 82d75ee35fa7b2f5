/-
  Arrays of bytes are held against one another.
-/
import Derived.Test.YtoclelpmampikaaGreatByt
namespace Go.Proofs.YtoclelpmampikaaGreat
open Go.RowKit Go
set_option linter.unusedVariables false
theorem plain_u8' : Tryz.prog.plainKey 5 = true := by kernel_rfl
theorem cells_u8' : Tryz.prog.cellsOf 5 = 1 := by kernel_rfl
theorem info_u8'' : (Tryz.prog.info? 5).isSome = true := by kernel_rfl
theorem eq_items (d N : Nat) (l m : List Nat) (w : World) : ∀ is : List Nat, (∀ i ∈ is, i < N) →
    (Op.eqItems (d + 1) 5 1 (rowV (bF l) N) (rowV (bF m) N) is).run Tryz.prog w = .ok (decide (∀ i ∈ is, l.getD i 0 = m.getD i 0)) w := by
  intro is
  induction is with
  | nil => intro _; simp [Op.eqItems]
  | cons i is ih =>
    intro h
    have hi := h i (List.mem_cons_self ..)
    have p1 : (part 5 (rowV (bF l) N) (i * 1)).run Tryz.prog w = .ok (bF l i) w := by rw [Nat.mul_one]; exact Go.run_part_plain w plain_u8' (rowV_at _ hi)
    have p2 : (part 5 (rowV (bF m) N) (i * 1)).run Tryz.prog w = .ok (bF m i) w := by rw [Nat.mul_one]; exact Go.run_part_plain w plain_u8' (rowV_at _ hi)
    have p3 : (Op.equalIn (d + 1) 5 (bF l i) (bF m i)).run Tryz.prog w = .ok (decide (((l.getD i 0 : Nat) : Int) = ((m.getD i 0 : Nat) : Int))) w := run_equalIn_int w d 5 .u8 .u8 _ _ Tryz.underlying5
    have hih := ih fun j hj => h j (List.mem_cons_of_mem _ hj)
    simp only [Op.eqItems, Sem.run_bind, p1, p2, p3, Result.andThen_ok]
    by_cases he : l.getD i 0 = m.getD i 0
    · have e1 : decide (((l.getD i 0 : Nat) : Int) = ((m.getD i 0 : Nat) : Int)) = true := decide_eq_true (by rw [he])
      rw [e1]
      have e2 : decide (∀ j ∈ i :: is, l.getD j 0 = m.getD j 0) = decide (∀ j ∈ is, l.getD j 0 = m.getD j 0) := by
        rw [decide_eq_decide]
        exact ⟨fun h j hj => h j (List.mem_cons_of_mem _ hj), fun h j hj => (List.mem_cons.mp hj).elim (fun e => e ▸ he) (h j)⟩
      rw [e2]
      simp only [Bool.not_true, Bool.false_eq_true, if_false, hih]
    · have e1 : decide (((l.getD i 0 : Nat) : Int) = ((m.getD i 0 : Nat) : Int)) = false := decide_eq_false (by omega)
      rw [e1, decide_eq_false (fun h => he (h i (List.mem_cons_self ..)))]
      simp
theorem equal_row (t : TypeId) (N : Nat) (hu : Tryz.prog.underlying t = some (.array N 5)) (l m : List Nat) (hl : l.length = N) (hm : m.length = N) (w : World) :
    (Op.equalIn 10000 t (.agg (rowV (bF l) N)) (.agg (rowV (bF m) N))).run Tryz.prog w = .ok (decide (l = m)) w := by
  obtain ⟨i, hi⟩ := Option.isSome_iff_exists.mp info_u8''
  rw [show (10000 : Nat) = 9998 + 1 + 1 from rfl, Go.run_equalIn_array w 9999 _ _ hu hi, cells_u8', eq_items 9998 N l m w _ fun i hi => List.mem_range.mp hi]
  refine congrArg (fun b => Result.ok b w) ?_
  rw [decide_eq_decide]
  exact ⟨fun h2 => row_list hl hm fun i hi => h2 i (List.mem_range.mpr hi), fun h => by rw [h]; exact fun _ _ => rfl⟩
end Go.Proofs.YtoclelpmampikaaGreat
