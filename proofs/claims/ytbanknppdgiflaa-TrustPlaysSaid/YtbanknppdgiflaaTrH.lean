/-
  Two registers that are the same.
-/
import Derived.Test.YtbanknppdgiflaaTrG
import Derived.ChangeKeysEq
import Derived.Laws.StructEq
namespace Go.Proofs.Ytbanknppdgiflaa
open Go.RowKit Go
set_option linter.unusedVariables false
set_option linter.unusedSimpArgs false
abbrev RegT : TypeId := 26
theorem fields_reg : (Try.prog.fieldsOf RegT).toList.map (fun f => (f.name, f.type, f.offset)) = [("Count", 22, 0), ("Root", 24, 1)] := by kernel_rfl
def rootF (l : List Nat) (i : Nat) : Value := .int .u8 ((l.getD i 0 : Nat) : Int)
theorem plain_r9 : Try.prog.plainKey 5 = true := by kernel_rfl
theorem cells_r9 : Try.prog.cellsOf 5 = 1 := by kernel_rfl
theorem info_r9 : (Try.prog.info? 5).isSome = true := by kernel_rfl
theorem items_r9 (d N : Nat) (l : List Nat) (w : World) : ∀ is : List Nat, (∀ i ∈ is, i < N) → (Op.eqItems (d + 1) 5 1 (rowV (rootF l) N) (rowV (rootF l) N) is).run Try.prog w = .ok true w := by
  intro is
  induction is with
  | nil => intro _; simp [Op.eqItems]
  | cons i is ih =>
    intro h
    have hi := h i (List.mem_cons_self ..)
    have p1 : (part 5 (rowV (rootF l) N) (i * 1)).run Try.prog w = .ok (rootF l i) w := by rw [Nat.mul_one]; exact Go.run_part_plain w plain_r9 (rowV_at _ hi)
    have p3 : (Op.equalIn (d + 1) 5 (rootF l i) (rootF l i)).run Try.prog w = .ok true w := by
      have := run_equalIn_int w d 5 .u8 .u8 ((l.getD i 0 : Nat) : Int) ((l.getD i 0 : Nat) : Int) Try.underlying5
      rw [show rootF l i = .int .u8 ((l.getD i 0 : Nat) : Int) from rfl, this]
      simp
    have hih := ih fun j hj => h j (List.mem_cons_of_mem _ hj)
    simp only [Op.eqItems, Sem.run_bind, p1, p3, Result.andThen_ok, Bool.not_true, Bool.false_eq_true, if_false, hih]
theorem part_root (c : Nat) (l : List Nat) (w : World) : (part 24 (rowV (regF c l) 33) 1).run Try.prog w = .ok (.agg (rowV (rootF l) 32)) w := by
  kernel_rfl
theorem part_count (c : Nat) (l : List Nat) (w : World) : (part 22 (rowV (regF c l) 33) 0).run Try.prog w = .ok (.int .u64 (c : Int)) w := by
  kernel_rfl
theorem equal_root (d : Nat) (l : List Nat) (w : World) : (Op.equalIn (d + 2) 24 (.agg (rowV (rootF l) 32)) (.agg (rowV (rootF l) 32))).run Try.prog w = .ok true w := by
  obtain ⟨i, hi⟩ := Option.isSome_iff_exists.mp info_r9
  rw [show d + 2 = (d + 1) + 1 from rfl, Go.run_equalIn_array w (d + 1) _ _ Try.underlying24 hi, cells_r9, items_r9 d 32 l w _ fun i hi => List.mem_range.mp hi]
theorem neq_reg (c : Nat) (l : List Nat) (w : World) : (binOp .neq RegT (.agg (rowV (regF c l) 33)) (.agg (rowV (regF c l) 33))).run Try.prog w = .ok (.bool false) w := by
  have hf := fields_reg
  rw [run_neq_struct, show (10000 : Nat) = 9999 + 1 from rfl, run_equalIn_agg w 9999 RegT _ _ (by kernel_rfl) (by kernel_rfl)]
  generalize (Try.prog.fieldsOf RegT).toList = fs at *
  have e1 : (Op.equalIn 9999 22 (.int .u64 (c : Int)) (.int .u64 (c : Int))).run Try.prog w = .ok true w := by
    rw [show (9999 : Nat) = 9998 + 1 from rfl, run_equalIn_int w 9998 22 .u64 .u64 _ _ Try.underlying22]; simp
  have e2 := equal_root 9997 l w
  rw [show 9997 + 2 = 9999 from rfl] at e2
  have e3 := part_count c l w
  have e4 := part_root c l w
  rcases fs with _ | ⟨f1, _ | ⟨f2, _ | ⟨f3, r⟩⟩⟩
  · simp at hf
  · simp at hf
  · simp only [List.map_cons, List.map_nil, List.cons.injEq, Prod.mk.injEq, and_true] at hf
    obtain ⟨⟨n1, t1, o1⟩, n2, t2, o2⟩ := hf
    generalize rowV (regF c l) 33 = R at *
    generalize Value.agg (rowV (rootF l) 32) = R2 at *
    simp [Op.eqFields, n1, n2, t1, t2, o1, o2, Sem.run_bind, e1, e2, e3, e4, Result.andThen]
  · simp at hf
end Go.Proofs.Ytbanknppdgiflaa
