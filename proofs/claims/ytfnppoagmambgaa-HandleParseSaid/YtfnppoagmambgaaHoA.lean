/-
  Heads of roots: seventeen numbers in a row; two heads held against one another; Ours and Plain.
-/
import Derived.Test.YtfnppoagmambgaaHnB
import Derived.Test.YtfnppoagmambgaaWordC
import Derived.Test.YtfnppoagmambgaaOwnW
import Derived.Test.YtfnppoagmambgaaRowB
import Derived.Test.YtfnppoagmambgaaVal
import Derived.Test.YtfnppoagmambgaaCls
import Derived.ChangeKeysEq
import Derived.Laws.StructEq
import Derived.Deep.MidRow
namespace Go.Proofs.Ytfnppoagmambgaa
open Go.RowKit Go
set_option linter.unusedVariables false
set_option linter.unusedSimpArgs false
set_option maxRecDepth 100000
def uF (l : List Nat) (i : Nat) : Value := .int .u64 ((l.getD i 0 : Nat) : Int)
def uG (l : List Nat) (i : Nat) : Value := uF l (i + 1)
/-- a head's cells, and those of its roots -/
abbrev rtV (l : List Nat) : Array Value := rowV (uF l) 17
abbrev arV (l : List Nat) : Array Value := rowV (uG l) 16
theorem rt_list {l m : List Nat} (hl : l.length = 17) (hm : m.length = 17) (h0 : l.getD 0 0 = m.getD 0 0) (h : ∀ j, j ∈ List.range 16 → l.getD (j + 1) 0 = m.getD (j + 1) 0) : l = m := by
  apply List.ext_getElem (by omega)
  intro i h1 h2
  have key : l.getD i 0 = m.getD i 0 := by
    rcases Nat.eq_zero_or_pos i with rfl | hp
    · exact h0
    · have := h (i - 1) (List.mem_range.mpr (by omega))
      rwa [show i - 1 + 1 = i by omega] at this
  simpa [List.getD, List.getElem?_eq_getElem h1, List.getElem?_eq_getElem h2] using key
theorem rt_one (l : List Nat) : (rtV l).all (·.oneCell') = true := by
  rw [Array.all_eq_true]
  intro i hi
  have h1 : i < 17 := by rw [rowV_size] at hi; exact hi
  have h2 := rowV_at (uF l) h1
  rw [Array.getElem?_eq_getElem hi] at h2
  rw [Option.some.inj h2]
  rfl
theorem rt_mid {w : World} {g : Nat} {t : TypeId} {l : List Nat} (h : Row w g t (uF l) 17) : w.rangeAt g 1 (arV l).toList := fun j v hv => by
  rw [Array.getElem?_toList] at hv
  by_cases hj : j < 16
  · rw [rowV_at _ hj] at hv
    injection hv with hv
    rw [Nat.add_comm, h.cell (by omega), ← hv]; rfl
  · rw [rowV_none _ (by omega)] at hv; cases hv
def zl17 : List Nat := List.replicate 17 0
theorem zl17_at (i : Nat) : zl17.getD i 0 = 0 := by
  unfold zl17
  rw [List.getD_eq_getElem?_getD, List.getElem?_replicate]
  split <;> rfl
theorem plain_h : Try.prog.plainKey 25 = true := by kernel_rfl
theorem cells_h : Try.prog.cellsOf 25 = 1 := by kernel_rfl
theorem isinfo_h : (Try.prog.info? 25).isSome = true := by kernel_rfl
theorem info_rth (l : List Nat) : (Try.prog.info? 45).map (·.size) = some (rtV l).size := by rw [rowV_size]; kernel_rfl
theorem info_arh (l : List Nat) : (Try.prog.info? 43).map (·.size) = some (arV l).toList.length := by rw [Array.length_toList, rowV_size]; kernel_rfl
theorem zero_rth (w : World) : (zeroValue 45).run Try.prog w = .ok (.agg (rtV zl17)) w := by kernel_rfl
theorem built_rth0 : Try.prog.built 45 [] = some (rtV zl17) := by kernel_rfl
theorem built_rth (x : Nat) : Try.prog.built 45 [(0, .int .u64 (x : Int))] = some (rtV (x :: zl17.tail)) := by kernel_rfl
theorem fields_h : (Try.prog.fieldsOf 45).toList.map (fun f => (f.name, f.type, f.offset)) = [("Next", 22, 0), ("L", 43, 1)] := by kernel_rfl
theorem items_h (d : Nat) (l m : List Nat) (w : World) : ∀ is : List Nat, (∀ i ∈ is, i < 16) →
    (Op.eqItems (d + 1) 25 1 (arV l) (arV m) is).run Try.prog w = .ok (decide (∀ i ∈ is, l.getD (i + 1) 0 = m.getD (i + 1) 0)) w := by
  intro is
  induction is with
  | nil => intro _; simp [Op.eqItems]
  | cons i is ih =>
    intro h
    have hi := h i (List.mem_cons_self ..)
    have p1 : (part 25 (arV l) (i * 1)).run Try.prog w = .ok (uG l i) w := by rw [Nat.mul_one]; exact Go.run_part_plain w plain_h (rowV_at _ hi)
    have p2 : (part 25 (arV m) (i * 1)).run Try.prog w = .ok (uG m i) w := by rw [Nat.mul_one]; exact Go.run_part_plain w plain_h (rowV_at _ hi)
    have p3 : (Op.equalIn (d + 1) 25 (uG l i) (uG m i)).run Try.prog w = .ok (decide (((l.getD (i + 1) 0 : Nat) : Int) = ((m.getD (i + 1) 0 : Nat) : Int))) w := run_equalIn_int w d 25 .u64 .u64 _ _ Try.underlying25
    have hih := ih fun j hj => h j (List.mem_cons_of_mem _ hj)
    simp only [Op.eqItems, Sem.run_bind, p1, p2, p3, Result.andThen_ok]
    by_cases he : l.getD (i + 1) 0 = m.getD (i + 1) 0
    · have e1 : decide (((l.getD (i + 1) 0 : Nat) : Int) = ((m.getD (i + 1) 0 : Nat) : Int)) = true := decide_eq_true (by rw [he])
      rw [e1]
      have e2 : decide (∀ j ∈ i :: is, l.getD (j + 1) 0 = m.getD (j + 1) 0) = decide (∀ j ∈ is, l.getD (j + 1) 0 = m.getD (j + 1) 0) := by
        rw [decide_eq_decide]
        exact ⟨fun h j hj => h j (List.mem_cons_of_mem _ hj), fun h j hj => (List.mem_cons.mp hj).elim (fun e => e ▸ he) (h j)⟩
      rw [e2]
      simp only [Bool.not_true, Bool.false_eq_true, if_false, hih]
    · have e1 : decide (((l.getD (i + 1) 0 : Nat) : Int) = ((m.getD (i + 1) 0 : Nat) : Int)) = false := decide_eq_false (by omega)
      rw [e1, decide_eq_false (fun h => he (h i (List.mem_cons_self ..)))]
      simp
theorem eqarr_h (d : Nat) (l m : List Nat) (w : World) : (Op.equalIn (d + 2) 43 (.agg (arV l)) (.agg (arV m))).run Try.prog w = .ok (decide (∀ i ∈ List.range 16, l.getD (i + 1) 0 = m.getD (i + 1) 0)) w := by
  obtain ⟨i, hi⟩ := Option.isSome_iff_exists.mp isinfo_h
  rw [show d + 2 = (d + 1) + 1 from rfl, Go.run_equalIn_array w (d + 1) _ _ Try.underlying43 hi, cells_h, items_h d l m w _ fun i hi => List.mem_range.mp hi]
theorem part_nh (l : List Nat) (w : World) : (part 22 (rtV l) 0).run Try.prog w = .ok (uF l 0) w := by kernel_rfl
theorem part_lh (l : List Nat) (w : World) : (part 43 (rtV l) 1).run Try.prog w = .ok (.agg (arV l)) w := by kernel_rfl
theorem eq_h (l m : List Nat) (hl : l.length = 17) (hm : m.length = 17) (w : World) : (Op.equalIn 10000 45 (.agg (rtV l)) (.agg (rtV m))).run Try.prog w = .ok (decide (l = m)) w := by
  have hf := fields_h
  rw [show (10000 : Nat) = 9999 + 1 from rfl, run_equalIn_agg w 9999 45 _ _ (by kernel_rfl) (by kernel_rfl)]
  generalize (Try.prog.fieldsOf 45).toList = fs at *
  have e1 : (Op.equalIn 9999 22 (uF l 0) (uF m 0)).run Try.prog w = .ok (((l.getD 0 0 : Nat) : Int) == ((m.getD 0 0 : Nat) : Int)) w := by
    rw [show (9999 : Nat) = 9998 + 1 from rfl]
    exact run_equalIn_int w 9998 22 .u64 .u64 _ _ Try.underlying22
  have e2 := eqarr_h 9997 l m w
  rw [show 9997 + 2 = 9999 from rfl] at e2
  have e3 := part_nh l w
  have e4 := part_lh l w
  have e5 := part_nh m w
  have e6 := part_lh m w
  have key : decide (l = m) = (((l.getD 0 0 : Nat) : Int) == ((m.getD 0 0 : Nat) : Int) && decide (∀ i ∈ List.range 16, l.getD (i + 1) 0 = m.getD (i + 1) 0)) := by
    rw [Bool.eq_iff_iff, Bool.and_eq_true, decide_eq_true_iff, decide_eq_true_iff, beq_iff_eq]
    exact ⟨fun h => by rw [h]; exact ⟨rfl, fun _ _ => rfl⟩, fun ⟨h1, h2⟩ => rt_list hl hm (by omega) h2⟩
  rw [key]
  generalize decide (∀ i ∈ List.range 16, l.getD (i + 1) 0 = m.getD (i + 1) 0) = b2 at *
  clear key
  rcases fs with _ | ⟨f1, _ | ⟨f2, _ | ⟨f3, r⟩⟩⟩
  · simp at hf
  · simp at hf
  · simp only [List.map_cons, List.map_nil, List.cons.injEq, Prod.mk.injEq, and_true] at hf
    obtain ⟨⟨n1, t1, o1⟩, n2, t2, o2⟩ := hf
    generalize rtV l = R at *
    generalize rtV m = R0 at *
    generalize Value.agg (arV l) = R2 at *
    generalize Value.agg (arV m) = R3 at *
    cases hq : (((l.getD 0 0 : Nat) : Int) == ((m.getD 0 0 : Nat) : Int)) <;> rw [hq] at e1 <;> cases b2 <;> simp [Op.eqFields, n1, n2, t1, t2, o1, o2, Sem.run_bind, e1, e2, e3, e4, e5, e6, Result.andThen]
  · simp at hf
theorem neq_h (l m : List Nat) (hl : l.length = 17) (hm : m.length = 17) (w : World) : (binOp .neq 45 (.agg (rtV l)) (.agg (rtV m))).run Try.prog w = .ok (.bool (!decide (l = m))) w := by
  rw [run_neq_struct, eq_h l m hl hm w]; rfl
theorem eql_h (l m : List Nat) (hl : l.length = 17) (hm : m.length = 17) (w : World) : (binOp .eql 45 (.agg (rtV l)) (.agg (rtV m))).run Try.prog w = .ok (.bool (decide (l = m))) w := by
  rw [run_eql_struct, eq_h l m hl hm w]; rfl
theorem index_h (l : List Nat) (j : Nat) (hj : j < 16) (w : World) : (Instr.index 43 (.agg (arV l)) (.int .i64 (j : Int))).run Try.prog w = .ok (.int .u64 ((l.getD (j + 1) 0 : Nat) : Int)) w :=
  run_index_arr _ _ 16 _ j _ w Try.underlying43 plain_h cells_h isinfo_h hj (rowV_at _ hj)
theorem plain_r : Try.prog.plainKey 22 = true := by kernel_rfl
theorem cells_r : Try.prog.cellsOf 22 = 1 := by kernel_rfl
theorem isinfo_r : (Try.prog.info? 22).isSome = true := by kernel_rfl
theorem info_rtr (l : List Nat) : (Try.prog.info? 40).map (·.size) = some (rtV l).size := by rw [rowV_size]; kernel_rfl
theorem info_arr (l : List Nat) : (Try.prog.info? 38).map (·.size) = some (arV l).toList.length := by rw [Array.length_toList, rowV_size]; kernel_rfl
theorem zero_rtr (w : World) : (zeroValue 40).run Try.prog w = .ok (.agg (rtV zl17)) w := by kernel_rfl
theorem built_rtr0 : Try.prog.built 40 [] = some (rtV zl17) := by kernel_rfl
theorem built_rtr (x : Nat) : Try.prog.built 40 [(0, .int .u64 (x : Int))] = some (rtV (x :: zl17.tail)) := by kernel_rfl
theorem fields_r : (Try.prog.fieldsOf 40).toList.map (fun f => (f.name, f.type, f.offset)) = [("Next", 22, 0), ("L", 38, 1)] := by kernel_rfl
theorem items_r (d : Nat) (l m : List Nat) (w : World) : ∀ is : List Nat, (∀ i ∈ is, i < 16) →
    (Op.eqItems (d + 1) 22 1 (arV l) (arV m) is).run Try.prog w = .ok (decide (∀ i ∈ is, l.getD (i + 1) 0 = m.getD (i + 1) 0)) w := by
  intro is
  induction is with
  | nil => intro _; simp [Op.eqItems]
  | cons i is ih =>
    intro h
    have hi := h i (List.mem_cons_self ..)
    have p1 : (part 22 (arV l) (i * 1)).run Try.prog w = .ok (uG l i) w := by rw [Nat.mul_one]; exact Go.run_part_plain w plain_r (rowV_at _ hi)
    have p2 : (part 22 (arV m) (i * 1)).run Try.prog w = .ok (uG m i) w := by rw [Nat.mul_one]; exact Go.run_part_plain w plain_r (rowV_at _ hi)
    have p3 : (Op.equalIn (d + 1) 22 (uG l i) (uG m i)).run Try.prog w = .ok (decide (((l.getD (i + 1) 0 : Nat) : Int) = ((m.getD (i + 1) 0 : Nat) : Int))) w := run_equalIn_int w d 22 .u64 .u64 _ _ Try.underlying22
    have hih := ih fun j hj => h j (List.mem_cons_of_mem _ hj)
    simp only [Op.eqItems, Sem.run_bind, p1, p2, p3, Result.andThen_ok]
    by_cases he : l.getD (i + 1) 0 = m.getD (i + 1) 0
    · have e1 : decide (((l.getD (i + 1) 0 : Nat) : Int) = ((m.getD (i + 1) 0 : Nat) : Int)) = true := decide_eq_true (by rw [he])
      rw [e1]
      have e2 : decide (∀ j ∈ i :: is, l.getD (j + 1) 0 = m.getD (j + 1) 0) = decide (∀ j ∈ is, l.getD (j + 1) 0 = m.getD (j + 1) 0) := by
        rw [decide_eq_decide]
        exact ⟨fun h j hj => h j (List.mem_cons_of_mem _ hj), fun h j hj => (List.mem_cons.mp hj).elim (fun e => e ▸ he) (h j)⟩
      rw [e2]
      simp only [Bool.not_true, Bool.false_eq_true, if_false, hih]
    · have e1 : decide (((l.getD (i + 1) 0 : Nat) : Int) = ((m.getD (i + 1) 0 : Nat) : Int)) = false := decide_eq_false (by omega)
      rw [e1, decide_eq_false (fun h => he (h i (List.mem_cons_self ..)))]
      simp
theorem eqarr_r (d : Nat) (l m : List Nat) (w : World) : (Op.equalIn (d + 2) 38 (.agg (arV l)) (.agg (arV m))).run Try.prog w = .ok (decide (∀ i ∈ List.range 16, l.getD (i + 1) 0 = m.getD (i + 1) 0)) w := by
  obtain ⟨i, hi⟩ := Option.isSome_iff_exists.mp isinfo_r
  rw [show d + 2 = (d + 1) + 1 from rfl, Go.run_equalIn_array w (d + 1) _ _ Try.underlying38 hi, cells_r, items_r d l m w _ fun i hi => List.mem_range.mp hi]
theorem part_nr (l : List Nat) (w : World) : (part 22 (rtV l) 0).run Try.prog w = .ok (uF l 0) w := by kernel_rfl
theorem part_lr (l : List Nat) (w : World) : (part 38 (rtV l) 1).run Try.prog w = .ok (.agg (arV l)) w := by kernel_rfl
theorem eq_r (l m : List Nat) (hl : l.length = 17) (hm : m.length = 17) (w : World) : (Op.equalIn 10000 40 (.agg (rtV l)) (.agg (rtV m))).run Try.prog w = .ok (decide (l = m)) w := by
  have hf := fields_r
  rw [show (10000 : Nat) = 9999 + 1 from rfl, run_equalIn_agg w 9999 40 _ _ (by kernel_rfl) (by kernel_rfl)]
  generalize (Try.prog.fieldsOf 40).toList = fs at *
  have e1 : (Op.equalIn 9999 22 (uF l 0) (uF m 0)).run Try.prog w = .ok (((l.getD 0 0 : Nat) : Int) == ((m.getD 0 0 : Nat) : Int)) w := by
    rw [show (9999 : Nat) = 9998 + 1 from rfl]
    exact run_equalIn_int w 9998 22 .u64 .u64 _ _ Try.underlying22
  have e2 := eqarr_r 9997 l m w
  rw [show 9997 + 2 = 9999 from rfl] at e2
  have e3 := part_nr l w
  have e4 := part_lr l w
  have e5 := part_nr m w
  have e6 := part_lr m w
  have key : decide (l = m) = (((l.getD 0 0 : Nat) : Int) == ((m.getD 0 0 : Nat) : Int) && decide (∀ i ∈ List.range 16, l.getD (i + 1) 0 = m.getD (i + 1) 0)) := by
    rw [Bool.eq_iff_iff, Bool.and_eq_true, decide_eq_true_iff, decide_eq_true_iff, beq_iff_eq]
    exact ⟨fun h => by rw [h]; exact ⟨rfl, fun _ _ => rfl⟩, fun ⟨h1, h2⟩ => rt_list hl hm (by omega) h2⟩
  rw [key]
  generalize decide (∀ i ∈ List.range 16, l.getD (i + 1) 0 = m.getD (i + 1) 0) = b2 at *
  clear key
  rcases fs with _ | ⟨f1, _ | ⟨f2, _ | ⟨f3, r⟩⟩⟩
  · simp at hf
  · simp at hf
  · simp only [List.map_cons, List.map_nil, List.cons.injEq, Prod.mk.injEq, and_true] at hf
    obtain ⟨⟨n1, t1, o1⟩, n2, t2, o2⟩ := hf
    generalize rtV l = R at *
    generalize rtV m = R0 at *
    generalize Value.agg (arV l) = R2 at *
    generalize Value.agg (arV m) = R3 at *
    cases hq : (((l.getD 0 0 : Nat) : Int) == ((m.getD 0 0 : Nat) : Int)) <;> rw [hq] at e1 <;> cases b2 <;> simp [Op.eqFields, n1, n2, t1, t2, o1, o2, Sem.run_bind, e1, e2, e3, e4, e5, e6, Result.andThen]
  · simp at hf
theorem neq_r (l m : List Nat) (hl : l.length = 17) (hm : m.length = 17) (w : World) : (binOp .neq 40 (.agg (rtV l)) (.agg (rtV m))).run Try.prog w = .ok (.bool (!decide (l = m))) w := by
  rw [run_neq_struct, eq_r l m hl hm w]; rfl
theorem eql_r (l m : List Nat) (hl : l.length = 17) (hm : m.length = 17) (w : World) : (binOp .eql 40 (.agg (rtV l)) (.agg (rtV m))).run Try.prog w = .ok (.bool (decide (l = m))) w := by
  rw [run_eql_struct, eq_r l m hl hm w]; rfl
theorem index_r (l : List Nat) (j : Nat) (hj : j < 16) (w : World) : (Instr.index 38 (.agg (arV l)) (.int .i64 (j : Int))).run Try.prog w = .ok (.int .u64 ((l.getD (j + 1) 0 : Nat) : Int)) w :=
  run_index_arr _ _ 16 _ j _ w Try.underlying38 plain_r cells_r isinfo_r hj (rowV_at _ hj)
/-- the first k roots are laid -/
def mixL (l : List Nat) (k : Nat) (i : Nat) : Value := if i < k + 1 then uF l i else uF zl17 i
theorem mixL_zero (l : List Nat) : rtV (l.getD 0 0 :: zl17.tail) = rowV (mixL l 0) 17 := rowV_congr fun i hi => by
  unfold mixL
  by_cases h : i < 0 + 1
  · obtain rfl : i = 0 := by omega
    rw [if_pos h]; rfl
  · rw [if_neg h]
    unfold uF
    rw [zl17_at, show i = (i - 1) + 1 by omega, List.getD_cons_succ]
    have : zl17.tail.getD (i - 1) 0 = 0 := by
      unfold zl17
      rw [List.tail_replicate, List.getD_eq_getElem?_getD, List.getElem?_replicate]
      split <;> rfl
    rw [this]
theorem mixL_new (l : List Nat) (x : Nat) (hx : l.getD 0 0 = x) : (rtV zl17).setIfInBounds 0 (.int .u64 (x : Int)) = rowV (mixL l 0) 17 := by
  rw [rowV_set]
  refine rowV_congr fun i hi => ?_
  unfold mixL
  by_cases h : i = 0
  · subst h; rw [if_pos rfl, if_pos (by omega), ← hx]; rfl
  · rw [if_neg h, if_neg (by omega)]
theorem mixL_step {w : World} {g : Nat} {t : TypeId} {l : List Nat} {k : Nat} (h : Row w g t (mixL l k) 17) (hk : k < 16) : Row (w.setCell ⟨g, 1 + k, none⟩ (.int .u64 ((l.getD (k + 1) 0 : Nat) : Int))) g t (mixL l (k + 1)) 17 := by
  refine (h.set_ (1 + k) _).congr fun i hi => ?_
  unfold mixL
  by_cases e : i = 1 + k
  · rw [if_pos e, if_pos (by omega), e, Nat.add_comm 1 k]; rfl
  · rw [if_neg e]
    by_cases h2 : i < k + 1
    · rw [if_pos h2, if_pos (by omega)]
    · rw [if_neg h2, if_neg (by omega)]
theorem mixL_end {w : World} {g : Nat} {t : TypeId} {l : List Nat} (h : Row w g t (mixL l 16) 17) : Row w g t (uF l) 17 := h.congr fun i hi => by unfold mixL; rw [if_pos (by omega)]
def LoopR (w : World) (t1 t2 t3 : TypeId) (l : List Nat) (i : Value) (wr : World) : Prop :=
  ∃ k : Nat, i = .int .i64 (k : Int) ∧ k ≤ 16 ∧ Below w.heap.size w wr ∧ Row wr w.heap.size t1 (uF l) 17 ∧ Row wr (w.heap.size + 1) t2 (uF zl17) 17 ∧ Row wr (w.heap.size + 1 + 1) t3 (mixL l k) 17
def blkL (n : Nat) (l : List Nat) : List Nat := l.flatMap (putL n)
theorem blkL_len (n : Nat) (l : List Nat) : (blkL n l).length = n * l.length := by
  induction l with
  | nil => simp [blkL]
  | cons a l ih =>
    unfold blkL at *
    rw [List.flatMap_cons, List.length_append, ih, putL_len, List.length_cons]
    rw [Nat.mul_add]; omega
theorem blkL_byte (n : Nat) (l : List Nat) (i : Nat) : (blkL n l).getD i 0 < 256 := by
  induction l generalizing i with
  | nil => simp [blkL]
  | cons a l ih =>
    unfold blkL at *
    rw [List.flatMap_cons, List.getD_eq_getElem?_getD]
    by_cases h : i < (putL n a).length
    · rw [List.getElem?_append_left h, ← List.getD_eq_getElem?_getD]; exact putL_byte _ _ _
    · rw [List.getElem?_append_right (by omega), ← List.getD_eq_getElem?_getD]; exact ih _
theorem take_step {l : List Nat} {k : Nat} (hk : k < l.length) : l.take (k + 1) = l.take k ++ [l.getD k 0] := by
  rw [List.take_add_one, List.getElem?_eq_getElem hk]
  simp [List.getD, List.getElem?_eq_getElem hk]
theorem blkL_step (n : Nat) {l : List Nat} {k : Nat} (hk : k < l.length) : blkL n (l.take (k + 1)) = blkL n (l.take k) ++ putL n (l.getD k 0) := by
  rw [take_step hk]; unfold blkL; rw [List.flatMap_append]; simp
theorem app_byte {a b : List Nat} (ha : ∀ i, a.getD i 0 < 256) (hb : ∀ i, b.getD i 0 < 256) (i : Nat) : (a ++ b).getD i 0 < 256 := by
  rw [List.getD_eq_getElem?_getD]
  by_cases h : i < a.length
  · rw [List.getElem?_append_left h, ← List.getD_eq_getElem?_getD]; exact ha i
  · rw [List.getElem?_append_right (by omega), ← List.getD_eq_getElem?_getD]; exact hb _
def numAt (l : List Nat) (n i : Nat) : Nat := num ((l.drop (n * i)).take n)
theorem takeS_ok {l : List Nat} {n : Nat} (h1 : 1 ≤ n) (h8 : n ≤ 8) (hl : n ≤ l.length) : takeS l 0 (n : Int) (mayN (n : Int)) = (l.take n, l.drop n, 0) := by
  have hm : mayN (n : Int) = true := decide_eq_true (by omega)
  unfold takeS
  rw [if_neg (by simp), if_neg (by rw [hm]; simp), if_neg (by omega), Int.toNat_natCast]
theorem drop_byte {l : List Nat} (h : ∀ i, l.getD i 0 < 256) (k i : Nat) : (l.drop k).getD i 0 < 256 := by
  have := h (k + i)
  simpa [List.getD, List.getElem?_drop] using this
theorem numAt_lt {l : List Nat} (h : ∀ i, l.getD i 0 < 256) (n i : Nat) : numAt l n i < 256 ^ n := by
  unfold numAt
  have h1 := num_lt (l := (l.drop (n * i)).take n) (take_byte (drop_byte h _) _)
  refine Nat.lt_of_lt_of_le h1 (Nat.pow_le_pow_right (by omega) ?_)
  rw [List.length_take]; omega
theorem sameB_iff {l l2 : List Nat} (h : ∀ i, l.getD i 0 < 256) (h2 : ∀ i, l2.getD i 0 < 256) : sameB l l2 = true ↔ l = l2 := by
  unfold sameB
  rw [beq_iff_eq]
  constructor
  · intro e
    refine str_inj h h2 ?_
    have hd : (str l).toList = (str l2).toList := e
    exact ByteArray.ext (Array.toList_inj.mp (by simpa [ByteArray.toList_eq] using hd))
  · rintro rfl; rfl
theorem wp_build_eq9 {P : Program} {ops : Array Oper} {rest : List Oper} {o : Oper} {a : Act} {w : World} {Q : Exit → Act → World → Prop} (hg : o.guard = none) (t : TypeId) (parts : Array (Nat × Operand)) (ho : o.op = .build t parts)
    (cs : Array Value) (hf : P.built t (parts.map fun (i, x) => (i, a.eval x)).toList = some cs) (h : wpList P ops Q rest (a.put o.dst (.agg cs)) w) : wpList P ops Q (o :: rest) a w := by
  refine wpList_build hg t parts ho (by rw [hf]; rfl) ?_
  rw [hf]
  exact h
theorem wpList_load_row_w {P : Program} {ops : Array Oper} {rest : List Oper} {o : Oper} {a : Act} {w : World} {Q : Exit → Act → World → Prop} (hw : Region.wanted o (yielded ops a.tmps) = true) (ty : TypeId) (x : Operand) (ho : o.op = .load ty x)
    (g : Nat) (hx : a.eval x = .pointer (some ⟨g, 0, none⟩)) (t : TypeId) (cs : Array Value) (fr : Nat × Nat) (d : TypeDesc) (hg : w.heap[g]? = some (.cells cs t fr))
    (hu : P.underlying ty = some d) (hd : (match d with | .struct _ | .array _ _ => true | _ => false) = true) (hi : (P.info? ty).map (·.size) = some cs.size)
    (h : wpList P ops Q rest (a.put o.dst (.agg cs)) w) : wpList P ops Q (o :: rest) a w :=
  wpList_step fun K hK => by rw [if_pos hw]; exact wp_load_row ty x ho g hx t cs fr d hg hu hd hi (hK _ _ h)
theorem wp_build_eq_w {P : Program} {ops : Array Oper} {rest : List Oper} {o : Oper} {a : Act} {w : World} {Q : Exit → Act → World → Prop} (hw : Region.wanted o (yielded ops a.tmps) = true) (t : TypeId) (parts : Array (Nat × Operand)) (ho : o.op = .build t parts)
    (cs : Array Value) (hf : P.built t (parts.map fun (i, x) => (i, a.eval x)).toList = some cs) (h : wpList P ops Q rest (a.put o.dst (.agg cs)) w) : wpList P ops Q (o :: rest) a w :=
  wpList_step fun K hK => by
    rw [if_pos hw]
    refine wp_build t parts ho (by rw [hf]; rfl) ?_
    rw [hf]
    exact hK _ _ h
def GivesO (w : World) (l : List Nat) (e : Ending) (w' : World) : Prop := ∃ v, e = .returned v ∧ Own w' w.heap.size v l ∧ Below w.heap.size w w'
theorem Own.base {w : World} {B B' : Nat} {v : Value} {l : List Nat} (h : Own w B v l) (hB : B' ≤ B) : Own w B' v l := by
  obtain ⟨h1, h2⟩ := h
  refine ⟨h1, ?_⟩
  rcases h2 with h2 | ⟨g, cap, cur, hv, hg, hr⟩
  · exact .inl h2
  · exact .inr ⟨g, cap, cur, hv, Nat.le_trans hB hg, hr⟩
end Go.Proofs.Ytfnppoagmambgaa
