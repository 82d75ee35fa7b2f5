/-
  TrustRises' arguments: a register by value, and the calls that came in.
-/
import Derived.Test.YtbanknppdgiflaaTrJ
import Derived.WalkKit
import Derived.ProofKit
import Derived.OpenShut
import Derived.Deep.Slices
import Derived.Deep.Fields
import Derived.ChangeSame
namespace Go.Proofs.Ytbanknppdgiflaa
open Go.RowKit Go Go.WideShapes Go.ChangeShapes Go.Deep
set_option linter.unusedVariables false
set_option linter.unusedSimpArgs false
section
variable {H : Type} {enc : TypeId × Value → H} {w : World}
theorem cells_rg9 : Try.prog.cellsOf RegT = 33 := by kernel_rfl
theorem cells_dg9 : Try.prog.cellsOf 24 = 32 := by kernel_rfl
theorem cells_u64' : Try.prog.cellsOf 22 = 1 := by kernel_rfl
theorem cells_i64' : Try.prog.cellsOf 3 = 1 := by kernel_rfl
theorem cells_op9 : Try.prog.cellsOf OpT9 = 36 := by kernel_rfl
theorem reg_cells {m : Nat} {cs : List Value} {x : DataW H × List MemPlace} (h : DataW.trod enc Try.prog w 0 (fun _ => true) true m RegT cs = some x) : ∃ (c : Nat) (l : List Nat), c < 2 ^ 64 ∧ cs = (rowV (regF c l) 33).toList := by
  obtain ⟨y0, y1, k, _, hl, h0, h1⟩ := trod_struct2 Try.underlying26 h
  rw [cells_rg9] at hl
  simp only [cells_u64', cells_dg9] at h0 h1
  obtain ⟨z, hz, _, hw⟩ := DataW.trod_int Try.underlying22 h0
  obtain ⟨c, hc, rfl⟩ := nat_u64 hw
  obtain ⟨xs, k2, _, _, hl2, hxl, hel⟩ := DataW.trod_array Try.underlying24 h1
  have hcell : ∀ i, i < 32 → ∃ q : Nat, cs[1 + i]? = some (.int .u8 (q : Int)) := fun i hi => by
    have h2 := hel i hi
    rw [cells_r9, Nat.mul_one] at h2
    obtain ⟨y, hy⟩ : ∃ y, xs[i]? = some y := ⟨_, List.getElem?_eq_getElem (by omega)⟩
    rw [hy] at h2
    obtain ⟨z2, hz2, _, hw2⟩ := DataW.trod_int Try.underlying5 h2
    obtain ⟨q, _, rfl⟩ := nat_u8 hw2
    refine ⟨q, ?_⟩
    have h3 := congrArg (fun l => l[0]?) hz2
    simp only [List.getElem?_cons_zero] at h3
    rw [← h3, List.getElem?_take_of_lt (by omega), List.getElem?_drop, List.getElem?_take_of_lt (by omega), List.getElem?_drop]
    rfl
  have hq : ∀ i, ∃ q : Nat, i < 32 → cs[1 + i]? = some (.int .u8 (q : Int)) := fun i => by
    by_cases hi : i < 32
    · obtain ⟨q, h2⟩ := hcell i hi; exact ⟨q, fun _ => h2⟩
    · exact ⟨0, fun h => absurd h hi⟩
  obtain ⟨f, hf⟩ := Classical.skolem.1 hq
  refine ⟨c, (List.range 32).map f, hc, List.ext_getElem? fun j => ?_⟩
  by_cases hj : j < 33
  · have er : (rowV (regF c ((List.range 32).map f)) 33).toList[j]? = some (regF c ((List.range 32).map f) j) := by rw [Array.getElem?_toList]; exact rowV_at _ hj
    rw [er]
    cases j with
    | zero =>
      have h3 := congrArg (fun l => l[0]?) hz
      simp only [List.getElem?_cons_zero] at h3
      rw [List.getElem?_take_of_lt (by omega), List.getElem?_drop] at h3
      simpa [regF] using h3
    | succ j =>
      rw [Nat.add_comm j 1, hf j (by omega)]
      have e : ((List.range 32).map f).getD (1 + j - 1) 0 = f j := by rw [Nat.add_sub_cancel_left, List.getD_eq_getElem?_getD, List.getElem?_map, List.getElem?_range (by omega)]; rfl
      unfold regF
      rw [if_neg (by omega), e]
  · rw [List.getElem?_eq_none (by omega), List.getElem?_eq_none (by simp [rowV_size]; omega)]
theorem split36 {α : Type} (cs : List α) (h : cs.length = 36) : cs = (cs.drop 0).take 1 ++ ((cs.drop 1).take 33 ++ ((cs.drop 34).take 1 ++ (cs.drop 35).take 1)) := by
  have e3 : (cs.drop 35).take 1 = cs.drop 35 := List.take_of_length_le (by simp; omega)
  have e2 : (cs.drop 34).take 1 ++ cs.drop 35 = cs.drop 34 := by have := List.take_append_drop 1 (cs.drop 34); rwa [List.drop_drop] at this
  have e1 : (cs.drop 1).take 33 ++ cs.drop 34 = cs.drop 1 := by have := List.take_append_drop 33 (cs.drop 1); rwa [List.drop_drop] at this
  rw [e3, e2, e1]
  exact (List.take_append_drop 1 cs).symm
theorem op_cells {m : Nat} {cs : List Value} {x : DataW H × List MemPlace} (h : DataW.trod enc Try.prog w 0 (fun _ => true) true m OpT9 cs = some x) : ∃ (K B N : Int) (c : Nat) (l : List Nat), c < 2 ^ 64 ∧ N ≤ 9223372036854775807 ∧ cs = opL K c l B N := by
  obtain ⟨ys, k, _, _, hl, hyl, hf⟩ := DataW.trod_struct Try.underlying38 h
  rw [cells_op9] at hl
  have hyl4 : ys.length = 4 := hyl
  have g0 := hf 0 _ rfl
  have g1 := hf 1 _ rfl
  have g2 := hf 2 _ rfl
  have g3 := hf 3 _ rfl
  have r0 : DataW.trod enc Try.prog w 0 (fun _ => true) true k 3 ((cs.drop 0).take (Try.prog.cellsOf 3)) = ys[0]? := g0
  have r1 : DataW.trod enc Try.prog w 0 (fun _ => true) true k RegT ((cs.drop 1).take (Try.prog.cellsOf RegT)) = ys[1]? := g1
  have r2 : DataW.trod enc Try.prog w 0 (fun _ => true) true k 22 ((cs.drop 34).take (Try.prog.cellsOf 22)) = ys[2]? := g2
  have r3 : DataW.trod enc Try.prog w 0 (fun _ => true) true k 3 ((cs.drop 35).take (Try.prog.cellsOf 3)) = ys[3]? := g3
  clear g0 g1 g2 g3
  have g0 := r0
  have g1 := r1
  have g2 := r2
  have g3 := r3
  rw [cells_i64'] at g0 g3
  rw [cells_u64'] at g2
  rw [cells_rg9] at g1
  have q : ∀ j, j < 4 → ∃ y, ys[j]? = some y := fun j hj => ⟨_, List.getElem?_eq_getElem (by omega)⟩
  obtain ⟨y0, hy0⟩ := q 0 (by omega)
  obtain ⟨y1, hy1⟩ := q 1 (by omega)
  obtain ⟨y2, hy2⟩ := q 2 (by omega)
  obtain ⟨y3, hy3⟩ := q 3 (by omega)
  rw [hy0] at g0
  rw [hy1] at g1
  rw [hy2] at g2
  rw [hy3] at g3
  obtain ⟨K, hK, _, _⟩ := DataW.trod_int Try.underlying3 g0
  obtain ⟨c, l, hc, hr⟩ := reg_cells g1
  obtain ⟨B, hB, _, _⟩ := DataW.trod_int Try.underlying22 g2
  obtain ⟨N, hN, _, hw⟩ := DataW.trod_int Try.underlying3 g3
  have hNb := bounds_i64 hw
  refine ⟨K, B, N, c, l, hc, by omega, ?_⟩
  rw [split36 cs hl, hK, hr, hB, hN]
  rfl
theorem opsq_open {A : Option Addr} {n c : Nat} {d : DataW H} {p : List MemPlace} (h : DataW.Trod enc Try.prog w 0 (fun _ => true) true 27 (.slice A n c) d p) : OpsQ w A n ∧ n ≤ 9223372036854775807 ∧ n ≤ c := by
  obtain ⟨fuel, hfu⟩ := h
  rcases open_slice Try.underlying27 hfu with ⟨hcs, _⟩ | ⟨a, len, cap, m, k, D, Pl, hcs, _, hl, hm, hmm, _, hi⟩
  · simp [Value.cells] at hcs
    obtain ⟨rfl, rfl, rfl⟩ := hcs
    exact ⟨fun h => absurd h (by omega), by omega, by omega⟩
  · simp [Value.cells] at hcs
    obtain ⟨rfl, rfl, rfl⟩ := hcs
    have hm2 : m = c := by simpa using hmm
    refine ⟨fun hn0 => ?_, by unfold maxLen at hm; omega, hl⟩
    have key : ∀ i, i < n → ∃ (K B N : Int) (c : Nat) (l : List Nat), c < 2 ^ 64 ∧ N ≤ 9223372036854775807 ∧ ∀ j v, (opL K c l B N)[j]? = some v → w.cell? ((a.add (i * 36)).add j) = some v := fun i hin => by
      obtain ⟨cs', hc, ht'⟩ := hi i (by omega)
      rw [cells_op9] at hc
      obtain ⟨_, hcl, hat⟩ := World.cells?_some hc
      obtain ⟨K, B, N, c9, l9, h1, h2, h3⟩ := op_cells ht'
      refine ⟨K, B, N, c9, l9, h1, h2, fun j v hv => ?_⟩
      have hj : j < 36 := by have := (List.getElem?_eq_some_iff.1 hv).1; rwa [opL_len] at this
      rw [hat j hj, h3]; exact hv
    obtain ⟨b, off, spot⟩ := a
    obtain ⟨K0, B0, N0, c0, l0, _, _, hk0⟩ := key 0 hn0
    have hc0 := hk0 0 _ rfl
    have hspot : spot = none := by simpa [Addr.add] using World.cell?_spot hc0
    subst hspot
    refine ⟨b, off, rfl, by simpa [Go.WideShapes.add_plain] using block_lt_of_cell hc0, fun i hin => ?_⟩
    obtain ⟨K, B, N, c9, l9, h1, h2, h3⟩ := key i hin
    refine ⟨K, B, N, c9, l9, h1, h2, fun j v hv => ?_⟩
    have := h3 j v hv
    rwa [Go.WideShapes.add_plain, Go.WideShapes.add_plain] at this
theorem reg_open {v : Array Value} {d : DataW H} {p : List MemPlace} (h : DataW.Trod enc Try.prog w 0 (fun _ => true) true RegT (.agg v) d p) : ∃ (c : Nat) (l : List Nat), c < 2 ^ 64 ∧ v = rowV (regF c l) 33 := by
  obtain ⟨fuel, hfu⟩ := h
  obtain ⟨c, l, hc, hv⟩ := reg_cells hfu
  exact ⟨c, l, hc, Array.toList_inj.mp (by simpa [Value.cells] using hv)⟩
end
end Go.Proofs.Ytbanknppdgiflaa
