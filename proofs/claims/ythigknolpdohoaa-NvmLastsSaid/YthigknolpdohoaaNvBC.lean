/-
  Calls that came in (chapter 8): their cells, their opening, Cut.
-/
import Derived.Test.YthigknolpdohoaaNvBB
import Derived.Test.YthigknolpdohoaaOpenF
namespace Go.Proofs.Ythigknolpdohoaa
open Go.RowKit Go Go.WideShapes Go.ChangeShapes Go.Deep
set_option linter.unusedVariables false
set_option linter.unusedSimpArgs false
set_option maxRecDepth 100000
structure O8 where
  kind : Int
  at_ : Int
  n : Int
  b : List Nat
  p : List Nat
/-- a call's five cells -/
def o8L (a : O8) (A : Option Addr) (c : Nat) (P : Option Addr) (d : Nat) : List Value := [.int .i64 a.kind, .int .i64 a.at_, .int .i64 a.n, .slice A a.b.length c, .slice P a.p.length d]
def o8Z : O8 := ⟨0, 0, 0, [], []⟩
def o8At (l : List O8) (i : Nat) : O8 := l.getD i o8Z
def O8B (w : World) (b o : Nat) (l : List O8) : Prop :=
  b < w.heap.size ∧ ∀ i, i < l.length → ∃ A c P d, (∀ j v, (o8L (o8At l i) A c P d)[j]? = some v → w.cell? ⟨b, o + i * 5 + j, none⟩ = some v) ∧ BS w w.heap.size A (o8At l i).b.length c (o8At l i).b ∧ BS w w.heap.size P (o8At l i).p.length d (o8At l i).p
/-- a slice of calls, nil or not -/
def O8V (w : World) (A : Option Addr) (n : Nat) (l : List O8) : Prop := l.length = n ∧ (0 < n → ∃ b o, A = some ⟨b, o, none⟩ ∧ O8B w b o l)
theorem O8V.at_ {w : World} {A : Option Addr} {n : Nat} {l : List O8} (h : O8V w A n l) {i : Nat} (hi : i < n) : ∃ b o A1 c1 A2 c2, A = some ⟨b, o, none⟩ ∧ b < w.heap.size ∧
    w.cell? ⟨b, o + i * 5, none⟩ = some (.int .i64 (o8At l i).kind) ∧ w.cell? ⟨b, o + i * 5 + 1, none⟩ = some (.int .i64 (o8At l i).at_) ∧ w.cell? ⟨b, o + i * 5 + 2, none⟩ = some (.int .i64 (o8At l i).n) ∧
    w.cell? ⟨b, o + i * 5 + 3, none⟩ = some (.slice A1 (o8At l i).b.length c1) ∧ w.cell? ⟨b, o + i * 5 + 4, none⟩ = some (.slice A2 (o8At l i).p.length c2) ∧
    BS w w.heap.size A1 (o8At l i).b.length c1 (o8At l i).b ∧ BS w w.heap.size A2 (o8At l i).p.length c2 (o8At l i).p := by
  obtain ⟨b, o, e, h1⟩ := h.2 (by omega)
  obtain ⟨A1, c1, A2, c2, h2, h3, h4⟩ := h1.2 i (by have := h.1; omega)
  exact ⟨b, o, A1, c1, A2, c2, e, h1.1, h2 0 _ rfl, h2 1 _ rfl, h2 2 _ rfl, h2 3 _ rfl, h2 4 _ rfl, h3, h4⟩
section
variable {H : Type} {enc : TypeId × Value → H} {w : World}
theorem bs_of_cell8 {v : Value} {fuel : Nat} {y : DataW H × List MemPlace} (h : DataW.trod enc Try.prog w 0 (fun _ => true) true fuel 28 [v] = some y) : ∃ A n c l, v = .slice A n c ∧ BS w w.heap.size A n c l := by
  rcases open_ints Try.underlying28 Try.underlying5 (by kernel_rfl) h with ⟨hcs, _⟩ | ⟨x, l, c, zs, hcs, _, hl, hm, hz, _, hcell, hwz⟩
  · injection hcs with hcs
    subst hcs
    exact ⟨none, 0, 0, [], rfl, BS.nil _ _⟩
  · injection hcs with hcs
    subst hcs
    obtain ⟨q, hq⟩ := BS.of_row (.inr ⟨x, rfl, hl, hm, by simpa using hz, hcell, hwz⟩)
    exact ⟨some x, l, c, q, rfl, hq⟩
theorem ops8_open {A : Option Addr} {n c : Nat} {d : DataW H} {p : List MemPlace} (h : DataW.Trod enc Try.prog w 0 (fun _ => true) true 22 (.slice A n c) d p) : ∃ l, O8V w A n l ∧ n ≤ c ∧ c ≤ 9223372036854775807 := by
  obtain ⟨h1, h2, h3, _⟩ := fields_open Try.underlying22 Try.underlying30 (by kernel_rfl) (by kernel_rfl) (by decide) h
  have hn9 : c ≤ 9223372036854775807 := by unfold maxLen at h3; omega
  rcases Nat.eq_zero_or_pos n with h0 | h0
  · exact ⟨[], ⟨h0.symm, fun h => absurd h (by omega)⟩, h2, hn9⟩
  obtain ⟨b, o, hA, hb, hf⟩ := h1 h0
  have key : ∀ i, ∃ r : O8, i < n → ∃ A' c' P' d', (∀ j v, (o8L r A' c' P' d')[j]? = some v → w.cell? ⟨b, o + i * 5 + j, none⟩ = some v) ∧ BS w w.heap.size A' r.b.length c' r.b ∧ BS w w.heap.size P' r.p.length d' r.p := fun i => by
    by_cases hi : i < n
    · obtain ⟨v0, _, y0, c0, t0⟩ := hf i hi 0 _ rfl
      obtain ⟨v1, _, y1, c1, t1⟩ := hf i hi 1 _ rfl
      obtain ⟨v2, _, y2, c2, t2⟩ := hf i hi 2 _ rfl
      obtain ⟨v3, _, y3, c3, t3⟩ := hf i hi 3 _ rfl
      obtain ⟨v4, _, y4, c4, t4⟩ := hf i hi 4 _ rfl
      obtain ⟨z0, e0, _, _⟩ := DataW.trod_int Try.underlying3 t0
      obtain ⟨z1, e1, _, _⟩ := DataW.trod_int Try.underlying3 t1
      obtain ⟨z2, e2, _, _⟩ := DataW.trod_int Try.underlying3 t2
      injection e0 with e0
      injection e1 with e1
      injection e2 with e2
      obtain ⟨A1, n1, c1', l1, rfl, b1⟩ := bs_of_cell8 t3
      obtain ⟨A2, n2, c2', l2, rfl, b2⟩ := bs_of_cell8 t4
      have hl1 := b1.len
      have hl2 := b2.len
      subst hl1 hl2
      subst e0 e1 e2
      refine ⟨⟨z0, z1, z2, l1, l2⟩, fun _ => ⟨A1, c1', A2, c2', fun j v hj => ?_, b1, b2⟩⟩
      rw [Nat.add_assoc]
      match j, hj with
      | 0, hj => have := Option.some.inj hj; subst this; exact c0
      | 1, hj => have := Option.some.inj hj; subst this; exact c1
      | 2, hj => have := Option.some.inj hj; subst this; exact c2
      | 3, hj => have := Option.some.inj hj; subst this; exact c3
      | 4, hj => have := Option.some.inj hj; subst this; exact c4
      | j + 5, hj => simp [o8L] at hj
    · exact ⟨o8Z, fun h => absurd h hi⟩
  obtain ⟨R, hR⟩ := Classical.axiomOfChoice key
  have hget : ∀ i, i < n → o8At ((List.range n).map R) i = R i := fun i hi => by
    unfold o8At
    rw [List.getD_eq_getElem?_getD, List.getElem?_map, List.getElem?_range hi]; rfl
  refine ⟨(List.range n).map R, ⟨by simp, fun _ => ⟨b, o, hA, hb, fun i hi => ?_⟩⟩, h2, hn9⟩
  have hi2 : i < n := by simpa using hi
  rw [hget i hi2]
  exact hR i hi2
end
theorem two_new (w : World) (x y : Obj) : ((w.alloc x).alloc y).heap[w.heap.size + 1]? = some y := by
  have h := heap_alloc_new (w.alloc x) y
  rw [show (w.alloc x).heap.size = w.heap.size + 1 by simp] at h
  exact h
theorem run_take8 (A : Option Addr) (n c k : Nat) (hk : k ≤ c) (w : World) :
    (Instr.slice 28 (.slice A n c) none (some (.int .i64 (k : Int))) none).run Try.prog w = .ok (.slice A k c) w := by
  obtain ⟨i, hi', hz⟩ := Option.map_eq_some_iff.mp (show (Try.prog.info? 5).map (·.size) = some 1 by kernel_rfl)
  simp [Instr.slice, Instr.sliceBounds, Instr.sliceBound, run_underlying Try.underlying28, asIntOf, go_sem, sizeOf, typeInfo, hi', hz]
  omega
/-- the call gives a call with shorter rows -/
theorem cut8_any (kd at_ m : Int) (A P : Option Addr) (n c n2 c2 : Nat) (hn : n ≤ c) (hn2 : n2 ≤ c2) (w : World) :
    Calls Try.prog 16 #[.agg #[.int .i64 kd, .int .i64 at_, .int .i64 m, .slice A n c, .slice P n2 c2]] w fun e w' => e = .returned (.agg #[.int .i64 kd, .int .i64 at_, .int .i64 m, .slice A (min n 150) c, .slice P (min n2 12) c2]) ∧ Below w.heap.size w w' := by
  have hcutA : 150 < n → ∀ W, (Instr.slice 28 (.slice A n c) none (some (.int .i64 150)) none).run Try.prog W = .ok (.slice A 150 c) W := fun h W => run_take8 A n c 150 (by omega) W
  have hcutP : 12 < n2 → ∀ W, (Instr.slice 28 (.slice P n2 c2) none (some (.int .i64 12)) none).run Try.prog W = .ok (.slice P 12 c2) W := fun h W => run_take8 P n2 c2 12 (by omega) W
  by_cases h1 : n ≤ 150
  · have hI1 : ¬ (150 : Int) < (n : Int) := by omega
    rw [Nat.min_eq_left h1]
    by_cases h2 : n2 ≤ 12
    · have hI2 : ¬ (12 : Int) < (n2 : Int) := by omega
      rw [Nat.min_eq_left h2]
      clear hcutA hcutP
      go_enter Try.func16, Try.ntmps16
      go_wp2
      refine bodyPost_ret (v := .agg #[.int .i64 kd, .int .i64 at_, .int .i64 m, .slice A n c, .slice P n2 c2]) (results_cell_row rfl _ _ _ 30 _ (0, 0) _ rfl (two_new w _ _) Try.underlying30 rfl (by kernel_rfl)) rfl ⟨rfl, ((Below.refl _ _).alloc (Nat.le_refl _) _).alloc (by simp) _⟩
    · have hI2 : (12 : Int) < (n2 : Int) := by omega
      rw [Nat.min_eq_right (by omega : 12 ≤ n2)]
      have hc2 := hcutP (by omega)
      clear hcutA hcutP
      go_enter Try.func16, Try.ntmps16
      go_wp2
      refine bodyPost_ret (v := .agg #[.int .i64 kd, .int .i64 at_, .int .i64 m, .slice A n c, .slice P 12 c2]) (results_cell_row rfl _ _ _ 30 _ (0, 0) _ rfl (two_new w _ _) Try.underlying30 rfl (by kernel_rfl)) rfl ⟨rfl, ((Below.refl _ _).alloc (Nat.le_refl _) _).alloc (by simp) _⟩
  · have hI1 : (150 : Int) < (n : Int) := by omega
    rw [Nat.min_eq_right (by omega : 150 ≤ n)]
    have hc1 := hcutA (by omega)
    by_cases h2 : n2 ≤ 12
    · have hI2 : ¬ (12 : Int) < (n2 : Int) := by omega
      rw [Nat.min_eq_left h2]
      clear hcutA hcutP
      go_enter Try.func16, Try.ntmps16
      go_wp2
      refine bodyPost_ret (v := .agg #[.int .i64 kd, .int .i64 at_, .int .i64 m, .slice A 150 c, .slice P n2 c2]) (results_cell_row rfl _ _ _ 30 _ (0, 0) _ rfl (two_new w _ _) Try.underlying30 rfl (by kernel_rfl)) rfl ⟨rfl, ((Below.refl _ _).alloc (Nat.le_refl _) _).alloc (by simp) _⟩
    · have hI2 : (12 : Int) < (n2 : Int) := by omega
      rw [Nat.min_eq_right (by omega : 12 ≤ n2)]
      have hc2 := hcutP (by omega)
      clear hcutA hcutP
      go_enter Try.func16, Try.ntmps16
      go_wp2
      refine bodyPost_ret (v := .agg #[.int .i64 kd, .int .i64 at_, .int .i64 m, .slice A 150 c, .slice P 12 c2]) (results_cell_row rfl _ _ _ 30 _ (0, 0) _ rfl (two_new w _ _) Try.underlying30 rfl (by kernel_rfl)) rfl ⟨rfl, ((Below.refl _ _).alloc (Nat.le_refl _) _).alloc (by simp) _⟩
end Go.Proofs.Ythigknolpdohoaa
