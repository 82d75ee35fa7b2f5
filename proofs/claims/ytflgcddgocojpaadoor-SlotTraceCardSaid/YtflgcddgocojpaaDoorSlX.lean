/-
  Layer 18: calls that came in.
-/
import Derived.Test.YtflgcddgocojpaaDoorSlY
import Derived.Test.YtflgcddgocojpaaDoorOpenF
namespace Go.Proofs.YtflgcddgocojpaaDoor
open Go.RowKit Go Go.WideShapes Go.ChangeShapes Go.Deep
set_option linter.unusedVariables false
set_option linter.unusedSimpArgs false
set_option maxRecDepth 100000
structure O18 where
  kind : Int
  k : Int
  n : Int
  pos : Int
  s : Nat
  b : List Nat
/-- a call's six cells -/
def o18L (a : O18) (A : Option Addr) (c : Nat) : List Value := [.int .i64 a.kind, .int .i64 a.k, .int .i64 a.n, .int .i64 a.pos, .int .u64 (a.s : Int), .slice A a.b.length c]
def o18Z : O18 := ⟨0, 0, 0, 0, 0, []⟩
def o18At (l : List O18) (i : Nat) : O18 := l.getD i o18Z
/-- what a call that came in keeps -/
structure Ok18 (w : World) (a : O18) (A : Option Addr) (c : Nat) : Prop where
  bs : BS w w.heap.size A a.b.length c a.b
  nil_ : A = none → c = 0
  top : a.pos ≤ 9223372036854775807
  ser : a.s < 2 ^ 64
theorem Ok18.below {w w' : World} {a : O18} {A : Option Addr} {c : Nat} (h : Ok18 w a A c) (hb : Below w.heap.size w w') : Ok18 w' a A c := ⟨(h.bs.below hb).more hb.size, h.nil_, h.top, h.ser⟩
def O18B (w : World) (b o : Nat) (l : List O18) : Prop :=
  b < w.heap.size ∧ ∀ i, i < l.length → ∃ A c, (∀ j v, (o18L (o18At l i) A c)[j]? = some v → w.cell? ⟨b, o + i * 6 + j, none⟩ = some v) ∧ Ok18 w (o18At l i) A c
/-- a slice of calls, nil or not -/
def O18V (w : World) (A : Option Addr) (n : Nat) (l : List O18) : Prop := l.length = n ∧ (0 < n → ∃ b o, A = some ⟨b, o, none⟩ ∧ O18B w b o l)
theorem O18V.at_ {w : World} {A : Option Addr} {n : Nat} {l : List O18} (h : O18V w A n l) {i : Nat} (hi : i < n) : ∃ b o A1 c1, A = some ⟨b, o, none⟩ ∧ b < w.heap.size ∧
    w.cell? ⟨b, o + i * 6, none⟩ = some (.int .i64 (o18At l i).kind) ∧ w.cell? ⟨b, o + i * 6 + 1, none⟩ = some (.int .i64 (o18At l i).k) ∧ w.cell? ⟨b, o + i * 6 + 2, none⟩ = some (.int .i64 (o18At l i).n) ∧
    w.cell? ⟨b, o + i * 6 + 3, none⟩ = some (.int .i64 (o18At l i).pos) ∧ w.cell? ⟨b, o + i * 6 + 4, none⟩ = some (.int .u64 (((o18At l i).s : Nat) : Int)) ∧ w.cell? ⟨b, o + i * 6 + 5, none⟩ = some (.slice A1 (o18At l i).b.length c1) ∧ Ok18 w (o18At l i) A1 c1 := by
  obtain ⟨b, o, e, h1⟩ := h.2 (by omega)
  obtain ⟨A1, c1, h2, h3⟩ := h1.2 i (by have := h.1; omega)
  exact ⟨b, o, A1, c1, e, h1.1, h2 0 _ rfl, h2 1 _ rfl, h2 2 _ rfl, h2 3 _ rfl, h2 4 _ rfl, h2 5 _ rfl, h3⟩
section
variable {H : Type} {enc : TypeId × Value → H} {w : World}
theorem bs_of_cell18 {v : Value} {fuel : Nat} {y : DataW H × List MemPlace} (h : DataW.trod enc Tryd.prog w 0 (fun _ => true) true fuel 23 [v] = some y) : ∃ A n c l, v = .slice A n c ∧ BS w w.heap.size A n c l ∧ (A = none → c = 0) := by
  rcases open_ints Tryd.underlying23 Tryd.underlying5 (by kernel_rfl) h with ⟨hcs, _⟩ | ⟨x, l, c, zs, hcs, _, hl, hm, hz, _, hcell, hwz⟩
  · injection hcs with hcs
    subst hcs
    exact ⟨none, 0, 0, [], rfl, BS.nil _ _, fun _ => rfl⟩
  · injection hcs with hcs
    subst hcs
    obtain ⟨q, hq⟩ := BS.of_row (.inr ⟨x, rfl, hl, hm, by simpa using hz, hcell, hwz⟩)
    exact ⟨some x, l, c, q, rfl, hq, fun e => by cases e⟩
theorem wf_i64 {z : Int} (h : (Lit.int .i64 z).wf = true) : z ≤ 9223372036854775807 := by
  have := h
  simp [Lit.wf] at this
  have e : IntKind.i64.max = 9223372036854775807 := by decide
  omega
theorem wf_u64 {z : Int} (h : (Lit.int .u64 z).wf = true) : 0 ≤ z ∧ z < 2 ^ 64 := by
  have := h
  simp [Lit.wf] at this
  have e : IntKind.u64.max = 18446744073709551615 := by decide
  have e2 : IntKind.u64.min = 0 := by decide
  omega
theorem ops18_open {A : Option Addr} {n c : Nat} {d : DataW H} {p : List MemPlace} (h : DataW.Trod enc Tryd.prog w 0 (fun _ => true) true 22 (.slice A n c) d p) : ∃ l, O18V w A n l ∧ n ≤ c ∧ c ≤ 9223372036854775807 := by
  obtain ⟨h1, h2, h3, _⟩ := fields_open Tryd.underlying22 Tryd.underlying29 (by kernel_rfl) (by kernel_rfl) (by decide) h
  have hn9 : c ≤ 9223372036854775807 := by unfold maxLen at h3; omega
  rcases Nat.eq_zero_or_pos n with h0 | h0
  · exact ⟨[], ⟨h0.symm, fun h => absurd h (by omega)⟩, h2, hn9⟩
  obtain ⟨b, o, hA, hb, hf⟩ := h1 h0
  have key : ∀ i, ∃ r : O18, i < n → ∃ A' c', (∀ j v, (o18L r A' c')[j]? = some v → w.cell? ⟨b, o + i * 6 + j, none⟩ = some v) ∧ Ok18 w r A' c' := fun i => by
    by_cases hi : i < n
    · obtain ⟨v0, _, y0, c0, t0⟩ := hf i hi 0 _ rfl
      obtain ⟨v1, _, y1, c1, t1⟩ := hf i hi 1 _ rfl
      obtain ⟨v2, _, y2, c2, t2⟩ := hf i hi 2 _ rfl
      obtain ⟨v3, _, y3, c3, t3⟩ := hf i hi 3 _ rfl
      obtain ⟨v4, _, y4, c4, t4⟩ := hf i hi 4 _ rfl
      obtain ⟨v5, _, y5, c5, t5⟩ := hf i hi 5 _ rfl
      obtain ⟨z0, e0, _, _⟩ := DataW.trod_int Tryd.underlying3 t0
      obtain ⟨z1, e1, _, _⟩ := DataW.trod_int Tryd.underlying3 t1
      obtain ⟨z2, e2, _, _⟩ := DataW.trod_int Tryd.underlying3 t2
      obtain ⟨z3, e3, f3, g3⟩ := DataW.trod_int Tryd.underlying3 t3
      obtain ⟨z4, e4, f4, g4⟩ := DataW.trod_int Tryd.underlying27 t4
      injection e0 with e0
      injection e1 with e1
      injection e2 with e2
      injection e3 with e3
      injection e4 with e4
      obtain ⟨A1, n1, c1', l1, rfl, b1, hz⟩ := bs_of_cell18 t5
      have hl1 := b1.len
      subst hl1
      subst e0 e1 e2 e3 e4
      have hw4 := wf_u64 (by first | exact f4 | exact g4)
      obtain ⟨s4, rfl⟩ : ∃ s : Nat, z4 = (s : Int) := ⟨z4.toNat, by omega⟩
      refine ⟨⟨z0, z1, z2, z3, s4, l1⟩, fun _ => ⟨A1, c1', fun j v hj => ?_, ⟨b1, hz, wf_i64 (by first | exact f3 | exact g3), by show s4 < _; omega⟩⟩⟩
      rw [Nat.add_assoc]
      match j, hj with
      | 0, hj => have := Option.some.inj hj; subst this; exact c0
      | 1, hj => have := Option.some.inj hj; subst this; exact c1
      | 2, hj => have := Option.some.inj hj; subst this; exact c2
      | 3, hj => have := Option.some.inj hj; subst this; exact c3
      | 4, hj => have := Option.some.inj hj; subst this; exact c4
      | 5, hj => have := Option.some.inj hj; subst this; exact c5
      | j + 6, hj => simp [o18L] at hj
    · exact ⟨o18Z, fun h => absurd h hi⟩
  obtain ⟨R, hR⟩ := Classical.axiomOfChoice key
  have hget : ∀ i, i < n → o18At ((List.range n).map R) i = R i := fun i hi => by
    unfold o18At
    rw [List.getD_eq_getElem?_getD, List.getElem?_map, List.getElem?_range hi]; rfl
  refine ⟨(List.range n).map R, ⟨by simp, fun _ => ⟨b, o, hA, hb, fun i hi => ?_⟩⟩, h2, hn9⟩
  have hi2 : i < n := by simpa using hi
  rw [hget i hi2]
  exact hR i hi2
end
end Go.Proofs.YtflgcddgocojpaaDoor
