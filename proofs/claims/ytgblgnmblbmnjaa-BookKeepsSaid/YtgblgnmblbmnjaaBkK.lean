/-
  Texts that came in; BookNil.
-/
import Derived.Test.YtgblgnmblbmnjaaBkJ
import Derived.Test.YtgblgnmblbmnjaaOpenF
namespace Go.Proofs.Ytgblgnmblbmnjaa
open Go.RowKit Go Go.WideShapes Go.ChangeShapes Go.Deep
set_option linter.unusedVariables false
set_option linter.unusedSimpArgs false
/-- the texts that came in -/
def TxAt (w : World) (A : Option Addr) (n : Nat) : Prop :=
  0 < n → ∃ b o, A = some ⟨b, o, none⟩ ∧ b < w.heap.size ∧ ∀ i, i < n → ∃ (K : Nat) (A1 A2 : Option Addr) (n1 n2 c1 c2 : Nat) (l1 l2 : List Nat), K < 256 ∧ w.cell? ⟨b, o + i * 3, none⟩ = some (.int .u8 (K : Int)) ∧ w.cell? ⟨b, o + i * 3 + 1, none⟩ = some (.slice A1 n1 c1) ∧ w.cell? ⟨b, o + i * 3 + 2, none⟩ = some (.slice A2 n2 c2) ∧
    BS w w.heap.size A1 n1 c1 l1 ∧ BS w w.heap.size A2 n2 c2 l2 ∧ (A1 = none → c1 = 0) ∧ (A2 = none → c2 = 0)
section
variable {H : Type} {enc : TypeId × Value → H} {w : World}
theorem bs_of_cell {v : Value} {fuel : Nat} {y : DataW H × List MemPlace} (h : DataW.trod enc Try.prog w 0 (fun _ => true) true fuel 27 [v] = some y) : ∃ A n c l, v = .slice A n c ∧ BS w w.heap.size A n c l ∧ (A = none → c = 0) := by
  rcases open_ints Try.underlying27 Try.underlying5 (by kernel_rfl) h with ⟨hcs, _⟩ | ⟨x, l, c, zs, hcs, _, hl, hm, hz, _, hcell, hwz⟩
  · injection hcs with hcs
    subst hcs
    exact ⟨none, 0, 0, [], rfl, BS.nil _ _, fun _ => rfl⟩
  · injection hcs with hcs
    subst hcs
    obtain ⟨q, hq⟩ := BS.of_row (.inr ⟨x, rfl, hl, hm, by simpa using hz, hcell, hwz⟩)
    exact ⟨some x, l, c, q, rfl, hq, fun e => by cases e⟩
theorem txts_open {A : Option Addr} {n c : Nat} {d : DataW H} {p : List MemPlace} (h : DataW.Trod enc Try.prog w 0 (fun _ => true) true 22 (.slice A n c) d p) : TxAt w A n ∧ n ≤ 9223372036854775807 ∧ n ≤ c := by
  obtain ⟨h1, h2, h3, _⟩ := fields_open Try.underlying22 Try.underlying29 (by kernel_rfl) (by kernel_rfl) (by decide) h
  refine ⟨fun hn => ?_, by unfold maxLen at h3; omega, h2⟩
  obtain ⟨b, o, hA, hb, hf⟩ := h1 hn
  refine ⟨b, o, hA, hb, fun i hi => ?_⟩
  obtain ⟨v0, _, y0, c0, t0⟩ := hf i hi 0 _ rfl
  obtain ⟨v1, _, y1, c1, t1⟩ := hf i hi 1 _ rfl
  obtain ⟨v2, _, y2, c2, t2⟩ := hf i hi 2 _ rfl
  obtain ⟨K, hK, _, hw⟩ := DataW.trod_int Try.underlying5 t0
  injection hK with hK
  obtain ⟨q, hq, rfl⟩ := nat_u8 hw
  obtain ⟨A1, n1, m1, l1, rfl, b1, z1⟩ := bs_of_cell t1
  obtain ⟨A2, n2, m2, l2, rfl, b2, z2⟩ := bs_of_cell t2
  subst hK
  exact ⟨q, A1, A2, n1, n2, m1, m2, l1, l2, hq, by simpa using c0, by rw [Nat.add_assoc]; simpa using c1, by rw [Nat.add_assoc]; simpa using c2, b1, b2, z1, z2⟩
def TxOf (w : World) (g : Array Value) : Prop := ∃ (K : Nat) (A1 A2 : Option Addr) (n1 n2 c1 c2 : Nat) (l1 l2 : List Nat), K < 256 ∧ g = #[.int .u8 (K : Int), .slice A1 n1 c1, .slice A2 n2 c2] ∧
    BS w w.heap.size A1 n1 c1 l1 ∧ BS w w.heap.size A2 n2 c2 l2 ∧ (A1 = none → c1 = 0) ∧ (A2 = none → c2 = 0)
theorem cells_t5 : Try.prog.cellsOf 5 = 1 := by kernel_rfl
theorem cells_t27 : Try.prog.cellsOf 27 = 1 := by kernel_rfl
theorem txt_open {g : Array Value} {d : DataW H} {p : List MemPlace} (hs : g.size = 3) (h : DataW.Trod enc Try.prog w 0 (fun _ => true) true 29 (.agg g) d p) : TxOf w g := by
  obtain ⟨fuel, hf⟩ := h
  have hc : (Value.agg g).cells.toList = g.toList := rfl
  rw [hc] at hf
  obtain ⟨cs, rfl⟩ : ∃ cs : List Value, g = cs.toArray := ⟨g.toList, by simp⟩
  obtain ⟨a0, a1, a2, rfl⟩ : ∃ a0 a1 a2, cs = [a0, a1, a2] := by
    match cs, hs with
    | [a0, a1, a2], _ => exact ⟨_, _, _, rfl⟩
  obtain ⟨ys, k, _, _, hl, hyl, hf⟩ := DataW.trod_struct Try.underlying29 hf
  have g0 := hf 0 _ rfl
  have g1 := hf 1 _ rfl
  have g2 := hf 2 _ rfl
  have r0 : DataW.trod enc Try.prog w 0 (fun _ => true) true k 5 (([a0, a1, a2].drop 0).take (Try.prog.cellsOf 5)) = ys[0]? := g0
  have r1 : DataW.trod enc Try.prog w 0 (fun _ => true) true k 27 (([a0, a1, a2].drop 1).take (Try.prog.cellsOf 27)) = ys[1]? := g1
  have r2 : DataW.trod enc Try.prog w 0 (fun _ => true) true k 27 (([a0, a1, a2].drop 2).take (Try.prog.cellsOf 27)) = ys[2]? := g2
  clear g0 g1 g2
  rw [cells_t5] at r0
  rw [cells_t27] at r1 r2
  have hyl3 : ys.length = 3 := hyl
  have e0 : ys[0]? = some (ys[0]'(by omega)) := List.getElem?_eq_getElem (by omega)
  have e1 : ys[1]? = some (ys[1]'(by omega)) := List.getElem?_eq_getElem (by omega)
  have e2 : ys[2]? = some (ys[2]'(by omega)) := List.getElem?_eq_getElem (by omega)
  rw [e0] at r0
  rw [e1] at r1
  rw [e2] at r2
  obtain ⟨K, hK, _, hw⟩ := DataW.trod_int Try.underlying5 r0
  have hK2 : a0 = .int .u8 K := by simpa using hK
  obtain ⟨q, hq, rfl⟩ := nat_u8 hw
  obtain ⟨A1, n1, m1, l1, q1, b1, z1⟩ := bs_of_cell (v := a1) r1
  obtain ⟨A2, n2, m2, l2, q2, b2, z2⟩ := bs_of_cell (v := a2) r2
  subst hK2 q1 q2
  exact ⟨q, A1, A2, n1, n2, m1, m2, l1, l2, hq, rfl, b1, b2, z1, z2⟩
end
end Go.Proofs.Ytgblgnmblbmnjaa
