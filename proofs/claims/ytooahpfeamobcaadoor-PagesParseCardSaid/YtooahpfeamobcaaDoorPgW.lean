/-
  A page as bytes.
-/
import Derived.Test.YtooahpfeamobcaaDoorPgV
import Derived.Test.YtooahpfeamobcaaDoorHeldF
import Derived.Test.YtooahpfeamobcaaDoorPgC
import Derived.Deep.RegionWith
import Derived.Great.Ranges
import Derived.Deep.RegionHeld3
namespace Go.Proofs.YtooahpfeamobcaaDoor
open Go.RowKit Go Go.Shelf
set_option linter.unusedVariables false
set_option linter.unusedSimpArgs false
theorem run_loadVar_cell {P : Program} (w : World) (b off : Nat) (ty : TypeId) (d : TypeDesc) (v : Value) (hu : P.underlying ty = some d) (hd : d.isRow = false) (hc : w.cell? ⟨b, off, none⟩ = some v) : (loadVar ty ⟨b, off, none⟩).run P w = .ok v w := by
  have hagg : (isAgg ty).run P w = .ok false w := by
    unfold isAgg
    rw [Sem.run_bind, run_underlying hu w]
    cases d <;> simp_all [TypeDesc.isRow]
  unfold loadVar
  rw [Sem.run_bind, hagg]
  simp [go_sem, hc]
theorem yields_cellP {P : Program} {ops : Array Oper} {S : World → Prop} {o : Oper} {a : Act} (hw : Region.wanted o (yielded ops a.tmps) = true) (ty : TypeId) (x : Operand) (ho : o.op = .load ty x) (b off : Nat) (hx : a.eval x = .pointer (some ⟨b, off, none⟩)) (v : Value) (d : TypeDesc)
    (hS : ∀ w, S w → w.cell? ⟨b, off, none⟩ = some v) (hu : P.underlying ty = some d) (hd : d.isRow = false) : YieldsIf P ops S o v a :=
  .inl ⟨hw, fun w h => by
    unfold execOp
    simp only [ho, hx, Instr.loadAt, Instr.sureAddr, Sem.run_bind, Sem.run_pure, Result.andThen_ok, run_loadVar_cell w b off ty d v hu hd (hS w h)]⟩
theorem Own.base {w : World} {B B' : Nat} {v : Value} {l : List Nat} (h : Own w B v l) (hB : B' ≤ B) : Own w B' v l := by
  obtain ⟨h1, h2⟩ := h
  refine ⟨h1, ?_⟩
  rcases h2 with h2 | ⟨g, cap, cur, hv, hg, hr⟩
  · exact .inl h2
  · exact .inr ⟨g, cap, cur, hv, Nat.le_trans hB hg, hr⟩
/-- five numbers as bytes -/
def byL (a0 a1 a2 a3 a4 : Nat) : List Nat := putL 1 a0 ++ (putL 1 a1 ++ (putL 2 a2 ++ (putL 4 a3 ++ putL 8 a4)))
theorem putL_length (n v : Nat) : (putL n v).length = n := by simp [putL]
theorem byL_len (a0 a1 a2 a3 a4 : Nat) : (byL a0 a1 a2 a3 a4).length = 16 := by simp [byL, putL_length]
theorem rowsW5 {w : World} {l0 l1 l2 l3 l4 : List Nat} {A0 A1 A2 A3 A4 : Option Addr} {n0 n1 n2 n3 n4 c0 c1 c2 c3 c4 : Nat} {t : TypeId}
    (h0 : BS w w.heap.size A0 n0 c0 l0) (h1 : BS w w.heap.size A1 n1 c1 l1) (h2 : BS w w.heap.size A2 n2 c2 l2) (h3 : BS w w.heap.size A3 n3 c3 l3) (h4 : BS w w.heap.size A4 n4 c4 l4)
    (k0 : 0 < n0 ∧ n0 ≤ 100) (k1 : 0 < n1 ∧ n1 ≤ 100) (k2 : 0 < n2 ∧ n2 ≤ 100) (k3 : 0 < n3 ∧ n3 ≤ 100) (k4 : 0 < n4 ∧ n4 ≤ 100) :
    RowsAt (w.alloc (.cells #[.slice A0 n0 c0, .slice A1 n1 c1, .slice A2 n2 c2, .slice A3 n3 c3, .slice A4 n4 c4] t)) w.heap.size [l0, l1, l2, l3, l4] := by
  obtain rfl := h0.len
  obtain rfl := h1.len
  obtain rfl := h2.len
  obtain rfl := h3.len
  obtain rfl := h4.len
  have hh := heap_alloc_new w (.cells #[.slice A0 l0.length c0, .slice A1 l1.length c1, .slice A2 l2.length c2, .slice A3 l3.length c3, .slice A4 l4.length c4] t)
  have hb := bel_alloc w (.cells #[.slice A0 l0.length c0, .slice A1 l1.length c1, .slice A2 l2.length c2, .slice A3 l3.length c3, .slice A4 l4.length c4] t)
  refine ⟨by simp, fun k hk => ?_⟩
  have hk5 : k < 5 := hk
  rcases (by omega : k = 0 ∨ k = 1 ∨ k = 2 ∨ k = 3 ∨ k = 4) with rfl | rfl | rfl | rfl | rfl
  · exact ⟨k0.1, k0.2, A0, c0, blk_cell hh 0, (h0.below hb).more hb.size⟩
  · exact ⟨k1.1, k1.2, A1, c1, blk_cell hh 1, (h1.below hb).more hb.size⟩
  · exact ⟨k2.1, k2.2, A2, c2, blk_cell hh 2, (h2.below hb).more hb.size⟩
  · exact ⟨k3.1, k3.2, A3, c3, blk_cell hh 3, (h3.below hb).more hb.size⟩
  · exact ⟨k4.1, k4.2, A4, c4, blk_cell hh 4, (h4.below hb).more hb.size⟩
theorem yields_conv {P : Program} {ops : Array Oper} {S : World → Prop} {o : Oper} {a : Act} (hw : Region.wanted o (yielded ops a.tmps) = true) (t u : TypeId) (x : Operand) (ho : o.op = .convert t u x) (v : Value) (hx : a.eval x = v) (v' : Value)
    (hS : ∀ w, (convert t u v).run P w = .ok v' w) : YieldsIf P ops S o v' a :=
  .inl ⟨hw, fun w h => by
    unfold execOp
    simp only [ho, hx, Sem.run_bind, Sem.run_pure, Result.andThen_ok, hS w]⟩
end Go.Proofs.YtooahpfeamobcaaDoor
