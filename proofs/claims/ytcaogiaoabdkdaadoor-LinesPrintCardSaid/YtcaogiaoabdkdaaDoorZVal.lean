/-
  Rows of values: blocks that are known cell by cell. No program is named here.
-/
import Derived.Test.YtcaogiaoabdkdaaDoorZSl
import Derived.ChangeKeysEq
namespace Go.Proofs.YtcaogiaoabdkdaaDoor
open Go.RowKit Go
set_option linter.unusedVariables false
/-- the cells f 0, f 1, .., n of them -/
def rowV (f : Nat → Value) (n : Nat) : Array Value := ((List.range n).map f).toArray
theorem rowV_size (f : Nat → Value) (n : Nat) : (rowV f n).size = n := by simp [rowV]
theorem rowV_at (f : Nat → Value) {n i : Nat} (h : i < n) : (rowV f n)[i]? = some (f i) := by
  simp [rowV, List.getElem?_map, List.getElem?_range h]
theorem rowV_none (f : Nat → Value) {n i : Nat} (h : n ≤ i) : (rowV f n)[i]? = none := by
  rw [Array.getElem?_eq_none]; rw [rowV_size]; exact h
theorem rowV_congr {f g : Nat → Value} {n : Nat} (h : ∀ i, i < n → f i = g i) : rowV f n = rowV g n := by
  unfold rowV
  rw [List.map_congr_left fun i hi => h i (List.mem_range.mp hi)]
theorem rowV_set (f : Nat → Value) (n k : Nat) (v : Value) : (rowV f n).setIfInBounds k v = rowV (fun i => if i = k then v else f i) n := by
  apply Array.ext_getElem?
  intro i
  by_cases hi : i < n
  · rw [rowV_at _ hi, Array.getElem?_setIfInBounds]
    by_cases e : k = i
    · subst e; simp [rowV_size, hi]
    · rw [if_neg e, rowV_at _ hi, if_neg (fun h => e h.symm)]
  · rw [rowV_none _ (by omega), Array.getElem?_setIfInBounds]
    by_cases e : k = i
    · subst e; simp [rowV_size, hi]
    · rw [if_neg e, rowV_none _ (by omega)]
theorem rowV_ext {cs : Array Value} {f : Nat → Value} {n : Nat} (hn : cs.size = n) (h : ∀ i, i < n → cs[i]? = some (f i)) : cs = rowV f n := by
  apply Array.ext_getElem?
  intro i
  by_cases hi : i < n
  · rw [h i hi, rowV_at _ hi]
  · rw [rowV_none _ (by omega), Array.getElem?_eq_none (by omega)]
/-- block g is the row of f -/
def Row (w : World) (g : Nat) (t : TypeId) (f : Nat → Value) (n : Nat) : Prop := w.heap[g]? = some (.cells (rowV f n) t (0, 0))
section
variable {w w' : World} {g n : Nat} {t : TypeId} {f : Nat → Value}
theorem Row.lt (h : Row w g t f n) : g < w.heap.size := blk_lt h
theorem Row.cell (h : Row w g t f n) {i : Nat} (hi : i < n) : w.cell? ⟨g, i, none⟩ = some (f i) := (blk_cell h i).trans (rowV_at f hi)
theorem Row.free (h : Row w g t f n) (i : Nat) : w.frozen? ⟨g, i, none⟩ = false := blk_free h i
theorem Row.set_ (h : Row w g t f n) (k : Nat) (v : Value) : Row (w.setCell ⟨g, k, none⟩ v) g t (fun i => if i = k then v else f i) n := by
  have := blk_set h k v
  rwa [rowV_set] at this
theorem Row.far (h : Row w g t f n) {p : Addr} (hp : g ≠ p.block) (u : Value) : Row (w.setCell p u) g t f n := blk_far h hp u
theorem Row.alloc (h : Row w g t f n) (o : Obj) : Row (w.alloc o) g t f n := blk_alloc h o
theorem Row.below {B : Nat} (h : Row w g t f n) (hb : Below B w w') (hg : g < B) : Row w' g t f n := (hb.block g hg).trans h
theorem Row.drew (h : Row w g t f n) : Row w.drew g t f n := h
theorem Row.drewN (h : Row w g t f n) (k : Nat) : Row (w.drewN k) g t f n := h
theorem Row.only {row : Option Nat} (h : Row w g t f n) (hb : w.grownBy w' row) (hg : some g ≠ row) : Row w' g t f n := (hb.block g h.lt hg).trans h
theorem Row.congr (h : Row w g t f n) {f' : Nat → Value} (e : ∀ i, i < n → f i = f' i) : Row w g t f' n := by
  unfold Row at h ⊢; rw [← rowV_congr e]; exact h
theorem Row.new (w : World) (t : TypeId) (f : Nat → Value) (n : Nat) : Row (w.alloc (.cells (rowV f n) t)) w.heap.size t f n := heap_alloc_new w _
end
def u32 (n : Nat) : Value := .int .u32 (n : Int)
def u8 (n : Nat) : Value := .int .u8 (n : Int)
theorem run_index_arr {P : Program} (t e : TypeId) (n : Nat) (cs : Array Value) (m : Nat) (v : Value) (w : World) (h : P.underlying t = some (.array n e)) (he : P.plainKey e = true) (hs : P.cellsOf e = 1) (hi : (P.info? e).isSome = true) (hm : m < n) (hc : cs[m]? = some v) :
    (Instr.index t (.agg cs) (.int .i64 (m : Int))).run P w = .ok v w := by
  have hp := Go.run_part_plain (P := P) w he hc
  obtain ⟨i, hi'⟩ := Option.isSome_iff_exists.mp hi
  have hz : i.size = 1 := by unfold Program.cellsOf at hs; rw [hi'] at hs; simpa using hs
  have hn : 0 ≤ (m : Int) ∧ (m : Int) < (n : Int) := by omega
  simp [Instr.index, run_underlying h, asIntOf, go_sem, sizeOf, typeInfo, hi', hz]
  rw [if_pos hm]
  simpa [part, go_sem, sizeOf, typeInfo, hi', hz] using hp
end Go.Proofs.YtcaogiaoabdkdaaDoor
