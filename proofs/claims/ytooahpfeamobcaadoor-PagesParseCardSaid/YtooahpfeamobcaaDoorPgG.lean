/-
  The program's take, give, turn: what they do with a row of their own.
-/
import Derived.Test.YtooahpfeamobcaaDoorPgF
import Derived.Lib.SliceRun
namespace Go.Proofs.YtooahpfeamobcaaDoor
open Go.RowKit Go
set_option linter.unusedVariables false
set_option linter.unusedSimpArgs false
set_option maxRecDepth 100000
/-- what a page becomes, and the error's number -/
def turnP (p : Pg) (c : Int) : Pg × Int :=
  if c = -1 then (if p.k = 1 then (pz, 0) else (pz, 6))
  else if ¬ (0 ≤ c ∧ c < 8) then (pz, 1)
  else if isZ p = false then (pz, 7)
  else (⟨1, c, 0, 0, 0⟩, 0)
theorem tupp {p q : Pg} {x y : Int} (h : p = q) (h2 : x = y) : Ending.returned (.tuple #[p.val, .int .i64 x]) = .returned (.tuple #[q.val, .int .i64 y]) := by rw [h, h2]
theorem fin5 {w w' : World} {g : Nat} {t : TypeId} {a b c d e : Value} (hg : w.heap.size ≤ g) (h : w'.heap[g]? = some (.cells #[a, b, c, d, e] t (0, 0))) (hb : Below w.heap.size w w') (v0 v1 v2 v3 v4 : Value) (o : Obj) :
    ((((((w'.setCell ⟨g, 0, none⟩ v0).setCell ⟨g, 1, none⟩ v1).setCell ⟨g, 2, none⟩ v2).setCell ⟨g, 3, none⟩ v3).setCell ⟨g, 4, none⟩ v4).alloc o).heap[g]? = some (.cells #[v0, v1, v2, v3, v4] t (0, 0)) ∧
    Below w.heap.size w ((((((w'.setCell ⟨g, 0, none⟩ v0).setCell ⟨g, 1, none⟩ v1).setCell ⟨g, 2, none⟩ v2).setCell ⟨g, 3, none⟩ v3).setCell ⟨g, 4, none⟩ v4).alloc o) := by
  refine ⟨blk_alloc (blk_set (blk_set (blk_set (blk_set (blk_set h 0 v0) 1 v1) 2 v2) 3 v3) 4 v4) o, ?_⟩
  have h5 : Below w.heap.size w (((((w'.setCell ⟨g, 0, none⟩ v0).setCell ⟨g, 1, none⟩ v1).setCell ⟨g, 2, none⟩ v2).setCell ⟨g, 3, none⟩ v3).setCell ⟨g, 4, none⟩ v4) := ((((hb.setCell (p := ⟨g, 0, none⟩) hg v0).setCell (p := ⟨g, 1, none⟩) hg v1).setCell (p := ⟨g, 2, none⟩) hg v2).setCell (p := ⟨g, 3, none⟩) hg v3).setCell (p := ⟨g, 4, none⟩) hg v4
  exact h5.trans ((bel_alloc _ _).mono h5.size)
theorem fin5' {w w' : World} {g : Nat} {t : TypeId} {a b c d e : Value} (hg : w.heap.size ≤ g) (h : w'.heap[g]? = some (.cells #[a, b, c, d, e] t (0, 0))) (hb : Below w.heap.size w w') (v0 v1 v2 v3 v4 : Value) :
    (((((w'.setCell ⟨g, 0, none⟩ v0).setCell ⟨g, 1, none⟩ v1).setCell ⟨g, 2, none⟩ v2).setCell ⟨g, 3, none⟩ v3).setCell ⟨g, 4, none⟩ v4).heap[g]? = some (.cells #[v0, v1, v2, v3, v4] t (0, 0)) ∧
    Below w.heap.size w (((((w'.setCell ⟨g, 0, none⟩ v0).setCell ⟨g, 1, none⟩ v1).setCell ⟨g, 2, none⟩ v2).setCell ⟨g, 3, none⟩ v3).setCell ⟨g, 4, none⟩ v4) :=
  ⟨blk_set (blk_set (blk_set (blk_set (blk_set h 0 v0) 1 v1) 2 v2) 3 v3) 4 v4, ((((hb.setCell (p := ⟨g, 0, none⟩) hg v0).setCell (p := ⟨g, 1, none⟩) hg v1).setCell (p := ⟨g, 2, none⟩) hg v2).setCell (p := ⟨g, 3, none⟩) hg v3).setCell (p := ⟨g, 4, none⟩) hg v4⟩
end Go.Proofs.YtooahpfeamobcaaDoor
