/-
  A block that is known cell by cell, whatever was stored into it. No program is named here.
-/
import Derived.Test.YtcaogiaoabdkdaaDoorZVal
import Derived.Deep.MidRow
import Derived.Deep.AppendLies
import Derived.OwnWalk
namespace Go.Proofs.YtcaogiaoabdkdaaDoor
open Go.RowKit Go
set_option linter.unusedVariables false
/-- the first n cells of block g are F 0, F 1, .. and may be written -/
structure Cells (W : World) (g n : Nat) (F : Nat → Value) : Prop where
  lt : g < W.heap.size
  cell : ∀ i, i < n → W.cell? ⟨g, i, none⟩ = some (F i)
  free : ∀ i, i < n → W.frozen? ⟨g, i, none⟩ = false
theorem size_setCells (b : Nat) : ∀ (vs : List Value) (o : Nat) (w : World), (w.setCells b o vs).heap.size = w.heap.size
  | [], _, _ => rfl
  | v :: r, o, w => by rw [World.setCells, size_setCells b r]; simp [World.setCell]
theorem below_setCells (b : Nat) : ∀ (vs : List Value) (o : Nat) {B : Nat} {a w : World}, Below B a w → B ≤ b → Below B a (w.setCells b o vs)
  | [], _, _, _, _, h, _ => h
  | v :: r, o, _, _, _, h, hb => below_setCells b r (o + 1) (h.setCell (p := ⟨b, o, none⟩) hb v) hb
theorem heap_setCells (b : Nat) : ∀ (vs : List Value) (o : Nat) (w : World) (k : Nat), k ≠ b → (w.setCells b o vs).heap[k]? = w.heap[k]?
  | [], _, _, _, _ => rfl
  | v :: r, o, w, k, h => by rw [World.setCells, heap_setCells b r _ _ k h]; exact Below.heap_setCell _ _ _ _ h
section
variable {W W' : World} {g n : Nat} {F G : Nat → Value}
theorem Cells.of_blk {t : TypeId} {cs : Array Value} (h : W.heap[g]? = some (.cells cs t (0, 0))) (hc : ∀ i, i < n → cs[i]? = some (F i)) : Cells W g n F :=
  ⟨blk_lt h, fun i hi => (blk_cell h i).trans (hc i hi), fun i _ => blk_free h i⟩
theorem Cells.congr (h : Cells W g n F) (e : ∀ i, i < n → F i = G i) : Cells W g n G := ⟨h.lt, fun i hi => (h.cell i hi).trans (by rw [e i hi]), h.free⟩
theorem Cells.same (h : Cells W g n F) (hs : W.heap.size ≤ W'.heap.size) (e : W'.heap[g]? = W.heap[g]?) : Cells W' g n F :=
  ⟨Nat.lt_of_lt_of_le h.lt hs, fun i hi => (World.cell?_of_block e).trans (h.cell i hi), fun i hi => (World.frozen?_of_block e).trans (h.free i hi)⟩
theorem Cells.below {B : Nat} (h : Cells W g n F) (hb : Below B W W') (hg : g < B) : Cells W' g n F := h.same hb.size (hb.block g hg)
theorem Cells.after (h : Cells W g n F) (hb : Below W.heap.size W W') : Cells W' g n F := h.below hb h.lt
theorem Cells.alloc (h : Cells W g n F) (o : Obj) : Cells (W.alloc o) g n F := h.same (by simp) (Below.heap_alloc _ _ _ h.lt)
theorem Cells.drew (h : Cells W g n F) : Cells W.drew g n F := ⟨h.lt, h.cell, h.free⟩
theorem Cells.drewN (h : Cells W g n F) (k : Nat) : Cells (W.drewN k) g n F := ⟨h.lt, h.cell, h.free⟩
theorem Cells.only {row : Option Nat} (h : Cells W g n F) (hb : W.grownBy W' row) (hg : some g ≠ row) : Cells W' g n F := h.same hb.size (hb.block g h.lt hg)
theorem Cells.far (h : Cells W g n F) {p : Addr} (hp : g ≠ p.block) (u : Value) : Cells (W.setCell p u) g n F := h.same (by simp [World.setCell]) (Below.heap_setCell _ _ _ _ hp)
theorem Cells.set_ (h : Cells W g n F) {k : Nat} (hk : k < n) (v : Value) : Cells (W.setCell ⟨g, k, none⟩ v) g n (fun i => if i = k then v else F i) := by
  refine ⟨by rw [size_set]; exact h.lt, fun i hi => ?_, fun i hi => by rw [World.frozen?_setCell]; exact h.free i hi⟩
  by_cases e : i = k
  · subst e; rw [if_pos rfl]; exact World.cell?_setCell_same _ _ _ (h.cell i hi)
  · rw [if_neg e, World.cell?_setCell_other _ _ _ _ (by intro q; injection q with _ q; exact e q.symm)]; exact h.cell i hi
theorem Cells.sets (h : Cells W g n F) {o : Nat} {vs : List Value} (hk : o + vs.length ≤ n) : Cells (W.setCells g o vs) g n (fun i => if o ≤ i ∧ i < o + vs.length then vs.getD (i - o) undef else F i) := by
  refine ⟨by rw [size_setCells]; exact h.lt, fun i hi => ?_, fun i hi => by rw [World.frozen?_setCells]; exact h.free i hi⟩
  by_cases e : o ≤ i ∧ i < o + vs.length
  · rw [if_pos e]
    obtain ⟨j, rfl⟩ : ∃ j, i = o + j := ⟨i - o, by omega⟩
    rw [World.cell?_setCells_in g vs o W (fun q hq => by rw [h.cell _ (by omega)]; rfl) j (by omega), Nat.add_sub_cancel_left, List.getD_eq_getElem?_getD, List.getElem?_eq_getElem (by omega)]; rfl
  · rw [if_neg e, World.cell?_setCells_out g vs o W ⟨g, i, none⟩ (fun _ _ => by show i < o ∨ _ ≤ i; omega)]; exact h.cell i hi
theorem Cells.there (h : Cells W g n F) {o k : Nat} (hk : o + k ≤ n) : W.there g o k := fun j hj => ⟨by rw [h.cell _ (by omega)]; rfl, h.free _ (by omega)⟩
theorem Cells.range (h : Cells W g n F) {o : Nat} {cs : List Value} (hc : ∀ j v, cs[j]? = some v → o + j < n ∧ v = F (o + j)) : W.rangeAt g o cs := fun j v hv => by
  obtain ⟨h1, rfl⟩ := hc j v hv
  exact h.cell _ h1
end
/-- a row that the call owns: where it lies, and its cells -/
theorem own_at {w : World} {base : Nat} {e : TypeId} {size n : Nat} {v : Value} {xs : List Value} (h : w.ownsRow base e size v n xs) (hn : 0 < n) :
    ∃ g cap, v = .slice (some ⟨g, 0, none⟩) n cap ∧ base ≤ g ∧ g < w.heap.size ∧ n ≤ cap ∧ cap ≤ 9223372036854775807 ∧ ∀ j u, xs[j]? = some u → w.cell? ⟨g, j, none⟩ = some u := by
  have hc := fun g (hg : v.ownBlock = some g) => h.cells hg
  obtain ⟨h1, h2⟩ := h
  rcases h2 with ⟨_, h0⟩ | ⟨g, cap, cur, hv, hb, hg, hnc, hm, _⟩
  · omega
  · refine ⟨g, cap, hv, hb, blk_lt hg, hnc, by unfold maxLen at hm; omega, fun j u hj => ?_⟩
    have := hc g (by rw [hv]; rfl) j u hj
    rwa [Addr.add_mid, Nat.zero_add] at this
end Go.Proofs.YtcaogiaoabdkdaaDoor
