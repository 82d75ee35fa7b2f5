/-
  What Put and High of package word answer.
-/
import Derived.Test.YtcaogiaoabdkdaaDoorRows
import Derived.Test.YtcaogiaoabdkdaaDoorZSl
import Derived.Test.YtcaogiaoabdkdaaDoorZWordMath
import Derived.WalkKit
import Derived.WalkSpells
import Derived.WalkLawsBesides
import Derived.Lib.Hide
namespace Go.Proofs.YtcaogiaoabdkdaaDoor
open Go.RowKit
set_option linter.unusedVariables false
theorem info_u8 : (Tryd.prog.info? 5).map (fun i => (i.zero, i.size, i.bytes)) = some (some (.int .u8 0), 1, 1) := by kernel_rfl
theorem make_bytes (n : Nat) (hn : n ≤ 281474976710656) : ∀ w : World, (Instr.makeSlice 24 (.int .i64 (n : Int)) (.int .i64 (n : Int))).run Tryd.prog w = .ok (.slice (some ⟨w.heap.size, 0, none⟩) n n) (w.alloc (.cells (zeros n) 5)) :=
  run_make_bytes 24 5 Tryd.underlying24 info_u8 n hn
theorem shr_byte (v j : Nat) : (v : Int) / 2 ^ (8 * j) % 256 = ((v / 256 ^ j % 256 : Nat) : Int) := by
  have h1 : ((v / 256 ^ j : Nat) : Int) = (v : Int) / 2 ^ (8 * j) := by rw [pow256, Int.natCast_ediv]; simp
  rw [← h1]; omega
def SpellRel (w : World) (g : Nat) (t : TypeId) (S : Nat → Int) (f : Nat → Nat) (n : Nat) (k : Value) (wr : World) : Prop :=
  ∃ j : Nat, k = .int .i64 (j : Int) ∧ j ≤ n ∧ w.grownBy wr (some g) ∧ wr.heap[g]? = some (.cells #[.int .i64 (S j)] t (0, 0)) ∧ wr.heap[w.heap.size]? = some (.cells (rowOf f n j) 5 (0, 0))
theorem spell_start {w : World} {g : Nat} {t : TypeId} {S : Nat → Int} (f : Nat → Nat) (n : Nat) (hg : w.heap[g]? = some (.cells #[.int .i64 (S 0)] t (0, 0))) :
    SpellRel w g t S f n (.int .i64 0) (w.alloc (.cells (zeros n) 5)) :=
  ⟨0, rfl, by omega, World.grownBy_alloc w _ _, blk_alloc hg _, heap_alloc_new w _⟩
theorem spell_step {w wr : World} {g : Nat} {t : TypeId} {S : Nat → Int} {f : Nat → Nat} {n j : Nat} (hj : j < n) (hgw : g < w.heap.size) (hb : w.grownBy wr (some g))
    (h1 : wr.heap[g]? = some (.cells #[.int .i64 (S j)] t (0, 0))) (h2 : wr.heap[w.heap.size]? = some (.cells (rowOf f n j) 5 (0, 0))) :
    SpellRel w g t S f n (.int .i64 ((j : Int) + 1)) ((wr.setCell ⟨g, 0, none⟩ (.int .i64 (S (j + 1)))).setCell ⟨w.heap.size, j, none⟩ (.int .u8 ((f j : Nat) : Int))) := by
  refine ⟨j + 1, rfl, by omega, only_set (only_set hb (.inl rfl) _) (.inr (Nat.le_refl _)) _, ?_, ?_⟩
  · have := blk_set h1 0 (.int .i64 (S (j + 1)))
    exact blk_far (p := ⟨w.heap.size, j, none⟩) (by simpa using this) (by show g ≠ w.heap.size; omega) _
  · exact blk_set (blk_far h2 (p := ⟨g, 0, none⟩) (by show w.heap.size ≠ g; omega) _) j _
/-- the call gives a slice of its own that reads as l, and what was there stands as it was -/
def Gives (w : World) (l : List Nat) (e : Ending) (w' : World) : Prop :=
  ∃ A c, e = .returned (.slice A l.length c) ∧ Below w.heap.size w w' ∧ BS w' w'.heap.size A l.length c l
theorem Gives.to {w w' : World} {e : Ending} {l l' : List Nat} (h : Gives w l e w') (hl : l = l') : Gives w l' e w' := hl ▸ h
theorem high_eq (n v : Nat) : (List.range n).map (fun k => v / 256 ^ (n - 1 - k) % 256) = (putL n v).reverse := by
  apply List.ext_getElem?
  intro i
  by_cases h : i < n
  · rw [List.getElem?_reverse (by rw [putL_len]; exact h), putL_len]
    unfold putL
    rw [List.getElem?_map, List.getElem?_map, List.getElem?_range h, List.getElem?_range (by omega)]
    rfl
  · rw [List.getElem?_eq_none (by simp; omega), List.getElem?_eq_none (by rw [List.length_reverse, putL_len]; omega)]
def putI (n : Int) (v : Nat) : List Nat := if 1 ≤ n ∧ n ≤ 8 then putL n.toNat v else []
theorem putI_byte (n : Int) (v i : Nat) : (putI n v).getD i 0 < 256 := by
  unfold putI; split
  · exact putL_byte _ _ _
  · simp
theorem put_close {w w' : World} {f : Nat → Nat} {n : Nat} {o : Obj} {l : List Nat} (hn : n ≤ 8) (hf : ∀ i, i < n → f i < 256) (hl : (List.range n).map f = l)
    (hb : (w.alloc o).grownBy w' (some w.heap.size)) (hx : w'.heap[(w.alloc o).heap.size]? = some (.cells (rowOf f n n) 5 (0, 0))) :
    Gives w l (.returned (.slice (some ⟨w.heap.size + 1, 0, none⟩) n n)) w' := by
  have e0 : (w.alloc o).heap.size = w.heap.size + 1 := by simp
  rw [e0] at hx
  have e1 : l.length = n := by rw [← hl]; simp
  subst hl
  refine ⟨_, n, by rw [e1], below_only ((Below.refl _ _).alloc (Nat.le_refl _) o) (Nat.le_refl _) (by simp) hb, ?_⟩
  rw [e1]
  exact BS.of_rowOf hx (blk_lt hx) (by omega) hf
theorem no_close {w : World} (o : Obj) : Gives w [] (.returned (.slice none 0 0)) (w.alloc o) :=
  ⟨none, 0, rfl, (Below.refl _ _).alloc (Nat.le_refl _) o, BS.nil _ _⟩
end Go.Proofs.YtcaogiaoabdkdaaDoor
