/-
  What Xor, Same, Zero and Pad of package word answer, and the document's own Pad.
-/
import Derived.Test.YtcaogiaoabdkdaaDoorZWordB
import Derived.RegionTactic
import Derived.Deep.QuietTactic
import Derived.BigQuiet
import Derived.Laws.CopyOwn
namespace Go.Proofs.YtcaogiaoabdkdaaDoor
open Go.RowKit
set_option linter.unusedVariables false
def RowRel (w : World) (f : Nat → Nat) (n : Nat) (k : Value) (wr : World) : Prop :=
  ∃ j : Nat, k = .int .i64 (j : Int) ∧ j ≤ n ∧ Below w.heap.size w wr ∧ wr.heap[w.heap.size]? = some (.cells (rowOf f n j) 5 (0, 0))
theorem row_start (w : World) (f : Nat → Nat) (n : Nat) : RowRel w f n (.int .i64 0) (w.alloc (.cells (zeros n) 5)) :=
  ⟨0, rfl, by omega, (Below.refl _ _).alloc (Nat.le_refl _) _, heap_alloc_new w _⟩
theorem row_step {w wr : World} {f : Nat → Nat} {n j : Nat} (hj : j < n) (hb : Below w.heap.size w wr) (h2 : wr.heap[w.heap.size]? = some (.cells (rowOf f n j) 5 (0, 0))) :
    RowRel w f n (.int .i64 ((j : Int) + 1)) ((wr.setCell ⟨w.heap.size, j, none⟩ (.int .u8 ((f j : Nat) : Int))).drew) :=
  ⟨j + 1, rfl, by omega, (hb.setCell (Nat.le_refl _) _).drew, blk_set h2 j _⟩
theorem row_end {w w' : World} {f : Nat → Nat} {n : Nat} {l : List Nat} (hn : n ≤ 1000000) (hf : ∀ i, i < n → f i < 256) (hl : (List.range n).map f = l)
    (hb : Below w.heap.size w w') (hx : w'.heap[w.heap.size]? = some (.cells (rowOf f n n) 5 (0, 0))) : Gives w l (.returned (.slice (some ⟨w.heap.size, 0, none⟩) n n)) w' := by
  have e1 : l.length = n := by rw [← hl]; simp
  subst hl
  refine ⟨_, n, by rw [e1], hb, ?_⟩
  rw [e1]
  exact BS.of_rowOf hx (blk_lt hx) (by omega) hf
/-- are all of them noughts? -/
def allZ (l : List Nat) : Bool := l.all (· == 0)
theorem allZ_yes {l : List Nat} (h : ∀ i, i < l.length → l.getD i 0 = 0) : allZ l = true := by
  unfold allZ
  rw [List.all_eq_true]
  intro x hx
  obtain ⟨i, hi, rfl⟩ := List.mem_iff_getElem.mp hx
  have := h i hi
  rw [List.getD_eq_getElem?_getD, List.getElem?_eq_getElem hi] at this
  simpa using this
theorem allZ_no {l : List Nat} {i : Nat} (hi : i < l.length) (h : ¬ l.getD i 0 = 0) : allZ l = false := by
  unfold allZ
  rw [List.all_eq_false]
  rw [List.getD_eq_getElem?_getD, List.getElem?_eq_getElem hi] at h
  exact ⟨l[i], List.getElem_mem hi, by simpa using h⟩
def ZeroRel (l : List Nat) (k : Value) : Prop := ∃ j : Nat, k = .int .i64 (j : Int) ∧ j ≤ l.length ∧ ∀ i, i < j → l.getD i 0 = 0
theorem zero_step {l : List Nat} {j : Nat} (hj : j < l.length) (h : ∀ i, i < j → l.getD i 0 = 0) (h0 : l.getD j 0 = 0) : ZeroRel l (.int .i64 ((j : Int) + 1)) :=
  ⟨j + 1, rfl, by omega, fun i hi => by
    by_cases e : i = j
    · subst e; exact h0
    · exact h i (by omega)⟩
/-- are the two the same? -/
def sameB (l l2 : List Nat) : Bool := (str l).toList == (str l2).toList
set_option maxHeartbeats 400000 in
theorem equal_any (A A2 : Option Addr) (n c n2 c2 B : Nat) (l l2 : List Nat) (w : World) (hs : BS w B A n c l) (hs2 : BS w B A2 n2 c2 l2) :
    Calls Tryd.prog 75 #[.slice A n c, .slice A2 n2 c2] w fun e w' => e = .returned (.bool (sameB l l2)) ∧ w = w' := by
  have h1 := conv_at hs
  have h2 := conv_at hs2
  clear hs hs2
  go_enter Tryd.func75, Tryd.ntmps75
  go_wp2
  go_ret
  exact ⟨rfl, rfl⟩
set_option maxHeartbeats 400000 in
theorem same_any (A A2 : Option Addr) (n c n2 c2 B : Nat) (l l2 : List Nat) (w : World) (hs : BS w B A n c l) (hs2 : BS w B A2 n2 c2 l2) :
    Calls Tryd.prog 52 #[.slice A n c, .slice A2 n2 c2] w fun e w' => e = .returned (.bool (sameB l l2)) ∧ w = w' := by
  go_enter Tryd.func52, Tryd.ntmps52
  go_wp2_with fail
  refine (equal_any A A2 n c n2 c2 B l l2 _ hs hs2).mono ?_
  rintro e w' ⟨rfl, rfl⟩
  clear hs hs2
  go_wp2
  go_ret
  exact ⟨rfl, rfl⟩

def padI (l : List Nat) (n : Int) : List Nat := if 1 ≤ n ∧ n ≤ 65536 then padL l n.toNat else []
theorem pad_cells {l : List Nat} {n m : Nat} (hl : l.length = m) (i : Nat) (hi : i < n) :
    (splice (zeros n).toList 0 (bvals (l.take (min m n)))).toArray[i]? = some (.int .u8 (((padL l n).getD i 0 : Nat) : Int)) := by
  rw [padL_at, if_pos hi]
  have hk : (bvals (l.take (min m n))).length = min m n := by simp [bvals]; omega
  by_cases h : i < min m n
  · simp only [splice, List.take_zero, List.nil_append, Nat.zero_add, List.getElem?_toArray]
    rw [List.getElem?_append_left (by omega)]
    simp [bvals, List.getElem?_map, List.getElem?_take_of_lt h, List.getElem?_eq_getElem (show i < l.length by omega), List.getD]
  · have e : l.getD i 0 = 0 := by
      have : l[i]? = none := by rw [List.getElem?_eq_none]; omega
      rw [List.getD_eq_getElem?_getD, this]; rfl
    rw [e]
    simp only [splice, List.take_zero, List.nil_append, Nat.zero_add, List.getElem?_toArray]
    rw [List.getElem?_append_right (by omega), hk, List.getElem?_drop, zeros, Array.toList_replicate, List.getElem?_replicate, if_pos (by omega)]
    rfl
theorem pad_end {w w' : World} {l : List Nat} {n m : Nat} (hn : n ≤ 65536) (hl : l.length = m) (h : ∀ i, l.getD i 0 < 256) (hb : Below w.heap.size w w')
    (hx : w'.heap[w.heap.size]? = some (.cells (splice (zeros n).toList 0 (bvals (l.take (min m n)))).toArray 5 (0, 0))) : Gives w (padL l n) (.returned (.slice (some ⟨w.heap.size, 0, none⟩) n n)) w' := by
  have e := padL_len l n
  refine ⟨_, n, by rw [e], hb, ?_⟩
  rw [e]
  exact BS.of_blk hx (blk_lt hx) e (Nat.le_refl _) (by omega) (padL_byte h n) fun i hi => pad_cells hl i hi
def RefPadRel (w : World) (l : List Nat) (n : Nat) (v i : Value) (wr : World) : Prop :=
  ∃ k : Nat, i = .int .i64 (k : Int) ∧ k ≤ n ∧ Own wr w.heap.size v (padL l k) ∧ Below w.heap.size w wr
end Go.Proofs.YtcaogiaoabdkdaaDoor
