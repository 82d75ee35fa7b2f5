/-
  What Xor, Same, Zero and Pad of package word answer, and the document's own Pad.
-/
import Derived.Test.YtflgcddgocojpaaDoorWordB
import Derived.RegionTactic
import Derived.Deep.QuietTactic
import Derived.BigQuiet
import Derived.Laws.CopyOwn
namespace Go.Proofs.YtflgcddgocojpaaDoor
open Go.RowKit
set_option linter.unusedVariables false
def RowRel (w : World) (f : Nat → Nat) (n : Nat) (k : Value) (wr : World) : Prop :=
  ∃ j : Nat, k = .int .i64 (j : Int) ∧ j ≤ n ∧ Below w.heap.size w wr ∧ wr.heap[w.heap.size]? = some (.cells (rowOf f n j) 5 (0, 0))
theorem row_start (w : World) (f : Nat → Nat) (n : Nat) : RowRel w f n (.int .i64 0) (w.alloc (.cells (zeros n) 5)) :=
  ⟨0, rfl, by omega, (Below.refl _ _).alloc (Nat.le_refl _) _, heap_alloc_new w _⟩
theorem row_step {w wr : World} {f : Nat → Nat} {n j : Nat} (hj : j < n) (hb : Below w.heap.size w wr) (h2 : wr.heap[w.heap.size]? = some (.cells (rowOf f n j) 5 (0, 0))) :
    RowRel w f n (.int .i64 ((j : Int) + 1)) ((wr.setCell ⟨w.heap.size, j, none⟩ (.int .u8 ((f j : Nat) : Int))).drew) :=
  ⟨j + 1, rfl, by omega, (hb.setCell (Nat.le_refl _) _).drew, blk_set h2 j _⟩
theorem row_end {w w' : World} {f : Nat → Nat} {n : Nat} {l : List Nat} (hn : n ≤ 1000000) (hf : ∀ i, i < n → f i < 256) (hl : (List.range n).map f = l)
    (hb : Below w.heap.size w w') (hx : w'.heap[w.heap.size]? = some (.cells (rowOf f n n) 5 (0, 0))) : Gives w l (.returned (.slice (some ⟨w.heap.size, 0, none⟩) n n)) w' := by
  have e1 : l.length = n := by rw [← hl]; simp
  subst hl
  refine ⟨_, n, by rw [e1], hb, ?_⟩
  rw [e1]
  exact BS.of_rowOf hx (blk_lt hx) (by omega) hf
/-- are all of them noughts? -/
def allZ (l : List Nat) : Bool := l.all (· == 0)
theorem allZ_yes {l : List Nat} (h : ∀ i, i < l.length → l.getD i 0 = 0) : allZ l = true := by
  unfold allZ
  rw [List.all_eq_true]
  intro x hx
  obtain ⟨i, hi, rfl⟩ := List.mem_iff_getElem.mp hx
  have := h i hi
  rw [List.getD_eq_getElem?_getD, List.getElem?_eq_getElem hi] at this
  simpa using this
theorem allZ_no {l : List Nat} {i : Nat} (hi : i < l.length) (h : ¬ l.getD i 0 = 0) : allZ l = false := by
  unfold allZ
  rw [List.all_eq_false]
  rw [List.getD_eq_getElem?_getD, List.getElem?_eq_getElem hi] at h
  exact ⟨l[i], List.getElem_mem hi, by simpa using h⟩
def ZeroRel (l : List Nat) (k : Value) : Prop := ∃ j : Nat, k = .int .i64 (j : Int) ∧ j ≤ l.length ∧ ∀ i, i < j → l.getD i 0 = 0
theorem zero_step {l : List Nat} {j : Nat} (hj : j < l.length) (h : ∀ i, i < j → l.getD i 0 = 0) (h0 : l.getD j 0 = 0) : ZeroRel l (.int .i64 ((j : Int) + 1)) :=
  ⟨j + 1, rfl, by omega, fun i hi => by
    by_cases e : i = j
    · subst e; exact h0
    · exact h i (by omega)⟩
set_option maxHeartbeats 400000 in
theorem zero_any (A : Option Addr) (n c B : Nat) (l : List Nat) (w : World) (hs : BS w B A n c l) (hn : n ≤ 1000) :
    Calls Tryd.prog 30 #[.slice A n c] w fun e w' => e = .returned (.bool (allZ l)) ∧ w = w' := by
  have hlen := hs.len
  have hc := hs.cap
  have HS := Lib.hid hs
  clear hs
  go_enter Tryd.func30, Tryd.ntmps30
  subst hlen
  go_wp2
  go_loop [7] (fun k => ZeroRel l k) (fun k => (l.length - intOf k).toNat)
  case atStart => exact ⟨0, rfl, by omega, fun i hi => by omega⟩
  case round =>
    obtain ⟨j, rfl, hj, hall⟩ := hrel
    by_cases hlt : j < l.length
    · obtain ⟨b, o, rfl, _, hcell⟩ := HS.out.at_ (by omega)
      have k1 := hcell j hlt
      have y1 := HS.out.byte j
      by_cases h0 : l.getD j 0 = 0
      · have HR := Lib.hid (zero_step hlt hall h0)
        have hb : (((l.getD j 0 : Nat) : Int) != 0) = false := by rw [h0]; rfl
        clear hcell hall h0
        generalize l.getD j 0 = x at *
        go_wp2
        go_round
        case rel => exact HR.out
        case measure => simp [intOf]; omega
      · have HR := Lib.hid (allZ_no hlt h0)
        have hb : (((l.getD j 0 : Nat) : Int) != 0) = true := by rw [bne_iff_ne]; omega
        clear hcell hall h0
        generalize l.getD j 0 = x at *
        go_wp2
        go_ret
        exact ⟨ret_bool HR.out.symm, rfl⟩
    · obtain rfl : j = l.length := by omega
      have HR := Lib.hid (allZ_yes hall)
      clear hall
      go_wp2
      go_ret
      exact ⟨ret_bool HR.out.symm, rfl⟩
/-- are the two the same? -/
def sameB (l l2 : List Nat) : Bool := (str l).toList == (str l2).toList
def padI (l : List Nat) (n : Int) : List Nat := if 1 ≤ n ∧ n ≤ 65536 then padL l n.toNat else []
theorem pad_cells {l : List Nat} {n m : Nat} (hl : l.length = m) (i : Nat) (hi : i < n) :
    (splice (zeros n).toList 0 (bvals (l.take (min m n)))).toArray[i]? = some (.int .u8 (((padL l n).getD i 0 : Nat) : Int)) := by
  rw [padL_at, if_pos hi]
  have hk : (bvals (l.take (min m n))).length = min m n := by simp [bvals]; omega
  by_cases h : i < min m n
  · simp only [splice, List.take_zero, List.nil_append, Nat.zero_add, List.getElem?_toArray]
    rw [List.getElem?_append_left (by omega)]
    simp [bvals, List.getElem?_map, List.getElem?_take_of_lt h, List.getElem?_eq_getElem (show i < l.length by omega), List.getD]
  · have e : l.getD i 0 = 0 := by
      have : l[i]? = none := by rw [List.getElem?_eq_none]; omega
      rw [List.getD_eq_getElem?_getD, this]; rfl
    rw [e]
    simp only [splice, List.take_zero, List.nil_append, Nat.zero_add, List.getElem?_toArray]
    rw [List.getElem?_append_right (by omega), hk, List.getElem?_drop, zeros, Array.toList_replicate, List.getElem?_replicate, if_pos (by omega)]
    rfl
theorem pad_end {w w' : World} {l : List Nat} {n m : Nat} (hn : n ≤ 65536) (hl : l.length = m) (h : ∀ i, l.getD i 0 < 256) (hb : Below w.heap.size w w')
    (hx : w'.heap[w.heap.size]? = some (.cells (splice (zeros n).toList 0 (bvals (l.take (min m n)))).toArray 5 (0, 0))) : Gives w (padL l n) (.returned (.slice (some ⟨w.heap.size, 0, none⟩) n n)) w' := by
  have e := padL_len l n
  refine ⟨_, n, by rw [e], hb, ?_⟩
  rw [e]
  exact BS.of_blk hx (blk_lt hx) e (Nat.le_refl _) (by omega) (padL_byte h n) fun i hi => pad_cells hl i hi
def RefPadRel (w : World) (l : List Nat) (n : Nat) (v i : Value) (wr : World) : Prop :=
  ∃ k : Nat, i = .int .i64 (k : Int) ∧ k ≤ n ∧ Own wr w.heap.size v (padL l k) ∧ Below w.heap.size w wr
set_option maxHeartbeats 400000 in
theorem refPad_yes (A : Option Addr) (m c n : Nat) (l : List Nat) (w : World) (hs : BS w w.heap.size A m c l) (hm : m ≤ 1000) (hn : n ≤ 65536) :
    Calls Tryd.prog 25 #[.slice A m c, .int .i64 (n : Int)] w (Gives w (padL l n)) := by
  have hcap := hs.cap
  have HS := Lib.hid hs
  clear hs
  go_enter Tryd.func25, Tryd.ntmps25
  go_wp2
  go_loopw [5, 6] (fun v i wr => RefPadRel w l n v i wr) (fun _ i _ => (n - intOf i).toNat)
  case atStart => exact ⟨0, rfl, by omega, Own.nil _ _, Below.refl _ _⟩
  case round =>
    obtain ⟨k, rfl, hk, hown, hb⟩ := hrel
    by_cases hlt : k < n
    · have HL := Lib.hid (padL_len l k)
      have hln : (padL l k).length ≤ 65536 := by rw [HL.out]; omega
      have hB := hb.size
      have y1 := HS.out.byte k
      have HT := Lib.hid (padL_succ l k)
      by_cases hkm : k < m
      · obtain ⟨b, o, rfl, hbB, hcell⟩ := HS.out.at_ (by omega)
        have k1 : wr.cell? ⟨b, o + k, none⟩ = some (.int .u8 ((l.getD k 0 : Nat) : Int)) := (hb.cell hbB).trans (hcell k hkm)
        clear hcell
        generalize l.getD k 0 = x at *
        go_wp2_with (at_builtin; refine wp_app _ rfl _ _ rfl _ _ _ _ x rfl hown rfl (by omega) (by omega) hB ?_; intro v' w1 hown1 hb1)
        go_roundw
        case rel => exact ⟨k + 1, rfl, by omega, by rw [HT.out]; exact hown1, hb.trans hb1⟩
        case measure => simp [intOf]; omega
      · have h0 : l.getD k 0 = 0 := by
          have : l[k]? = none := by rw [List.getElem?_eq_none]; have := HS.out.len; omega
          rw [List.getD_eq_getElem?_getD, this]; rfl
        rw [h0] at HT
        clear h0 y1
        go_wp2_with (at_builtin; refine wp_app _ rfl _ _ rfl _ _ _ _ 0 rfl hown rfl (by omega) (by omega) hB ?_; intro v' w1 hown1 hb1)
        go_roundw
        case rel => exact ⟨k + 1, rfl, by omega, by rw [HT.out]; exact hown1, hb.trans hb1⟩
        case measure => simp [intOf]; omega
    · obtain rfl : k = n := by omega
      have HG : Gives w (padL l k) (.returned u5) wr := by
        obtain ⟨A, c, rfl, hbs⟩ := hown.bs (padL_byte HS.out.byte k)
        exact ⟨A, c, rfl, hb, hbs⟩
      have H := Lib.hid HG
      clear HG hown
      go_wp2
      go_ret
      exact H.out
set_option maxHeartbeats 400000 in
theorem refPad_no (v : Value) (n : Int) (h : n < 1 ∨ 65536 < n) (w : World) :
    Calls Tryd.prog 25 #[v, .int .i64 n] w (Gives w []) := by
  have HG : Gives w [] (.returned (.slice none 0 0)) w := ⟨none, 0, rfl, Below.refl _ _, BS.nil _ _⟩
  have H := Lib.hid HG
  clear HG
  rcases h with h | h
  · go_enter Tryd.func25, Tryd.ntmps25
    go_wp2
    go_loop [5, 6] (fun b i => b = .slice none 0 0 ∧ i = .int .i64 0) (fun _ _ => 0)
    case atStart => exact ⟨rfl, rfl⟩
    case round =>
      obtain ⟨rfl, rfl⟩ := hrel
      go_wp2
      go_ret
      exact H.out
  · go_enter Tryd.func25, Tryd.ntmps25
    go_wp2
    go_ret
    exact H.out
theorem refPad_any (A : Option Addr) (m c : Nat) (n : Int) (l : List Nat) (w : World) (hs : BS w w.heap.size A m c l) (hm : m ≤ 1000) :
    Calls Tryd.prog 25 #[.slice A m c, .int .i64 n] w (Gives w (padI l n)) := by
  by_cases h : 1 ≤ n ∧ n ≤ 65536
  · obtain ⟨k, rfl⟩ : ∃ k : Nat, n = (k : Int) := ⟨n.toNat, by omega⟩
    have e : padI l (k : Int) = padL l k := by unfold padI; rw [if_pos h]; rfl
    rw [e]
    exact refPad_yes A m c k l w hs hm (by omega)
  · have e : padI l n = [] := by unfold padI; rw [if_neg h]
    rw [e]
    exact refPad_no _ n (by omega) w
end Go.Proofs.YtflgcddgocojpaaDoor
