/-
  What Xor, Same, Zero and Pad of package word answer, and the document's own Pad.
-/
import Derived.Test.YtnalebocfbbpdaaWordB
import Derived.RegionTactic
import Derived.Deep.QuietTactic
import Derived.BigQuiet
import Derived.Laws.CopyOwn
namespace Go.Proofs.Ytnalebocfbbpdaa
open Go.RowKit
set_option linter.unusedVariables false
def RowRel (w : World) (f : Nat → Nat) (n : Nat) (k : Value) (wr : World) : Prop :=
  ∃ j : Nat, k = .int .i64 (j : Int) ∧ j ≤ n ∧ Below w.heap.size w wr ∧ wr.heap[w.heap.size]? = some (.cells (rowOf f n j) 5 (0, 0))
theorem row_start (w : World) (f : Nat → Nat) (n : Nat) : RowRel w f n (.int .i64 0) (w.alloc (.cells (zeros n) 5)) :=
  ⟨0, rfl, by omega, (Below.refl _ _).alloc (Nat.le_refl _) _, heap_alloc_new w _⟩
theorem row_step {w wr : World} {f : Nat → Nat} {n j : Nat} (hj : j < n) (hb : Below w.heap.size w wr) (h2 : wr.heap[w.heap.size]? = some (.cells (rowOf f n j) 5 (0, 0))) :
    RowRel w f n (.int .i64 ((j : Int) + 1)) ((wr.setCell ⟨w.heap.size, j, none⟩ (.int .u8 ((f j : Nat) : Int))).drew) :=
  ⟨j + 1, rfl, by omega, (hb.setCell (Nat.le_refl _) _).drew, blk_set h2 j _⟩
theorem row_end {w w' : World} {f : Nat → Nat} {n : Nat} {l : List Nat} (hn : n ≤ 1000000) (hf : ∀ i, i < n → f i < 256) (hl : (List.range n).map f = l)
    (hb : Below w.heap.size w w') (hx : w'.heap[w.heap.size]? = some (.cells (rowOf f n n) 5 (0, 0))) : Gives w l (.returned (.slice (some ⟨w.heap.size, 0, none⟩) n n)) w' := by
  have e1 : l.length = n := by rw [← hl]; simp
  subst hl
  refine ⟨_, n, by rw [e1], hb, ?_⟩
  rw [e1]
  exact BS.of_rowOf hx (blk_lt hx) (by omega) hf
/-- are all of them noughts? -/
def allZ (l : List Nat) : Bool := l.all (· == 0)
theorem allZ_yes {l : List Nat} (h : ∀ i, i < l.length → l.getD i 0 = 0) : allZ l = true := by
  unfold allZ
  rw [List.all_eq_true]
  intro x hx
  obtain ⟨i, hi, rfl⟩ := List.mem_iff_getElem.mp hx
  have := h i hi
  rw [List.getD_eq_getElem?_getD, List.getElem?_eq_getElem hi] at this
  simpa using this
theorem allZ_no {l : List Nat} {i : Nat} (hi : i < l.length) (h : ¬ l.getD i 0 = 0) : allZ l = false := by
  unfold allZ
  rw [List.all_eq_false]
  rw [List.getD_eq_getElem?_getD, List.getElem?_eq_getElem hi] at h
  exact ⟨l[i], List.getElem_mem hi, by simpa using h⟩
def ZeroRel (l : List Nat) (k : Value) : Prop := ∃ j : Nat, k = .int .i64 (j : Int) ∧ j ≤ l.length ∧ ∀ i, i < j → l.getD i 0 = 0
theorem zero_step {l : List Nat} {j : Nat} (hj : j < l.length) (h : ∀ i, i < j → l.getD i 0 = 0) (h0 : l.getD j 0 = 0) : ZeroRel l (.int .i64 ((j : Int) + 1)) :=
  ⟨j + 1, rfl, by omega, fun i hi => by
    by_cases e : i = j
    · subst e; exact h0
    · exact h i (by omega)⟩
/-- are the two the same? -/
def sameB (l l2 : List Nat) : Bool := (str l).toList == (str l2).toList
set_option maxHeartbeats 400000 in
theorem equal_any (A A2 : Option Addr) (n c n2 c2 B : Nat) (l l2 : List Nat) (w : World) (hs : BS w B A n c l) (hs2 : BS w B A2 n2 c2 l2) :
    Calls Try.prog 44 #[.slice A n c, .slice A2 n2 c2] w fun e w' => e = .returned (.bool (sameB l l2)) ∧ w = w' := by
  have h1 := conv_at hs
  have h2 := conv_at hs2
  clear hs hs2
  go_enter Try.func44, Try.ntmps44
  go_wp2
  go_ret
  exact ⟨rfl, rfl⟩
set_option maxHeartbeats 400000 in
theorem same_any (A A2 : Option Addr) (n c n2 c2 B : Nat) (l l2 : List Nat) (w : World) (hs : BS w B A n c l) (hs2 : BS w B A2 n2 c2 l2) :
    Calls Try.prog 31 #[.slice A n c, .slice A2 n2 c2] w fun e w' => e = .returned (.bool (sameB l l2)) ∧ w = w' := by
  go_enter Try.func31, Try.ntmps31
  go_wp2_with fail
  refine (equal_any A A2 n c n2 c2 B l l2 _ hs hs2).mono ?_
  rintro e w' ⟨rfl, rfl⟩
  clear hs hs2
  go_wp2
  go_ret
  exact ⟨rfl, rfl⟩

def padI (l : List Nat) (n : Int) : List Nat := if 1 ≤ n ∧ n ≤ 65536 then padL l n.toNat else []
theorem pad_cells {l : List Nat} {n m : Nat} (hl : l.length = m) (i : Nat) (hi : i < n) :
    (splice (zeros n).toList 0 (bvals (l.take (min m n)))).toArray[i]? = some (.int .u8 (((padL l n).getD i 0 : Nat) : Int)) := by
  rw [padL_at, if_pos hi]
  have hk : (bvals (l.take (min m n))).length = min m n := by simp [bvals]; omega
  by_cases h : i < min m n
  · simp only [splice, List.take_zero, List.nil_append, Nat.zero_add, List.getElem?_toArray]
    rw [List.getElem?_append_left (by omega)]
    simp [bvals, List.getElem?_map, List.getElem?_take_of_lt h, List.getElem?_eq_getElem (show i < l.length by omega), List.getD]
  · have e : l.getD i 0 = 0 := by
      have : l[i]? = none := by rw [List.getElem?_eq_none]; omega
      rw [List.getD_eq_getElem?_getD, this]; rfl
    rw [e]
    simp only [splice, List.take_zero, List.nil_append, Nat.zero_add, List.getElem?_toArray]
    rw [List.getElem?_append_right (by omega), hk, List.getElem?_drop, zeros, Array.toList_replicate, List.getElem?_replicate, if_pos (by omega)]
    rfl
theorem pad_end {w w' : World} {l : List Nat} {n m : Nat} (hn : n ≤ 65536) (hl : l.length = m) (h : ∀ i, l.getD i 0 < 256) (hb : Below w.heap.size w w')
    (hx : w'.heap[w.heap.size]? = some (.cells (splice (zeros n).toList 0 (bvals (l.take (min m n)))).toArray 5 (0, 0))) : Gives w (padL l n) (.returned (.slice (some ⟨w.heap.size, 0, none⟩) n n)) w' := by
  have e := padL_len l n
  refine ⟨_, n, by rw [e], hb, ?_⟩
  rw [e]
  exact BS.of_blk hx (blk_lt hx) e (Nat.le_refl _) (by omega) (padL_byte h n) fun i hi => pad_cells hl i hi
set_option maxHeartbeats 400000 in
theorem pad_yes (A : Option Addr) (m c n : Nat) (l : List Nat) (w : World) (hs : BS w w.heap.size A m c l) (hm : m ≤ 1000) (h1 : 1 ≤ n) (hn : n ≤ 65536) :
    Calls Try.prog 35 #[.slice A m c, .int .i64 (n : Int)] w (Gives w (padL l n)) := by
  have hmk := make_bytes n (by omega)
  have hcap := hs.cap
  have HS := Lib.hid hs
  clear hs
  have hk : (bvals (l.take (min m n))).length = Nat.min m n := by
    unfold bvals
    rw [List.length_map, List.length_take, HS.out.len]
    show min (min m n) m = min m n
    omega
  have hz : ∀ W : World, (W.alloc (.cells (zeros n) 5)).heap[W.heap.size]? = some (.cells (zeros n).toList.toArray 5 (0, 0)) := fun W => by rw [heap_alloc_new]
  have hp : 0 < (bvals (l.take (min m n))).length → some (⟨w.heap.size, 0, none⟩ : Addr) = some ⟨w.heap.size, 0, none⟩ ∧ ∃ ad, A = some ad ∧ ∀ j v, (bvals (l.take (min m n)))[j]? = some v → (w.alloc (.cells (zeros n) 5)).cell? (ad.add j) = some v := by
    intro h0
    refine ⟨rfl, ?_⟩
    have hm0 : 0 < m := by
      rw [hk] at h0
      have : Nat.min m n ≤ m := Nat.min_le_left _ _
      omega
    obtain ⟨b, o, rfl, hb, hcell⟩ := HS.out.at_ hm0
    refine ⟨_, rfl, fun j v hj => ?_⟩
    have hj1 : j < (bvals (l.take (min m n))).length := by
      rcases Nat.lt_or_ge j (bvals (l.take (min m n))).length with h | h
      · exact h
      · rw [List.getElem?_eq_none h] at hj; cases hj
    rw [hk] at hj1
    have h2 : Nat.min m n ≤ m := Nat.min_le_left _ _
    have hlen := HS.out.len
    rw [Go.WideShapes.add_plain, ((Below.refl w.heap.size w).alloc (Nat.le_refl _) _).cell (p := ⟨b, o + j, none⟩) hb, hcell j (by omega)]
    rw [← hj]
    have h3 : j < min m n := hj1
    simp [bvals, List.getElem?_map, List.getElem?_take_of_lt h3, List.getElem?_eq_getElem (show j < l.length by omega), List.getD]
  have HK := Lib.hid hk
  have HP := Lib.hid hp
  have HZ := Lib.hid hz
  have H1 : ∀ v ∈ bvals (l.take (min m n)), v.oneCell' = true := by
    intro v hv
    obtain ⟨x, _, rfl⟩ := List.mem_map.mp hv
    rfl
  have hfit : 0 + (bvals (l.take (min m n))).length ≤ (zeros n).toList.length := by
    have : Nat.min m n ≤ n := Nat.min_le_right _ _
    rw [hk]
    simp [zeros]
    exact this
  have HO := Lib.hid H1
  have HFi := Lib.hid hfit
  clear hk hp hz H1 hfit
  go_enter Try.func35, Try.ntmps35
  go_wp2_with (with_reducible refine wpList_copy_splice rfl (.tmp 14) (.tmp 15) 42 42 rfl 5 Try.underlying42 (by kernel_rfl) _ A n n m c rfl rfl w.heap.size 0 (zeros n).toList 5 (HZ.out _) (bvals (l.take (min m n))) HK.out HP.out HFi.out HO.out w.heap.size w ((Below.refl _ _).alloc (Nat.le_refl _) _) (Nat.le_refl _) ?_)
  intro w2 hw2 hb2
  have H : Gives w (padL l n) (.returned (.slice (some ⟨w.heap.size, 0, none⟩) n n)) w2 := pad_end hn HS.out.len HS.out.byte hb2 hw2.out
  have HH := Lib.hid H
  clear H hw2 hb2
  go_wp2
  go_ret
  exact HH.out
set_option maxHeartbeats 400000 in
theorem pad_no (v : Value) (n : Int) (h : n < 1 ∨ 65536 < n) (w : World) :
    Calls Try.prog 35 #[v, .int .i64 n] w (Gives w []) := by
  have HG : Gives w [] (.returned (.slice none 0 0)) w := ⟨none, 0, rfl, Below.refl _ _, BS.nil _ _⟩
  have H := Lib.hid HG
  clear HG
  rcases h with h | h
  all_goals
    go_enter Try.func35, Try.ntmps35
    go_wp2
    go_ret
    exact H.out
theorem pad_any (A : Option Addr) (m c : Nat) (n : Int) (l : List Nat) (w : World) (hs : BS w w.heap.size A m c l) (hm : m ≤ 1000) :
    Calls Try.prog 35 #[.slice A m c, .int .i64 n] w (Gives w (padI l n)) := by
  by_cases h : 1 ≤ n ∧ n ≤ 65536
  · obtain ⟨k, rfl⟩ : ∃ k : Nat, n = (k : Int) := ⟨n.toNat, by omega⟩
    have e : padI l (k : Int) = padL l k := by unfold padI; rw [if_pos h]; rfl
    rw [e]
    exact pad_yes A m c k l w hs hm (by omega) (by omega)
  · have e : padI l n = [] := by unfold padI; rw [if_neg h]
    rw [e]
    exact pad_no _ n (by omega) w

def RefPadRel (w : World) (l : List Nat) (n : Nat) (v i : Value) (wr : World) : Prop :=
  ∃ k : Nat, i = .int .i64 (k : Int) ∧ k ≤ n ∧ Own wr w.heap.size v (padL l k) ∧ Below w.heap.size w wr
set_option maxHeartbeats 400000 in
theorem refPad_yes (A : Option Addr) (m c n : Nat) (l : List Nat) (w : World) (hs : BS w w.heap.size A m c l) (hm : m ≤ 1000) (hn : n ≤ 65536) :
    Calls Try.prog 27 #[.slice A m c, .int .i64 (n : Int)] w (Gives w (padL l n)) := by
  have hcap := hs.cap
  have HS := Lib.hid hs
  clear hs
  go_enter Try.func27, Try.ntmps27
  go_wp2
  go_loopw [5, 6] (fun v i wr => RefPadRel w l n v i wr) (fun _ i _ => (n - intOf i).toNat)
  case atStart => exact ⟨0, rfl, by omega, Own.nil _ _, Below.refl _ _⟩
  case round =>
    obtain ⟨k, rfl, hk, hown, hb⟩ := hrel
    by_cases hlt : k < n
    · have HL := Lib.hid (padL_len l k)
      have hln : (padL l k).length ≤ 65536 := by rw [HL.out]; omega
      have hB := hb.size
      have y1 := HS.out.byte k
      have HT := Lib.hid (padL_succ l k)
      by_cases hkm : k < m
      · obtain ⟨b, o, rfl, hbB, hcell⟩ := HS.out.at_ (by omega)
        have k1 : wr.cell? ⟨b, o + k, none⟩ = some (.int .u8 ((l.getD k 0 : Nat) : Int)) := (hb.cell hbB).trans (hcell k hkm)
        clear hcell
        generalize l.getD k 0 = x at *
        go_wp2_with (at_builtin; refine wp_app _ rfl _ _ rfl _ _ _ _ x rfl hown rfl (by omega) (by omega) hB ?_; intro v' w1 hown1 hb1)
        go_roundw
        case rel => exact ⟨k + 1, rfl, by omega, by rw [HT.out]; exact hown1, hb.trans hb1⟩
        case measure => simp [intOf]; omega
      · have h0 : l.getD k 0 = 0 := by
          have : l[k]? = none := by rw [List.getElem?_eq_none]; have := HS.out.len; omega
          rw [List.getD_eq_getElem?_getD, this]; rfl
        rw [h0] at HT
        clear h0 y1
        go_wp2_with (at_builtin; refine wp_app _ rfl _ _ rfl _ _ _ _ 0 rfl hown rfl (by omega) (by omega) hB ?_; intro v' w1 hown1 hb1)
        go_roundw
        case rel => exact ⟨k + 1, rfl, by omega, by rw [HT.out]; exact hown1, hb.trans hb1⟩
        case measure => simp [intOf]; omega
    · obtain rfl : k = n := by omega
      have HG : Gives w (padL l k) (.returned u5) wr := by
        obtain ⟨A, c, rfl, hbs⟩ := hown.bs (padL_byte HS.out.byte k)
        exact ⟨A, c, rfl, hb, hbs⟩
      have H := Lib.hid HG
      clear HG hown
      go_wp2
      go_ret
      exact H.out
set_option maxHeartbeats 400000 in
theorem refPad_no (v : Value) (n : Int) (h : n < 1 ∨ 65536 < n) (w : World) :
    Calls Try.prog 27 #[v, .int .i64 n] w (Gives w []) := by
  have HG : Gives w [] (.returned (.slice none 0 0)) w := ⟨none, 0, rfl, Below.refl _ _, BS.nil _ _⟩
  have H := Lib.hid HG
  clear HG
  rcases h with h | h
  · go_enter Try.func27, Try.ntmps27
    go_wp2
    go_loop [5, 6] (fun b i => b = .slice none 0 0 ∧ i = .int .i64 0) (fun _ _ => 0)
    case atStart => exact ⟨rfl, rfl⟩
    case round =>
      obtain ⟨rfl, rfl⟩ := hrel
      go_wp2
      go_ret
      exact H.out
  · go_enter Try.func27, Try.ntmps27
    go_wp2
    go_ret
    exact H.out
theorem refPad_any (A : Option Addr) (m c : Nat) (n : Int) (l : List Nat) (w : World) (hs : BS w w.heap.size A m c l) (hm : m ≤ 1000) :
    Calls Try.prog 27 #[.slice A m c, .int .i64 n] w (Gives w (padI l n)) := by
  by_cases h : 1 ≤ n ∧ n ≤ 65536
  · obtain ⟨k, rfl⟩ : ∃ k : Nat, n = (k : Int) := ⟨n.toNat, by omega⟩
    have e : padI l (k : Int) = padL l k := by unfold padI; rw [if_pos h]; rfl
    rw [e]
    exact refPad_yes A m c k l w hs hm (by omega)
  · have e : padI l n = [] := by unfold padI; rw [if_neg h]
    rw [e]
    exact refPad_no _ n (by omega) w
end Go.Proofs.Ytnalebocfbbpdaa
