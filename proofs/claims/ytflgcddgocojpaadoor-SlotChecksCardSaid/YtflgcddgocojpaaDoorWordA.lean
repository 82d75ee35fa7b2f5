/-
  What Put and High of package word answer.
-/
import Derived.Test.YtflgcddgocojpaaDoorRows
import Derived.Test.YtflgcddgocojpaaDoorSl
import Derived.Test.YtflgcddgocojpaaDoorWordMath
import Derived.WalkKit
import Derived.WalkSpells
import Derived.WalkLawsBesides
import Derived.Lib.Hide
namespace Go.Proofs.YtflgcddgocojpaaDoor
open Go.RowKit
set_option linter.unusedVariables false
theorem info_u8 : (Tryd.prog.info? 5).map (fun i => (i.zero, i.size, i.bytes)) = some (some (.int .u8 0), 1, 1) := by kernel_rfl
theorem make_bytes (n : Nat) (hn : n ≤ 281474976710656) : ∀ w : World, (Instr.makeSlice 23 (.int .i64 (n : Int)) (.int .i64 (n : Int))).run Tryd.prog w = .ok (.slice (some ⟨w.heap.size, 0, none⟩) n n) (w.alloc (.cells (zeros n) 5)) :=
  run_make_bytes 23 5 Tryd.underlying23 info_u8 n hn
set_option maxHeartbeats 400000 in
theorem up_any (g k : Nat) (hk : k < 100) (w : World) (hc : w.cell? ⟨g, 0, none⟩ = some (.int .i64 (k : Int))) (hf : w.frozen? ⟨g, 0, none⟩ = false) :
    Calls Tryd.prog 50 #[.pointer (some ⟨g, 0, none⟩)] w fun e w' => e = .returned (.int .i64 (k : Int)) ∧ w.setCell ⟨g, 0, none⟩ (.int .i64 ((k : Int) + 1)) = w' := by
  go_enter Tryd.func50, Tryd.ntmps50
  go_wp2
  go_ret
  exact ⟨ret_int (by omega), rfl⟩
set_option maxHeartbeats 400000 in
theorem fits_yes (n : Nat) (h1 : 1 ≤ n) (h8 : n ≤ 8) (w : World) :
    Calls Tryd.prog 52 #[.int .i64 (n : Int)] w fun e w' => e = .returned (.bool true) ∧ w = w' := by
  go_enter Tryd.func52, Tryd.ntmps52
  go_wp2
  go_ret
  exact ⟨ret_bool (decide_eq_true (by omega)), rfl⟩
set_option maxHeartbeats 400000 in
theorem fits_no (n : Int) (h : n < 1 ∨ 8 < n) (w : World) :
    Calls Tryd.prog 52 #[.int .i64 n] w fun e w' => e = .returned (.bool false) ∧ w = w' := by
  rcases h with h | h
  · go_enter Tryd.func52, Tryd.ntmps52
    go_wp2
    go_ret
    exact ⟨rfl, rfl⟩
  · go_enter Tryd.func52, Tryd.ntmps52
    go_wp2
    go_ret
    exact ⟨ret_bool (decide_eq_false (by omega)), rfl⟩
theorem shr_byte (v j : Nat) : (v : Int) / 2 ^ (8 * j) % 256 = ((v / 256 ^ j % 256 : Nat) : Int) := by
  have h1 : ((v / 256 ^ j : Nat) : Int) = (v : Int) / 2 ^ (8 * j) := by rw [pow256, Int.natCast_ediv]; simp
  rw [← h1]; omega
def SpellRel (w : World) (g : Nat) (t : TypeId) (S : Nat → Int) (f : Nat → Nat) (n : Nat) (k : Value) (wr : World) : Prop :=
  ∃ j : Nat, k = .int .i64 (j : Int) ∧ j ≤ n ∧ w.grownBy wr (some g) ∧ wr.heap[g]? = some (.cells #[.int .i64 (S j)] t (0, 0)) ∧ wr.heap[w.heap.size]? = some (.cells (rowOf f n j) 5 (0, 0))
theorem spell_start {w : World} {g : Nat} {t : TypeId} {S : Nat → Int} (f : Nat → Nat) (n : Nat) (hg : w.heap[g]? = some (.cells #[.int .i64 (S 0)] t (0, 0))) :
    SpellRel w g t S f n (.int .i64 0) (w.alloc (.cells (zeros n) 5)) :=
  ⟨0, rfl, by omega, World.grownBy_alloc w _ _, blk_alloc hg _, heap_alloc_new w _⟩
theorem spell_step {w wr : World} {g : Nat} {t : TypeId} {S : Nat → Int} {f : Nat → Nat} {n j : Nat} (hj : j < n) (hgw : g < w.heap.size) (hb : w.grownBy wr (some g))
    (h1 : wr.heap[g]? = some (.cells #[.int .i64 (S j)] t (0, 0))) (h2 : wr.heap[w.heap.size]? = some (.cells (rowOf f n j) 5 (0, 0))) :
    SpellRel w g t S f n (.int .i64 ((j : Int) + 1)) ((wr.setCell ⟨g, 0, none⟩ (.int .i64 (S (j + 1)))).setCell ⟨w.heap.size, j, none⟩ (.int .u8 ((f j : Nat) : Int))) := by
  refine ⟨j + 1, rfl, by omega, only_set (only_set hb (.inl rfl) _) (.inr (Nat.le_refl _)) _, ?_, ?_⟩
  · have := blk_set h1 0 (.int .i64 (S (j + 1)))
    exact blk_far (p := ⟨w.heap.size, j, none⟩) (by simpa using this) (by show g ≠ w.heap.size; omega) _
  · exact blk_set (blk_far h2 (p := ⟨g, 0, none⟩) (by show w.heap.size ≠ g; omega) _) j _
set_option maxHeartbeats 400000 in
theorem spell_up (n v g : Nat) (h1 : 1 ≤ n) (h8 : n ≤ 8) (hv : v < 2 ^ 64) (w : World) (hg : w.heap[g]? = some (.cells #[.int .i64 0] 86 (0, 0))) :
    Calls Tryd.prog 49 #[.int .i64 (n : Int), .int .u64 (v : Int), .func (Fn.func 50) #[.pointer (some ⟨g, 0, none⟩)] #[]] w
      fun e w' => e = .returned (.slice (some ⟨w.heap.size, 0, none⟩) n n) ∧ w.grownBy w' (some g) ∧ w'.heap[w.heap.size]? = some (.cells (rowOf (fun k => v / 256 ^ k % 256) n n) 5 (0, 0)) := by
  have hgw := blk_lt hg
  have HS := Lib.hid (spell_start (S := fun j => (j : Int)) (fun k => v / 256 ^ k % 256) n hg)
  clear hg
  have hm := make_bytes n (by omega)
  go_enter Tryd.func49, Tryd.ntmps49
  go_wp2_with (go_at_call 52; refine (fits_yes n h1 h8 _).mono ?_; rintro e w' ⟨rfl, rfl⟩)
  go_loopw [16] (fun k wr => SpellRel w g 86 (fun j => (j : Int)) (fun k => v / 256 ^ k % 256) n k wr) (fun k _ => (n - intOf k).toNat)
  case atStart => exact HS.out
  case round =>
    obtain ⟨j, rfl, hj, hb, hc1, hc2⟩ := hrel
    clear hm HS
    by_cases hlt : j < n
    · have hcell : wr.cell? ⟨g, 0, none⟩ = some (.int .i64 (j : Int)) := by simpa using blk_cell hc1 0
      have hfz := blk_free hc1 0
      have hs := spell_step (S := fun j => (j : Int)) hlt hgw hb hc1 hc2
      have k2 := blk_far hc2 (p := ⟨g, 0, none⟩) (by show w.heap.size ≠ g; omega) (.int .i64 ((j : Int) + 1))
      have f1 : (wr.setCell ⟨g, 0, none⟩ (.int .i64 ((j : Int) + 1))).cell? ⟨w.heap.size, j, none⟩ = some _ := (blk_cell k2 j).trans (Array.getElem?_eq_getElem (by rw [rowOf_size]; omega))
      have f2 : (wr.setCell ⟨g, 0, none⟩ (.int .i64 ((j : Int) + 1))).frozen? ⟨w.heap.size, j, none⟩ = false := blk_free k2 j
      clear hc1 hc2 hb k2
      go_wp2_with fail
      refine (up_any g j (by omega) _ hcell hfz).mono ?_
      rintro e w1 ⟨rfl, hw1⟩
      have hs2 : SpellRel w g 86 (fun j => (j : Int)) (fun k => v / 256 ^ k % 256) n (.int .i64 ((j : Int) + 1)) (w1.setCell ⟨w.heap.size, j, none⟩ (.int .u8 ((v / 256 ^ j % 256 : Nat) : Int))) := hw1 ▸ hs
      rw [hw1] at f1 f2
      generalize (rowOf (fun k => v / 256 ^ k % 256) n j)[j]'_ = old at f1
      have HS := Lib.hid hs2
      clear hw1 hs hs2 hcell hfz
      go_wp2
      go_roundw
      case rel => rw [shr_byte]; exact HS.out
      case measure => simp [intOf]; omega
    · obtain rfl : j = n := by omega
      go_wp2
      go_ret
      exact ⟨rfl, hb, hc2⟩
/-- the call gives a slice of its own that reads as l, and what was there stands as it was -/
def Gives (w : World) (l : List Nat) (e : Ending) (w' : World) : Prop :=
  ∃ A c, e = .returned (.slice A l.length c) ∧ Below w.heap.size w w' ∧ BS w' w'.heap.size A l.length c l
theorem Gives.to {w w' : World} {e : Ending} {l l' : List Nat} (h : Gives w l e w') (hl : l = l') : Gives w l' e w' := hl ▸ h
theorem high_eq (n v : Nat) : (List.range n).map (fun k => v / 256 ^ (n - 1 - k) % 256) = (putL n v).reverse := by
  apply List.ext_getElem?
  intro i
  by_cases h : i < n
  · rw [List.getElem?_reverse (by rw [putL_len]; exact h), putL_len]
    unfold putL
    rw [List.getElem?_map, List.getElem?_map, List.getElem?_range h, List.getElem?_range (by omega)]
    rfl
  · rw [List.getElem?_eq_none (by simp; omega), List.getElem?_eq_none (by rw [List.length_reverse, putL_len]; omega)]
def putI (n : Int) (v : Nat) : List Nat := if 1 ≤ n ∧ n ≤ 8 then putL n.toNat v else []
theorem putI_byte (n : Int) (v i : Nat) : (putI n v).getD i 0 < 256 := by
  unfold putI; split
  · exact putL_byte _ _ _
  · simp
theorem put_close {w w' : World} {f : Nat → Nat} {n : Nat} {o : Obj} {l : List Nat} (hn : n ≤ 8) (hf : ∀ i, i < n → f i < 256) (hl : (List.range n).map f = l)
    (hb : (w.alloc o).grownBy w' (some w.heap.size)) (hx : w'.heap[(w.alloc o).heap.size]? = some (.cells (rowOf f n n) 5 (0, 0))) :
    Gives w l (.returned (.slice (some ⟨w.heap.size + 1, 0, none⟩) n n)) w' := by
  have e0 : (w.alloc o).heap.size = w.heap.size + 1 := by simp
  rw [e0] at hx
  have e1 : l.length = n := by rw [← hl]; simp
  subst hl
  refine ⟨_, n, by rw [e1], below_only ((Below.refl _ _).alloc (Nat.le_refl _) o) (Nat.le_refl _) (by simp) hb, ?_⟩
  rw [e1]
  exact BS.of_rowOf hx (blk_lt hx) (by omega) hf
set_option maxHeartbeats 400000 in
theorem put_yes (n v : Nat) (h1 : 1 ≤ n) (h8 : n ≤ 8) (hv : v < 2 ^ 64) (w : World) :
    Calls Tryd.prog 47 #[.int .i64 (n : Int), .int .u64 (v : Int)] w (Gives w (putL n v)) := by
  have hz : ∀ w : World, (zeroValue 86).run Tryd.prog w = .ok (.agg #[.int .i64 0]) w := fun _ => by kernel_rfl
  go_enter Tryd.func47, Tryd.ntmps47
  go_wp2_with fail
  refine (spell_up n v _ h1 h8 hv _ (heap_alloc_new w _)).mono ?_
  rintro e w' ⟨rfl, hb, hx⟩
  have hg : Gives w (putL n v) _ _ := put_close h8 (fun i _ => Nat.mod_lt _ (by omega)) rfl hb hx
  have HG := Lib.hid hg
  clear hb hx hg
  go_wp2
  go_ret
  exact HG.out
set_option maxHeartbeats 400000 in
theorem spell_no (n : Int) (v : Nat) (f : Value) (h : n < 1 ∨ 8 < n) (w : World) :
    Calls Tryd.prog 49 #[.int .i64 n, .int .u64 (v : Int), f] w fun e w' => e = .returned (.slice none 0 0) ∧ w = w' := by
  go_enter Tryd.func49, Tryd.ntmps49
  go_wp2_with (go_at_call 52; refine (fits_no n h _).mono ?_; rintro e w' ⟨rfl, rfl⟩)
  go_ret
  exact ⟨rfl, rfl⟩
theorem no_close {w : World} (o : Obj) : Gives w [] (.returned (.slice none 0 0)) (w.alloc o) :=
  ⟨none, 0, rfl, (Below.refl _ _).alloc (Nat.le_refl _) o, BS.nil _ _⟩
set_option maxHeartbeats 400000 in
theorem put_no (n : Int) (v : Nat) (h : n < 1 ∨ 8 < n) (w : World) :
    Calls Tryd.prog 47 #[.int .i64 n, .int .u64 (v : Int)] w (Gives w []) := by
  have hz : ∀ w : World, (zeroValue 86).run Tryd.prog w = .ok (.agg #[.int .i64 0]) w := fun _ => by kernel_rfl
  go_enter Tryd.func47, Tryd.ntmps47
  go_wp2_with fail
  refine (spell_no n v _ h _).mono ?_
  rintro e w' ⟨rfl, rfl⟩
  go_wp2
  go_ret
  exact no_close _
theorem put_any (n : Int) (v : Nat) (hv : v < 2 ^ 64) (w : World) : Calls Tryd.prog 47 #[.int .i64 n, .int .u64 (v : Int)] w (Gives w (putI n v)) := by
  by_cases h : 1 ≤ n ∧ n ≤ 8
  · obtain ⟨m, rfl⟩ : ∃ m : Nat, n = (m : Int) := ⟨n.toNat, by omega⟩
    have e : putI (m : Int) v = putL m v := by unfold putI; rw [if_pos h]; rfl
    rw [e]
    exact put_yes m v (by omega) (by omega) hv w
  · have e : putI n v = [] := by unfold putI; rw [if_neg h]
    rw [e]
    exact put_no n v (by omega) w
end Go.Proofs.YtflgcddgocojpaaDoor
