/-
  What stands behind the bytes: the program's and the document's.
-/
import Derived.Test.YtoclelpmampikaaGreatOwn
import Derived.Test.YtoclelpmampikaaGreatShaMath
namespace Go.Proofs.YtoclelpmampikaaGreat
open Go.RowKit
set_option linter.unusedVariables false
theorem pad_byte (n : Nat) : ∀ i, (Sha.pad n).getD i 0 < 256 := by
  intro i
  have h : ∀ x ∈ Sha.pad n, x < 256 := by
    intro x hx
    unfold Sha.pad at hx
    rcases List.mem_append.mp hx with h | h
    · rcases List.mem_cons.mp h with h | h
      · omega
      · have := List.eq_of_mem_replicate h; omega
    · obtain ⟨k, hk, rfl⟩ := List.mem_iff_getElem.mp (List.mem_reverse.mp h)
      have := putL_byte 8 (8 * n) k
      rw [List.getD_eq_getElem?_getD, List.getElem?_eq_getElem hk] at this
      exact this
  by_cases hi : i < (Sha.pad n).length
  · rw [List.getD_eq_getElem?_getD, List.getElem?_eq_getElem hi]
    exact h _ (List.getElem_mem hi)
  · rw [List.getD_eq_getElem?_getD, List.getElem?_eq_none (by omega)]; simp
theorem high8 (n : Nat) (hn : n < 2305843009213693952) (w : World) : Calls Tryz.prog 72 #[.int .i64 8, .int .u64 (8 * (n : Int))] w (Gives w (putL 8 (8 * n)).reverse) := by
  have h := high_yes 8 (8 * n) (by omega) (by omega) (by omega) w
  rw [Int.natCast_mul] at h
  exact h
theorem high4 (v : Nat) (hv : v < 4294967296) (w : World) : Calls Tryz.prog 72 #[.int .i64 4, .int .u64 (v : Int)] w (Gives w (putL 4 v).reverse) :=
  high_yes 4 v (by omega) (by omega) (by omega) w
theorem pad_own {w : World} (k : Nat) (hk : k ≤ 63) : Own (w.alloc (.cells ((zeros 73).setIfInBounds 0 (.int .u8 128)) 5)) w.heap.size (.slice (some ⟨w.heap.size, 0, none⟩) (1 + k) 73) (128 :: List.replicate k 0) := by
  refine Own.blk (Nat.le_refl _) (heap_alloc_new w _) (by simp; omega) (by omega) (by unfold maxLen; omega) (by simp [zeros]) ?_
  rw [Array.toList_setIfInBounds]
  simp only [zeros, Array.toList_replicate]
  rw [show (73 : Nat) = 72 + 1 from rfl, List.replicate_succ, List.set_cons_zero, Nat.add_comm 1 k, List.take_succ_cons, List.take_replicate, Nat.min_eq_left (by omega)]
  simp [bvals]
set_option maxHeartbeats 400000 in
set_option maxRecDepth 100000 in
theorem pad_yes (n : Nat) (hn : n ≤ 1099511627776) (w : World) :
    Calls Tryz.prog 71 #[.int .i64 (n : Int)] w (GivesN w (Sha.pad n)) := by
  obtain ⟨k, hk⟩ : ∃ k, k = (119 - n % 64) % 64 := ⟨_, rfl⟩
  have hk63 : k ≤ 63 := by omega
  have hm : ∀ W : World, (Instr.makeSlice 89 (.int .i64 (1 + (119 - (n : Int)) % 64)) (.int .i64 73)).run Tryz.prog W = .ok (.slice (some ⟨W.heap.size, 0, none⟩) (1 + k) 73) (W.alloc (.cells (zeros 73) 5)) := fun W => by
    have h := make_cap (1 + k) 73 (by omega) (by omega) W
    rw [show ((1 + k : Nat) : Int) = 1 + (119 - (n : Int)) % 64 by omega] at h
    exact h
  have HO := Lib.hid (pad_own (w := w) k hk63)
  have HB : Hid (Below w.heap.size w (w.alloc (.cells ((zeros 73).setIfInBounds 0 (.int .u8 128)) 5))) := Lib.hid ((Below.refl _ _).alloc (Nat.le_refl _) _)
  have HP : Hid (Sha.pad n = 128 :: List.replicate k 0 ++ (putL 8 (8 * n)).reverse) := Lib.hid (by rw [hk]; rfl)
  have hc : (w.alloc (.cells (zeros 73) 5)).cell? ⟨w.heap.size, 0, none⟩ = some (.int .u8 0) := (blk_cell (heap_alloc_new w _) 0).trans (zeros_at (by omega))
  have hf : (w.alloc (.cells (zeros 73) 5)).frozen? ⟨w.heap.size, 0, none⟩ = false := blk_free (heap_alloc_new w _) 0
  clear hk
  go_enter Tryz.func71, Tryz.ntmps71
  go_wp2_with fail
  clear hc hf
  refine (high8 n (by omega) _).mono ?_
  rintro e w2 ⟨A, c, rfl, hb2, hbs⟩
  have HO2 := Lib.hid (Own.below HO.out hb2)
  have HB2 : Hid (Below w.heap.size w w2) := Lib.hid (HB.out.trans (hb2.mono HB.out.size))
  have HBS := Lib.hid hbs
  clear hb2 hbs hm HO HB
  have hlen : ((putL 8 (8 * n)).reverse).length = 8 := by simp [putL]
  have hA : A = none → c = 0 := fun h => by
    obtain ⟨b, o, e, _⟩ := HBS.out.at_ (by rw [hlen]; omega)
    rw [h] at e; cases e
  rw [hlen] at HBS ⊢
  have hll : (128 :: List.replicate k 0 : List Nat).length + 8 < 1000000000 := by simp; omega
  have HLL := Lib.hid hll
  have HA := Lib.hid hA
  have hsz := HB2.out.size
  clear hlen hll hA
  go_wp2_with (at_builtin; refine wp_apps _ rfl (.tmp 18) (.tmp 22) rfl w.heap.size _ _ rfl HO2.out _ A 8 c _ rfl HBS.out HA.out HLL.out hsz ?_; intro v' w3 hown3 hb3)
  have HG : GivesN w (Sha.pad n) (.returned v') w3 := by
    rw [HP.out]
    exact Own.givesN hown3 (by rw [← HP.out]; exact pad_byte n) (HB2.out.trans hb3)
  have H := Lib.hid HG
  clear HG hown3 hb3
  go_ret
  exact H.out
end Go.Proofs.YtoclelpmampikaaGreat
