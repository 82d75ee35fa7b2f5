/-
  The box.
-/
import Derived.Test.YthjpaligpojlnaaGfC
import Derived.Below
namespace Go.Proofs.Ythjpaligpojlnaa
set_option linter.unusedVariables false
open Go.RowKit
theorem box_zero : Gf.boxAt 0 = Array.replicate 512 (.int .u8 0) := rfl
theorem zero_box (w : World) : (zeroValue 72).run Try.prog w = .ok (.agg (Gf.boxAt 0)) w := by kernel_rfl
def BoxRel (w : World) (k : Value) (wr : World) : Prop :=
  ∃ n : Nat, k = .int .i64 (n : Int) ∧ n ≤ 256 ∧ Below w.heap.size w wr ∧ w.heap.size < wr.heap.size ∧ wr.heap[w.heap.size]? = some (.cells (Gf.boxAt n) 72 (0, 0))
theorem box_start (w : World) : BoxRel w (.int .i64 0) (w.alloc (.cells (Gf.boxAt 0) 72)) :=
  ⟨0, rfl, by omega, (Below.refl _ _).alloc (Nat.le_refl _) _, by simp, heap_alloc_new w _⟩
theorem boxAt_size (n : Nat) : (Gf.boxAt n).size = 512 := by
  induction n with
  | zero => simp [Gf.boxAt]
  | succ n ih => simp [Gf.boxAt, ih]
theorem box_step {w W : World} {n c g : Nat} (hn : n < 256) (hg : g = w.heap.size) (hc : Gf.sub n = c) (hb : Below g w W) (hs : W.heap[g]? = some (Obj.cells (Gf.boxAt n) 72 (0, 0))) :
    BoxRel w (.int .i64 ((n : Int) + 1)) (((W.setCell ⟨g, n, none⟩ (.int .u8 (c : Int))).setCell ⟨g, 256 + c, none⟩ (.int .u8 (n : Int))).drew) := by
  subst hg hc
  refine ⟨n + 1, rfl, by omega, ((hb.setCell (Nat.le_refl _) _).setCell (Nat.le_refl _) _).drew, ?_, ?_⟩
  · have := blk_lt hs
    simpa [World.setCell] using this
  · have h := blk_set (blk_set hs n (.int .u8 ((Gf.sub n : Nat) : Int))) (256 + Gf.sub n) (.int .u8 (n : Int))
    exact h
attribute [local irreducible] Gf.inv Gf.tm Gf.pw Gf.spread Gf.sub Gf.boxAt
set_option maxHeartbeats 400000 in
set_option maxRecDepth 100000 in
theorem newBox_any (w : World) :
    Calls Try.prog 20 #[] w fun e w' => e = .returned (.pointer (some ⟨w.heap.size, 0, none⟩)) ∧ Below w.heap.size w w' ∧ w'.heap[w.heap.size]? = some (.cells (Gf.boxAt 256) 72 (0, 0)) := by
  have hz := zero_box
  have H0 := Lib.hid (box_start w)
  go_enter Try.func20, Try.ntmps20
  go_wp2
  go_loopw [6] (fun k wr => BoxRel w k wr) (fun k _ => (256 - intOf k).toNat)
  case atStart => exact H0.out
  case round =>
    obtain ⟨n, rfl, hn, hb, hs, hcs⟩ := hrel
    have HC := Lib.hid hcs
    clear hcs hz H0
    by_cases hlt : n < 256
    · go_wp2_with fail
      refine (inv_any n hlt _).mono ?_
      rintro e w' ⟨rfl, rfl⟩
      go_wp2_with fail
      refine (spread_any _ (Gf.inv_lt hlt) _).mono ?_; rintro e w' ⟨rfl, rfl⟩
      go_wp2_with fail
      have hc : Gf.spread (Gf.inv n) < 256 := (Gf.spread_at (Gf.inv_lt hlt)).2
      have HE0 : Gf.sub n = Gf.spread (Gf.inv n) := by unfold Gf.sub; rfl
      have HE := Lib.hid HE0
      clear HE0
      have hb1 : Below w.heap.size w (wr.alloc (Obj.cells #[Value.int IntKind.u8 ((Gf.inv n : Nat) : Int)] 5)) := hb.alloc (Nat.le_of_lt hs) _
      have HC1 : Hid ((wr.alloc (Obj.cells #[Value.int IntKind.u8 ((Gf.inv n : Nat) : Int)] 5)).heap[w.heap.size]? = some (Obj.cells (Gf.boxAt n) 72 (0, 0))) := Lib.hid ((Below.heap_alloc wr _ _ hs).trans HC.out)
      have hs1 : w.heap.size < (wr.alloc (Obj.cells #[Value.int IntKind.u8 ((Gf.inv n : Nat) : Int)] 5)).heap.size := by simp; omega
      clear HC hb hs
      generalize (wr.alloc (Obj.cells #[Value.int IntKind.u8 ((Gf.inv n : Nat) : Int)] 5)) = W at *
      generalize Gf.spread (Gf.inv n) = c at *
      have hz1 : n < (Gf.boxAt n).size := by rw [boxAt_size]; omega
      have hz2 : 256 + c < (Gf.boxAt n).size := by rw [boxAt_size]; omega
      obtain ⟨v1, hv1⟩ : ∃ v, W.cell? ⟨w.heap.size, n, none⟩ = some v := ⟨_, (blk_cell HC1.out n).trans (Array.getElem?_eq_getElem hz1)⟩
      obtain ⟨v2, hv2⟩ : ∃ v, W.cell? ⟨w.heap.size, 256 + c, none⟩ = some v := ⟨_, (blk_cell HC1.out _).trans (Array.getElem?_eq_getElem hz2)⟩
      have hf1 : W.frozen? ⟨w.heap.size, n, none⟩ = false := blk_free HC1.out _
      have hf2 : W.frozen? ⟨w.heap.size, 256 + c, none⟩ = false := blk_free HC1.out _
      have HR := Lib.hid (box_step hlt rfl HE.out hb1 HC1.out)
      clear hb1 hz1 hz2
      go_region
      go_wp2
      go_roundw
      case rel => exact HR.out
      case measure => simp [intOf]; omega
    · obtain rfl : n = 256 := by omega
      go_wp2
      go_ret
      exact ⟨rfl, hb, HC.out⟩
end Go.Proofs.Ythjpaligpojlnaa
