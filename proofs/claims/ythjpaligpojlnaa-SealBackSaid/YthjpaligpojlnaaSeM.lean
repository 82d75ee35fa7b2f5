/-
  A cipher's cells at the head of a block, whatever lies behind them.
-/
import Derived.Test.YthjpaligpojlnaaAesM
namespace Go.Proofs.Ythjpaligpojlnaa
open Go.RowKit Go
set_option linter.unusedVariables false
attribute [local irreducible] Gf.inv Gf.tm Gf.pw Gf.spread Gf.sub Gf.boxAt Gf.bk Gf.rm Gf.bit
def CipS (w : World) (g N : Nat) (ks : List Nat) : Prop := ∃ (t : TypeId) (f : Nat → Value) (n : Nat), 753 ≤ n ∧ (∀ i, i < 753 → f i = cipF N ks i) ∧ Row w g t f n
section
variable {w w' : World} {g N : Nat} {ks : List Nat}
theorem CipR.s (h : CipR w g N ks) : CipS w g N ks := ⟨_, _, 753, Nat.le_refl _, fun _ _ => rfl, h⟩
theorem CipS.key (h : CipS w g N ks) {j : Nat} (hj : j < 240) : w.cell? ⟨g, 513 + j, none⟩ = some (.int .u8 ((ks.getD j 0 : Nat) : Int)) := by
  obtain ⟨t, f, n, hn, hf, h⟩ := h
  have := Row.cell h (i := 513 + j) (by omega)
  rw [this, hf _ (by omega)]
  unfold cipF
  rw [if_neg (by omega), if_neg (by omega), Nat.add_sub_cancel_left]; rfl
theorem CipS.rounds (h : CipS w g N ks) : w.cell? ⟨g, 512, none⟩ = some (.int .i64 (N : Int)) := by
  obtain ⟨t, f, n, hn, hf, h⟩ := h
  have := Row.cell h (i := 512) (by omega)
  rw [this, hf _ (by omega)]; rfl
theorem CipS.lt (h : CipS w g N ks) : g < w.heap.size := by obtain ⟨t, f, n, hn, hf, h⟩ := h; exact Row.lt h
theorem CipS.box (h : CipS w g N ks) : BoxC w g := by
  obtain ⟨t, f, n, hn, hf, h⟩ := h
  refine ⟨Row.lt h, fun c hc => ⟨?_, ?_⟩⟩
  · rw [Row.cell h (i := c) (by omega), hf _ (by omega)]
    unfold cipF
    rw [if_pos (by omega), box_sub hc]; rfl
  · rw [Row.cell h (i := 256 + c) (by omega), hf _ (by omega)]
    unfold cipF
    rw [if_pos (by omega), box_back hc]; rfl
theorem CipS.cip (h : CipS w g N ks) (hb : ∀ j, ks.getD j 0 < 256) (hN : 1 ≤ N ∧ N ≤ 14) : Cip w g N ks := ⟨h.box, h.rounds, fun j hj => h.key hj, hb, hN⟩
theorem CipS.keep (h : CipS w g N ks) (hk : w'.heap[g]? = w.heap[g]?) : CipS w' g N ks := by
  obtain ⟨t, f, n, hn, hf, h⟩ := h
  exact ⟨t, f, n, hn, hf, hk.trans h⟩
theorem CipS.below {B : Nat} (h : CipS w g N ks) (hb : Below B w w') (hg : g < B) : CipS w' g N ks := h.keep (hb.block g hg)
theorem CipS.next (h : CipS w g N ks) (hb : Below w.heap.size w w') : CipS w' g N ks := h.below hb h.lt
theorem CipS.only {gs : Nat} (h : CipS w g N ks) (hg : w.grownBy w' (some gs)) (hne : g ≠ gs) : CipS w' g N ks := h.keep (hg.block g h.lt (fun e => by injection e with e; exact hne e))
end
end Go.Proofs.Ythjpaligpojlnaa
