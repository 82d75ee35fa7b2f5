/-
  What the box answers; the examples.
-/
import Derived.Test.YtalbebcmihbnmabGfD
namespace Go.Proofs.Ytalbebcmihbnmab
set_option linter.unusedVariables false
open Go.RowKit
theorem boxAt_at (n : Nat) : n ≤ 256 → ∀ j, j < n → (Gf.boxAt n)[j]? = some (.int .u8 ((Gf.sub j : Nat) : Int)) ∧ (Gf.boxAt n)[256 + Gf.sub j]? = some (.int .u8 (j : Int)) := by
  induction n with
  | zero => intro _ j hj; omega
  | succ n ih =>
    intro hn j hj
    have hz := boxAt_size n
    have hsn := Gf.sub_lt (c := n) (by omega)
    have hsj := Gf.sub_lt (c := j) (by omega)
    unfold Gf.boxAt
    by_cases h : j = n
    · subst h
      refine ⟨?_, ?_⟩
      · rw [Array.getElem?_setIfInBounds_ne (by omega), Array.getElem?_setIfInBounds_self_of_lt (by omega)]
      · rw [Array.getElem?_setIfInBounds_self_of_lt (by rw [Array.size_setIfInBounds]; omega)]
    · have hne : Gf.sub n ≠ Gf.sub j := fun e => h (Gf.sub_inj (by omega) (by omega) e.symm)
      have hi := ih (by omega) j (by omega)
      refine ⟨?_, ?_⟩
      · rw [Array.getElem?_setIfInBounds_ne (by omega), Array.getElem?_setIfInBounds_ne (by omega)]; exact hi.1
      · rw [Array.getElem?_setIfInBounds_ne (by omega), Array.getElem?_setIfInBounds_ne (by omega)]; exact hi.2
theorem box_sub {c : Nat} (hc : c < 256) : (Gf.boxAt 256)[c]? = some (.int .u8 ((Gf.sub c : Nat) : Int)) := (boxAt_at 256 (Nat.le_refl _) c hc).1
theorem box_back {d : Nat} (hd : d < 256) : (Gf.boxAt 256)[256 + d]? = some (.int .u8 ((Gf.bk d : Nat) : Int)) := by
  have h := (boxAt_at 256 (Nat.le_refl _) _ (Gf.bk_lt hd)).2
  rw [Gf.sub_bk hd] at h
  exact h
def IsBox (w : World) (g : Nat) : Prop := w.heap[g]? = some (.cells (Gf.boxAt 256) 41 (0, 0))
theorem IsBox.below {w w' : World} {g B : Nat} (h : IsBox w g) (hg : g < B) (hb : Below B w w') : IsBox w' g := (hb.block g hg).trans h
attribute [local irreducible] Gf.inv Gf.tm Gf.pw Gf.spread Gf.sub Gf.boxAt Gf.bk Gf.rm Gf.bit
set_option maxHeartbeats 400000 in
theorem sub_any (g c : Nat) (hc : c < 256) (w : World) (hb : IsBox w g) :
    Calls Try.prog 19 #[.pointer (some ⟨g, 0, none⟩), .int .u8 c] w fun e w' => e = .returned (.int .u8 (Gf.sub c : Nat)) ∧ w = w' := by
  have h1 : w.cell? ⟨g, c, none⟩ = some (.int .u8 ((Gf.sub c : Nat) : Int)) := (blk_cell hb c).trans (box_sub hc)
  clear hb
  go_enter Try.func19, Try.ntmps19
  go_wp2
  go_ret
  exact ⟨rfl, rfl⟩
set_option maxHeartbeats 400000 in
theorem sub_nil (c : Nat) (w : World) :
    Calls Try.prog 19 #[.pointer none, .int .u8 c] w fun e w' => e = .returned (.int .u8 0) ∧ w = w' := by
  go_enter Try.func19, Try.ntmps19
  go_wp2
  go_ret
  exact ⟨rfl, rfl⟩
theorem mul_awake (w : World) : Calls Try.prog 18 #[.int .u8 87, .int .u8 131] w fun e w' => e = .returned (.int .u8 193) ∧ w = w' :=
  (mul_any 87 131 (by omega) (by omega) w).mono fun _ _ ⟨he, hw⟩ => ⟨he.trans (ret_int (by rw [Gf.awake_mul]; rfl)), hw⟩
theorem sub_awake (g : Nat) (w : World) (hb : IsBox w g) : Calls Try.prog 19 #[.pointer (some ⟨g, 0, none⟩), .int .u8 0] w fun e w' => e = .returned (.int .u8 99) ∧ w = w' :=
  (sub_any g 0 (by omega) w hb).mono fun _ _ ⟨he, hw⟩ => ⟨he.trans (ret_int (by rw [Gf.awake_sub]; rfl)), hw⟩
theorem sub_awake' (g : Nat) (w : World) (hb : IsBox w g) : Calls Try.prog 19 #[.pointer (some ⟨g, 0, none⟩), .int .u8 83] w fun e w' => e = .returned (.int .u8 237) ∧ w = w' :=
  (sub_any g 83 (by omega) w hb).mono fun _ _ ⟨he, hw⟩ => ⟨he.trans (ret_int (by rw [Gf.awake_sub']; rfl)), hw⟩
set_option maxHeartbeats 400000 in
theorem awake_any (w : World) : Calls Try.prog 7 #[] w fun e w' => e = .returned (.bool true) ∧ Below w.heap.size w w' := by
  go_enter Try.func7, Try.ntmps7
  go_wp2_with fail
  refine (newBox_any _).mono ?_
  rintro e w' ⟨rfl, hb, hx⟩
  have HX : IsBox w' w.heap.size := hx
  clear hx
  go_wp2_with fail
  refine (mul_awake _).mono ?_
  rintro e w1 ⟨rfl, rfl⟩
  go_wp2_with fail
  refine (sub_awake _ _ HX).mono ?_
  rintro e w1 ⟨rfl, rfl⟩
  go_wp2_with fail
  refine (sub_awake' _ _ HX).mono ?_
  rintro e w1 ⟨rfl, rfl⟩
  go_wp2
  go_ret
  exact ⟨rfl, hb⟩
end Go.Proofs.Ytalbebcmihbnmab
