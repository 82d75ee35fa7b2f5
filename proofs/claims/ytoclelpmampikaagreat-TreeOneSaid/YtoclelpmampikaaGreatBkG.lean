/-
  Package book: New, Len, Clash, Sum.
-/
import Derived.Test.YtoclelpmampikaaGreatBkF
import Derived.Test.YtoclelpmampikaaGreatShaQ
import Derived.Test.YtoclelpmampikaaGreatEq
namespace Go.Proofs.YtoclelpmampikaaGreat
open Go.RowKit Go
set_option linter.unusedVariables false
set_option linter.unusedSimpArgs false
/-! ### New -/
def NewTo (w : World) (g : Nat) (S : Nat → Prop) (e : Ending) (w' : World) : Prop :=
  ∃ b, e = .returned (.pointer (some ⟨b, 0, none⟩)) ∧ w.heap.size ≤ b ∧ Below w.heap.size w w' ∧ IsBook w' b g (fun k => k = g ∨ (w.heap.size ≤ k ∧ k < w'.heap.size)) [] []
theorem bk_new_st (g : Nat) (w : World) (h : IsTab w g) :
    IsBook ((w.alloc (.map #[] 0)).alloc (.cells #[.func (Fn.func 38) #[.pointer (some ⟨g, 0, none⟩)] #[], .map (some w.heap.size), .int .i64 0, .slice none 0 0] 77)) (w.heap.size + 1) g (fun k => k = g ∨ (w.heap.size ≤ k ∧ k < ((w.alloc (.map #[] 0)).alloc (.cells #[.func (Fn.func 38) #[.pointer (some ⟨g, 0, none⟩)] #[], .map (some w.heap.size), .int .i64 0, .slice none 0 0] 77)).heap.size)) [] [] := by
  obtain ⟨w1, hw1⟩ : ∃ w1, w1 = w.alloc (.map #[] 0) := ⟨_, rfl⟩
  have hz1 : w1.heap.size = w.heap.size + 1 := by rw [hw1]; simp
  have hm : BM w1 w.heap.size 0 (fun _ => nilS) := by rw [hw1]; exact BM.new w
  have ht : IsTab w1 g := by rw [hw1]; exact Row.alloc h _
  rw [← hw1]
  obtain ⟨w2, hw2⟩ : ∃ w2, w2 = w1.alloc (.cells #[.func (Fn.func 38) #[.pointer (some ⟨g, 0, none⟩)] #[], .map (some w.heap.size), .int .i64 0, .slice none 0 0] 77) := ⟨_, rfl⟩
  rw [← hw2]
  have hz2 : w2.heap.size = w.heap.size + 2 := by rw [hw2]; simp [hz1]
  have hlt : g < w.heap.size := Row.lt h
  refine ⟨w.heap.size, fun _ => nilS, nilS, ⟨?_, by rw [hw2]; exact Row.alloc ht _, ?_, by simp, fun d _ => TR.nil _ _, fun d e _ _ _ => .inl rfl, TR.nil _ _, fun _ => rfl, fun d _ => .inl rfl, .inr ⟨by omega, by omega⟩, .inl rfl, .inr ⟨by omega, by omega⟩, fun k hk => ?_⟩⟩
  · have h9 := heap_alloc_new w1 (.cells #[.func (Fn.func 38) #[.pointer (some ⟨g, 0, none⟩)] #[], .map (some w.heap.size), .int .i64 0, .slice none 0 0] 77)
    rw [hz1, ← hw2] at h9
    exact h9
  · exact hm.keep (by rw [hw2]; exact Below.heap_alloc w1 _ _ (by omega))
  · rcases hk with hk | hk <;> omega
set_option maxHeartbeats 1000000 in
set_option maxRecDepth 100000 in
theorem bk_new (g : Nat) (w : World) (h : IsTab w g) : Calls Tryz.prog 18 #[.pointer (some ⟨g, 0, none⟩)] w (NewTo w g (fun k => k = g)) := by
  have hst := bk_new_st g w h
  have hb : Below w.heap.size w ((w.alloc (.map #[] 0)).alloc (.cells #[.func (Fn.func 38) #[.pointer (some ⟨g, 0, none⟩)] #[], .map (some w.heap.size), .int .i64 0, .slice none 0 0] 77)) := ((Below.refl _ _).alloc (Nat.le_refl _) _).alloc (by simp) _
  have H : Hid (NewTo w g (fun k => k = g) (.returned (.pointer (some ⟨w.heap.size + 1, 0, none⟩))) ((w.alloc (.map #[] 0)).alloc (.cells #[.func (Fn.func 38) #[.pointer (some ⟨g, 0, none⟩)] #[], .map (some w.heap.size), .int .i64 0, .slice none 0 0] 77))) := Lib.hid ⟨_, rfl, by omega, hb, hst⟩
  have hmm := @run_makeMap Tryz.prog
  have hz : ∀ W, (zeroValue 77).run Tryz.prog W = .ok (.agg #[.nilFunc, .map none, .int .i64 0, .slice none 0 0]) W := fun W => by kernel_rfl
  clear hst hb h
  go_enter Tryz.func18, Tryz.ntmps18
  go_wp2
  go_ret
  exact H.out
set_option maxHeartbeats 400000 in
theorem bk_new_nil (w : World) : Calls Tryz.prog 18 #[.pointer none] w fun e w' => e = .returned (.pointer none) ∧ w = w' := by
  go_enter Tryz.func18, Tryz.ntmps18
  go_wp2
  go_ret
  exact ⟨rfl, rfl⟩
/-! ### Len -/
set_option maxHeartbeats 400000 in
theorem bk_len (b g : Nat) (S : Nat → Prop) (T sh : List (List Nat)) (w : World) (h : IsBook w b g S T sh) : Calls Tryz.prog 114 #[.pointer (some ⟨b, 0, none⟩)] w fun e w' => e = .returned (.int .i64 (T.length : Int)) ∧ w = w' := by
  obtain ⟨bm, f, vs, h⟩ := h
  obtain ⟨c0, c1, c2, c3, cf⟩ := h.cells
  clear h
  go_enter Tryz.func114, Tryz.ntmps114
  go_wp2
  go_ret
  exact ⟨rfl, rfl⟩
set_option maxHeartbeats 400000 in
theorem bk_len_nil (w : World) : Calls Tryz.prog 114 #[.pointer none] w fun e w' => e = .returned (.int .i64 0) ∧ w = w' := by
  go_enter Tryz.func114, Tryz.ntmps114
  go_wp2
  go_ret
  exact ⟨rfl, rfl⟩
/-! ### Clash -/
/-! ### two texts -/
theorem own_join {w w' : World} {B : Nat} {v : Value} {l : List Nat} (h : Own w' B v l) (h2 : ∀ i, l.getD i 0 < 256) (hb : Below w.heap.size w w') : JoinTo w l (.returned v) w' := by
  have hn : ∀ A c, v = .slice A l.length c → A = none → c = 0 := fun A c e hA => by
    rcases h.2 with ⟨rfl, _⟩ | ⟨g, cap, cur, rfl, _⟩
    · injection e with _ _ e3; exact e3.symm
    · subst hA; cases e
  obtain ⟨A, c, rfl, hbs⟩ := h.bs h2
  exact ⟨A, c, rfl, hb, hbs, hn A c rfl⟩
def ClashTo (w : World) (x y : List Nat) (e : Ending) (w' : World) : Prop :=
  ∃ A c A2 c2, e = .returned (.tuple #[.slice A x.length c, .slice A2 y.length c2, .bool true]) ∧ Below w.heap.size w w' ∧ BS w' w'.heap.size A x.length c x ∧ BS w' w'.heap.size A2 y.length c2 y ∧ (A = none → c = 0) ∧ (A2 = none → c2 = 0)
end Go.Proofs.YtoclelpmampikaaGreat
