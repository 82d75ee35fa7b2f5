/-
  Package book: New, Len, Clash, Sum.
-/
import Derived.Test.YtogipflmnnmhiaaBkF
import Derived.Test.YtogipflmnnmhiaaShaQ
import Derived.Test.YtogipflmnnmhiaaEq
namespace Go.Proofs.Ytogipflmnnmhiaa
open Go.RowKit Go
set_option linter.unusedVariables false
set_option linter.unusedSimpArgs false
/-! ### New -/
def NewTo (w : World) (g : Nat) (S : Nat → Prop) (e : Ending) (w' : World) : Prop :=
  ∃ b, e = .returned (.pointer (some ⟨b, 0, none⟩)) ∧ w.heap.size ≤ b ∧ Below w.heap.size w w' ∧ IsBook w' b g (fun k => k = g ∨ (w.heap.size ≤ k ∧ k < w'.heap.size)) [] []
theorem bk_new_st (g : Nat) (w : World) (h : IsTab w g) :
    IsBook ((w.alloc (.map #[] 0)).alloc (.cells #[.func (Fn.func 48) #[.pointer (some ⟨g, 0, none⟩)] #[], .map (some w.heap.size), .int .i64 0, .slice none 0 0] 75)) (w.heap.size + 1) g (fun k => k = g ∨ (w.heap.size ≤ k ∧ k < ((w.alloc (.map #[] 0)).alloc (.cells #[.func (Fn.func 48) #[.pointer (some ⟨g, 0, none⟩)] #[], .map (some w.heap.size), .int .i64 0, .slice none 0 0] 75)).heap.size)) [] [] := by
  obtain ⟨w1, hw1⟩ : ∃ w1, w1 = w.alloc (.map #[] 0) := ⟨_, rfl⟩
  have hz1 : w1.heap.size = w.heap.size + 1 := by rw [hw1]; simp
  have hm : BM w1 w.heap.size 0 (fun _ => nilS) := by rw [hw1]; exact BM.new w
  have ht : IsTab w1 g := by rw [hw1]; exact Row.alloc h _
  rw [← hw1]
  obtain ⟨w2, hw2⟩ : ∃ w2, w2 = w1.alloc (.cells #[.func (Fn.func 48) #[.pointer (some ⟨g, 0, none⟩)] #[], .map (some w.heap.size), .int .i64 0, .slice none 0 0] 75) := ⟨_, rfl⟩
  rw [← hw2]
  have hz2 : w2.heap.size = w.heap.size + 2 := by rw [hw2]; simp [hz1]
  have hlt : g < w.heap.size := Row.lt h
  refine ⟨w.heap.size, fun _ => nilS, nilS, ⟨?_, by rw [hw2]; exact Row.alloc ht _, ?_, by simp, fun d _ => TR.nil _ _, fun d e _ _ _ => .inl rfl, TR.nil _ _, fun _ => rfl, fun d _ => .inl rfl, .inr ⟨by omega, by omega⟩, .inl rfl, .inr ⟨by omega, by omega⟩, fun k hk => ?_⟩⟩
  · have h9 := heap_alloc_new w1 (.cells #[.func (Fn.func 48) #[.pointer (some ⟨g, 0, none⟩)] #[], .map (some w.heap.size), .int .i64 0, .slice none 0 0] 75)
    rw [hz1, ← hw2] at h9
    exact h9
  · exact hm.keep (by rw [hw2]; exact Below.heap_alloc w1 _ _ (by omega))
  · rcases hk with hk | hk <;> omega
set_option maxHeartbeats 1000000 in
set_option maxRecDepth 100000 in
theorem bk_new (g : Nat) (w : World) (h : IsTab w g) : Calls Try.prog 25 #[.pointer (some ⟨g, 0, none⟩)] w (NewTo w g (fun k => k = g)) := by
  have hst := bk_new_st g w h
  have hb : Below w.heap.size w ((w.alloc (.map #[] 0)).alloc (.cells #[.func (Fn.func 48) #[.pointer (some ⟨g, 0, none⟩)] #[], .map (some w.heap.size), .int .i64 0, .slice none 0 0] 75)) := ((Below.refl _ _).alloc (Nat.le_refl _) _).alloc (by simp) _
  have H : Hid (NewTo w g (fun k => k = g) (.returned (.pointer (some ⟨w.heap.size + 1, 0, none⟩))) ((w.alloc (.map #[] 0)).alloc (.cells #[.func (Fn.func 48) #[.pointer (some ⟨g, 0, none⟩)] #[], .map (some w.heap.size), .int .i64 0, .slice none 0 0] 75))) := Lib.hid ⟨_, rfl, by omega, hb, hst⟩
  have hmm := @run_makeMap Try.prog
  have hz : ∀ W, (zeroValue 75).run Try.prog W = .ok (.agg #[.nilFunc, .map none, .int .i64 0, .slice none 0 0]) W := fun W => by kernel_rfl
  clear hst hb h
  go_enter Try.func25, Try.ntmps25
  go_wp2
  go_ret
  exact H.out
set_option maxHeartbeats 400000 in
theorem bk_new_nil (w : World) : Calls Try.prog 25 #[.pointer none] w fun e w' => e = .returned (.pointer none) ∧ w = w' := by
  go_enter Try.func25, Try.ntmps25
  go_wp2
  go_ret
  exact ⟨rfl, rfl⟩
/-! ### Len -/
set_option maxHeartbeats 400000 in
theorem bk_len (b g : Nat) (S : Nat → Prop) (T sh : List (List Nat)) (w : World) (h : IsBook w b g S T sh) : Calls Try.prog 115 #[.pointer (some ⟨b, 0, none⟩)] w fun e w' => e = .returned (.int .i64 (T.length : Int)) ∧ w = w' := by
  obtain ⟨bm, f, vs, h⟩ := h
  obtain ⟨c0, c1, c2, c3, cf⟩ := h.cells
  clear h
  go_enter Try.func115, Try.ntmps115
  go_wp2
  go_ret
  exact ⟨rfl, rfl⟩
set_option maxHeartbeats 400000 in
theorem bk_len_nil (w : World) : Calls Try.prog 115 #[.pointer none] w fun e w' => e = .returned (.int .i64 0) ∧ w = w' := by
  go_enter Try.func115, Try.ntmps115
  go_wp2
  go_ret
  exact ⟨rfl, rfl⟩
/-! ### Clash -/
set_option maxHeartbeats 1000000 in
theorem bk_clash_nil (w : World) : Calls Try.prog 19 #[.pointer none] w fun e w' => e = .returned (.tuple #[.slice none 0 0, .slice none 0 0, .bool false]) ∧ w = w' := by
  go_enter Try.func19, Try.ntmps19
  go_wp2
  exact bodyPost_ret (v := .tuple #[.slice none 0 0, .slice none 0 0, .bool false]) (by simp [results, Try.results19, go_sem]) rfl ⟨rfl, rfl⟩
set_option maxHeartbeats 1000000 in
theorem bk_clash_no (b g : Nat) (S : Nat → Prop) (T : List (List Nat)) (w : World) (h : IsBook w b g S T []) : Calls Try.prog 19 #[.pointer (some ⟨b, 0, none⟩)] w fun e w' => e = .returned (.tuple #[.slice none 0 0, .slice none 0 0, .bool false]) ∧ w = w' := by
  obtain ⟨bm, f, vs, h⟩ := h
  obtain ⟨c0, c1, c2, c3, cf⟩ := h.cells
  obtain rfl := h.shown0 rfl
  unfold nilS at c3
  have hq := bk_eql_row
  clear h
  go_enter Try.func19, Try.ntmps19
  go_wp2
  exact bodyPost_ret (v := .tuple #[.slice none 0 0, .slice none 0 0, .bool false]) (by simp [results, Try.results19, go_sem]) rfl ⟨rfl, rfl⟩
/-! ### two texts -/
theorem own_join {w w' : World} {B : Nat} {v : Value} {l : List Nat} (h : Own w' B v l) (h2 : ∀ i, l.getD i 0 < 256) (hb : Below w.heap.size w w') : JoinTo w l (.returned v) w' := by
  have hn : ∀ A c, v = .slice A l.length c → A = none → c = 0 := fun A c e hA => by
    rcases h.2 with ⟨rfl, _⟩ | ⟨g, cap, cur, rfl, _⟩
    · injection e with _ _ e3; exact e3.symm
    · subst hA; cases e
  obtain ⟨A, c, rfl, hbs⟩ := h.bs h2
  exact ⟨A, c, rfl, hb, hbs, hn A c rfl⟩
set_option maxHeartbeats 400000 in
theorem bk_clone2 (A : Option Addr) (n c : Nat) (l : List Nat) (w : World) (hs : BS w w.heap.size A n c l) (hn : n ≤ 1000000) :
    Calls Try.prog 37 #[.slice A n c] w (JoinTo w l) := by
  have hlen := hs.len
  have hby := hs.byte
  have hq := bk_eql_nil
  rcases A with _ | ad
  · have hl : l = [] := by
      rcases Nat.eq_zero_or_pos n with h0 | h0
      · exact List.eq_nil_of_length_eq_zero (by omega)
      · obtain ⟨b, o, e, _⟩ := hs.at_ h0; cases e
    subst hl
    have HG : JoinTo w [] (.returned (.slice none 0 0)) w := ⟨none, 0, rfl, Below.refl _ _, BS.nil _ _, fun _ => rfl⟩
    have H := Lib.hid HG
    clear HG hs hlen hby
    go_enter Try.func37, Try.ntmps37
    go_wp2
    go_ret
    exact H.out
  · have HS := Lib.hid hs
    have HL := Lib.hid hlen
    have HBY := Lib.hid hby
    clear hs hlen hby
    go_enter Try.func37, Try.ntmps37
    go_wp2_with (at_builtin; refine bk_app_all _ rfl _ _ rfl ad n c l rfl rfl HS.out (by omega) ?_; intro v' w1 hown1 hb1)
    have H := Lib.hid (own_join hown1 HBY.out hb1)
    clear hown1 hb1
    go_ret
    exact H.out
def ClashTo (w : World) (x y : List Nat) (e : Ending) (w' : World) : Prop :=
  ∃ A c A2 c2, e = .returned (.tuple #[.slice A x.length c, .slice A2 y.length c2, .bool true]) ∧ Below w.heap.size w w' ∧ BS w' w'.heap.size A x.length c x ∧ BS w' w'.heap.size A2 y.length c2 y ∧ (A = none → c = 0) ∧ (A2 = none → c2 = 0)
set_option maxHeartbeats 2000000 in
set_option maxRecDepth 100000 in
theorem bk_clash_yes (b g : Nat) (S : Nat → Prop) (T : List (List Nat)) (x y : List Nat) (u : World) (h : IsBook u b g S T [x, y]) (hx9 : x.length ≤ 1000000) (hy9 : y.length ≤ 1000000) : Calls Try.prog 19 #[.pointer (some ⟨b, 0, none⟩)] u (ClashTo u x y) := by
  obtain ⟨bm, f, vs, h⟩ := h
  obtain ⟨c0, c1, c2, c3, cf⟩ := h.cells
  have hbl := h.sub b h.sb
  obtain ⟨gs, cap, rfl, hcap, hgs, hat⟩ := h.shown.at_ (by simp)
  obtain ⟨X, x1, x2⟩ := hat 0 (by simp)
  obtain ⟨Y, y1, y2⟩ := hat 1 (by simp)
  obtain ⟨AX, cX, rfl, hX⟩ := x2.bs
  obtain ⟨AY, cY, rfl, hY⟩ := y2.bs
  have ex : ([x, y] : List (List Nat)).getD 0 [] = x := rfl
  have ey : ([x, y] : List (List Nat)).getD 1 [] = y := rfl
  rw [ex] at x1 hX
  rw [ey] at y1 hY
  have hq := bk_eql_row
  have HX := Lib.hid hX
  have HY := Lib.hid hY
  have KS : Hid (∀ W, After u W → W.cell? ⟨b, 3, none⟩ = some (.slice (some ⟨gs, 0, none⟩) 2 cap) ∧ W.cell? ⟨gs, 0, none⟩ = some (.slice AX x.length cX) ∧ W.cell? ⟨gs, 1, none⟩ = some (.slice AY y.length cY) ∧ After u W) := Lib.hid fun W hW => ⟨(Below.cell hW (p := ⟨b, 3, none⟩) hbl).trans c3, (Below.cell hW (p := ⟨gs, 0, none⟩) hgs).trans x1, (Below.cell hW (p := ⟨gs, 1, none⟩) hgs).trans y1, hW⟩
  have c3' : u.cell? ⟨b, 3, none⟩ = some (.slice (some ⟨gs, 0, none⟩) 2 cap) := c3
  obtain ⟨m, hm⟩ : ∃ m, m = x.length := ⟨_, rfl⟩
  obtain ⟨k, hk⟩ : ∃ k, k = y.length := ⟨_, rfl⟩
  have HPOST : Hid (∀ A c A2 c2 W, After u W → BS W W.heap.size A m c x → BS W W.heap.size A2 k c2 y → (A = none → c = 0) → (A2 = none → c2 = 0) → ClashTo u x y (.returned (.tuple #[.slice A m c, .slice A2 k c2, .bool true])) W) := Lib.hid fun A c A2 c2 W q1 q2 q3 q4 q5 => ⟨A, c, A2, c2, by rw [hm, hk], q1, by rw [← hm]; exact q2, by rw [← hk]; exact q3, q4, q5⟩
  rw [← hm] at HX KS hx9
  rw [← hk] at HY KS hy9
  have HM := Lib.hid hm
  have HK := Lib.hid hk
  clear c3 x1 x2 y1 y2 hX hY h hat ex ey hm hk c0 c1 c2
  go_enter Try.func19, Try.ntmps19
  go_wp2_with fail
  refine wp_region_F (S := (fun w' => w'.cell? ⟨b, 3, none⟩ = some (.slice (some ⟨gs, 0, none⟩) 2 cap) ∧ w'.cell? ⟨gs, 0, none⟩ = some (.slice AX m cX) ∧ w'.cell? ⟨gs, 1, none⟩ = some (.slice AY k cY) ∧ After u w')) [] (by kernel_rfl) (KS.out _ (After.drew u)) (fun hHeld => ?_)
  refine wpAnyF_take (i := 0) (oi := _) (v := ?_) rfl (by kernel_rfl) (by kernel_rfl) (by kernel_rfl) (by kernel_rfl) (fun _ _ _ h => h) (Or.inl ⟨by rfl, ?_⟩) (by assumption) ?_
  rotate_left 1
  · intro w hSw
    (try dsimp only at hSw)
    (first | (go_simp; done) | (go_simp; with_reducible rfl))
  (try simp only [Act.put, List.getElem_toArray, List.getElem_cons_succ, List.getElem_cons_zero, List.setIfInBounds_toArray, List.set_cons_zero, List.set_cons_succ])
  refine wpAnyF_take (i := 1) (oi := _) (v := ?_) rfl (by kernel_rfl) (by kernel_rfl) (by kernel_rfl) (by kernel_rfl) (fun _ _ _ h => h) (Or.inl ⟨by rfl, ?_⟩) (by assumption) ?_
  rotate_left 1
  · intro w hSw
    (try dsimp only at hSw)
    (first | (go_simp; done) | (go_simp; with_reducible rfl))
  (try simp only [Act.put, List.getElem_toArray, List.getElem_cons_succ, List.getElem_cons_zero, List.setIfInBounds_toArray, List.set_cons_zero, List.set_cons_succ])
  refine wpAnyF_take (i := 2) (oi := _) (v := ?_) rfl (by kernel_rfl) (by kernel_rfl) (by kernel_rfl) (by kernel_rfl) (fun _ _ _ h => h) (Or.inl ⟨by rfl, ?_⟩) (by assumption) ?_
  rotate_left 1
  · intro w hSw
    (try dsimp only at hSw)
    (first | (go_simp; done) | (go_simp; with_reducible rfl))
  (try simp only [Act.put, List.getElem_toArray, List.getElem_cons_succ, List.getElem_cons_zero, List.setIfInBounds_toArray, List.set_cons_zero, List.set_cons_succ])
  refine wpAnyF_take (i := 3) (oi := _) (v := ?_) rfl (by kernel_rfl) (by kernel_rfl) (by kernel_rfl) (by kernel_rfl) (fun _ _ _ h => h) (Or.inl ⟨by rfl, ?_⟩) (by assumption) ?_
  rotate_left 1
  · intro w hSw
    (try dsimp only at hSw)
    (first | (go_simp; done) | (go_simp; with_reducible rfl))
  (try simp only [Act.put, List.getElem_toArray, List.getElem_cons_succ, List.getElem_cons_zero, List.setIfInBounds_toArray, List.set_cons_zero, List.set_cons_succ])
  refine wpAnyF_take (i := 4) (oi := _) (v := ?_) rfl (by kernel_rfl) (by kernel_rfl) (by kernel_rfl) (by kernel_rfl) (fun _ _ _ h => h) (Or.inl ⟨by rfl, ?_⟩) (by assumption) ?_
  rotate_left 1
  · intro w hSw
    (try dsimp only at hSw)
    (first | (go_simp; done) | (go_simp; with_reducible rfl))
  (try simp only [Act.put, List.getElem_toArray, List.getElem_cons_succ, List.getElem_cons_zero, List.setIfInBounds_toArray, List.set_cons_zero, List.set_cons_succ])
  refine wpAnyF_take (i := 5) (oi := _) (v := ?_) rfl (by kernel_rfl) (by kernel_rfl) (by kernel_rfl) (by kernel_rfl) (fun _ _ _ h => h) (Or.inl ⟨by rfl, ?_⟩) (by assumption) ?_
  rotate_left 1
  · intro w hSw
    (try dsimp only at hSw)
    (first | (go_simp; done) | (go_simp; with_reducible rfl))
  (try simp only [Act.put, List.getElem_toArray, List.getElem_cons_succ, List.getElem_cons_zero, List.setIfInBounds_toArray, List.set_cons_zero, List.set_cons_succ])
  refine wpAnyF_take (i := 7) (oi := _) (v := ?_) rfl (by kernel_rfl) (by kernel_rfl) (by kernel_rfl) (by kernel_rfl) (fun _ _ _ h => h) (Or.inl ⟨by rfl, ?_⟩) (by assumption) ?_
  rotate_left 1
  · intro w hSw
    (try dsimp only at hSw)
    (first | (go_simp; done) | (go_simp; with_reducible rfl))
  (try simp only [Act.put, List.getElem_toArray, List.getElem_cons_succ, List.getElem_cons_zero, List.setIfInBounds_toArray, List.set_cons_zero, List.set_cons_succ])
  refine wpAnyF_take (i := 8) (oi := _) (v := ?_) rfl (by kernel_rfl) (by kernel_rfl) (by kernel_rfl) (by kernel_rfl) (fun _ _ _ h => h) (Or.inl ⟨by rfl, ?_⟩) (by assumption) ?_
  rotate_left 1
  · intro w hSw
    (try dsimp only at hSw)
    (first | (go_simp; done) | (go_simp; with_reducible rfl))
  (try simp only [Act.put, List.getElem_toArray, List.getElem_cons_succ, List.getElem_cons_zero, List.setIfInBounds_toArray, List.set_cons_zero, List.set_cons_succ])
  refine wpAnyF_take (i := 9) (oi := _) (v := ?_) rfl (by kernel_rfl) (by kernel_rfl) (by kernel_rfl) (by kernel_rfl) (fun _ _ _ h => h) (Or.inl ⟨by rfl, ?_⟩) (by assumption) ?_
  rotate_left 1
  · intro w hSw
    (try dsimp only at hSw)
    (first | (go_simp; done) | (go_simp; with_reducible rfl))
  (try simp only [Act.put, List.getElem_toArray, List.getElem_cons_succ, List.getElem_cons_zero, List.setIfInBounds_toArray, List.set_cons_zero, List.set_cons_succ])
  refine wpAnyF_take (i := 10) (oi := _) (v := ?_) rfl (by kernel_rfl) (by kernel_rfl) (by kernel_rfl) (by kernel_rfl) (fun _ _ _ h => h) (Or.inl ⟨by rfl, ?_⟩) (by assumption) ?_
  rotate_left 1
  · intro w hSw
    (try dsimp only at hSw)
    (first | (go_simp; done) | (go_simp; with_reducible rfl))
  (try simp only [Act.put, List.getElem_toArray, List.getElem_cons_succ, List.getElem_cons_zero, List.setIfInBounds_toArray, List.set_cons_zero, List.set_cons_succ])
  refine wpAnyF_take (i := 11) (oi := _) (v := ?_) rfl (by kernel_rfl) (by kernel_rfl) (by kernel_rfl) (by kernel_rfl) (fun _ _ _ h => h) (Or.inl ⟨by rfl, ?_⟩) (by assumption) ?_
  rotate_left 1
  · intro w hSw
    (try dsimp only at hSw)
    (first | (go_simp; done) | (go_simp; with_reducible rfl))
  (try simp only [Act.put, List.getElem_toArray, List.getElem_cons_succ, List.getElem_cons_zero, List.setIfInBounds_toArray, List.set_cons_zero, List.set_cons_succ])
  refine wpAnyF_take (i := 12) (oi := _) (v := ?_) rfl (by kernel_rfl) (by kernel_rfl) (by kernel_rfl) (by kernel_rfl) (fun _ _ _ h => h) (Or.inl ⟨by rfl, ?_⟩) (by assumption) ?_
  rotate_left 1
  · intro w hSw
    (try dsimp only at hSw)
    (first | (go_simp; done) | (go_simp; with_reducible rfl))
  (try simp only [Act.put, List.getElem_toArray, List.getElem_cons_succ, List.getElem_cons_zero, List.setIfInBounds_toArray, List.set_cons_zero, List.set_cons_succ])
  refine wpAnyF_ready (rs := [6]) (by kernel_rfl) (by simp) ?_
  refine AllReadyF.cons (o := _) rfl (fun K hK => ?_) AllReadyF.nil
  go_simp
  (go_at_call 37)
  refine (bk_clone2 AX m cX x _ ((HX.out.below (After.drew u)).more (Below.size (After.drew u))) hx9).mono ?_
  rintro e w1 ⟨A1, d1, rfl, hb1, hs1, hz1⟩
  rw [← HM.out] at hs1
  rw [← HM.out]
  have HA1 : Hid (After u w1) := Lib.hid ((After.drew u).next hb1)
  have HS1 := Lib.hid hs1
  have HZ1 := Lib.hid hz1
  clear hb1 hs1 hz1
  refine hK.out _ _ (KS.out _ HA1.out) (fun hHeld6 => ?_)
  clear hK K
  (try simp only [Act.put, List.getElem_toArray, List.getElem_cons_succ, List.getElem_cons_zero, List.setIfInBounds_toArray, List.set_cons_zero, List.set_cons_succ])
  refine wpAnyF_ready (rs := [13]) (by kernel_rfl) (by simp) ?_
  refine AllReadyF.cons (o := _) rfl (fun K hK => ?_) AllReadyF.nil
  go_simp
  (go_at_call 37)
  refine (bk_clone2 AY k cY y _ ((HY.out.below HA1.out).more (Below.size HA1.out)) hy9).mono ?_
  rintro e w2 ⟨A2, d2, rfl, hb2, hs2, hz2⟩
  rw [← HK.out] at hs2
  rw [← HK.out]
  have HA2 : Hid (After u w2) := Lib.hid (HA1.out.next hb2)
  have HF := Lib.hid (HPOST.out A1 d1 A2 d2 w2 HA2.out ((HS1.out.below hb2).more hb2.size) hs2 HZ1.out hz2)
  clear hb2 hs2 hz2
  refine hK.out _ _ (KS.out _ HA2.out) (fun hHeld13 => ?_)
  clear hK K
  (try simp only [Act.put, List.getElem_toArray, List.getElem_cons_succ, List.getElem_cons_zero, List.setIfInBounds_toArray, List.set_cons_zero, List.set_cons_succ])
  refine wpAnyF_take (i := 14) (oi := _) (v := ?_) rfl (by kernel_rfl) (by kernel_rfl) (by kernel_rfl) (by kernel_rfl) (fun _ _ _ h => h) (Or.inl ⟨by rfl, ?_⟩) (by assumption) ?_
  rotate_left 1
  · intro w hSw
    (try dsimp only at hSw)
    (first | (go_simp; done) | (go_simp; with_reducible rfl))
  (try simp only [Act.put, List.getElem_toArray, List.getElem_cons_succ, List.getElem_cons_zero, List.setIfInBounds_toArray, List.set_cons_zero, List.set_cons_succ])
  refine wpAnyF_take (i := 15) (oi := _) (v := ?_) rfl (by kernel_rfl) (by kernel_rfl) (by kernel_rfl) (by kernel_rfl) (fun _ _ _ h => h) (Or.inl ⟨by rfl, ?_⟩) (by assumption) ?_
  rotate_left 1
  · intro w hSw
    (try dsimp only at hSw)
    (first | (go_simp; done) | (go_simp; with_reducible rfl))
  (try simp only [Act.put, List.getElem_toArray, List.getElem_cons_succ, List.getElem_cons_zero, List.setIfInBounds_toArray, List.set_cons_zero, List.set_cons_succ])
  refine wpAnyF_take (i := 16) (oi := _) (v := ?_) rfl (by kernel_rfl) (by kernel_rfl) (by kernel_rfl) (by kernel_rfl) (fun _ _ _ h => h) (Or.inl ⟨by rfl, ?_⟩) (by assumption) ?_
  rotate_left 1
  · intro w hSw
    (try dsimp only at hSw)
    (first | (go_simp; done) | (go_simp; with_reducible rfl))
  (try simp only [Act.put, List.getElem_toArray, List.getElem_cons_succ, List.getElem_cons_zero, List.setIfInBounds_toArray, List.set_cons_zero, List.set_cons_succ])
  refine wpAnyF_done (by kernel_rfl) ?_ _
  clear hHeld hHeld6 hHeld13
  go_wp2
  exact bodyPost_ret (v := .tuple #[.slice A1 m d1, .slice A2 k d2, .bool true]) (by simp [results, Try.results19, go_sem]) rfl HF.out
end Go.Proofs.Ytogipflmnnmhiaa
