/-
  A queue: Swap, Push and Pop of its row.
-/
import Derived.Test.YtoioflbgmofgfabPrB
import Derived.RegionTactic
import Derived.ChangeAlike
import Derived.BigRegion
namespace Go.Proofs.Ytoioflbgmofgfab
open Go.RowKit Go
set_option linter.unusedVariables false
set_option linter.unusedSimpArgs false
set_option maxHeartbeats 2000000 in
set_option maxRecDepth 100000 in
theorem rowswap_1 (g i j b cap n : Nat) (x y : En) (w : World) (k1 : LS g b n cap i j x y w) (ht1 : w.there b (i * 3) 3) (ht2 : w.there b (j * 3) 3) (hi : i < n) (hj : j < n) (hm : n ≤ 1000000000) (h : i < j) :
    Calls Try.prog 69 #[.pointer (some ⟨g, 0, none⟩), .int .i64 (i : Int), .int .i64 (j : Int)] w fun e w' => e = .returned (.tuple #[]) ∧ w' = ((w.setCells b (i * 3) y.cells).setCells b (j * 3) x.cells).drew := by
  obtain ⟨l, i0, i1, i2, j0, j1, j2⟩ := k1
  have f0 : w.frozen? ⟨b, i * 3, none⟩ = false := (ht1 0 (by omega)).2
  have f1 : w.frozen? ⟨b, i * 3 + 1, none⟩ = false := (ht1 1 (by omega)).2
  have f2 : w.frozen? ⟨b, i * 3 + 2, none⟩ = false := (ht1 2 (by omega)).2
  have g0 : w.frozen? ⟨b, j * 3, none⟩ = false := (ht2 0 (by omega)).2
  have g1 : w.frozen? ⟨b, j * 3 + 1, none⟩ = false := (ht2 1 (by omega)).2
  have g2 : w.frozen? ⟨b, j * 3 + 2, none⟩ = false := (ht2 2 (by omega)).2
  clear ht1 ht2
  go_enter Try.func69, Try.ntmps69
  go_wp2_with fail
  go_region
  all_goals (go_wp2; go_end0; exact ⟨rfl, rfl⟩)
set_option maxHeartbeats 2000000 in
set_option maxRecDepth 100000 in
theorem rowswap_2 (g i j b cap n : Nat) (x y : En) (w : World) (k1 : LS g b n cap i j x y w) (ht1 : w.there b (i * 3) 3) (ht2 : w.there b (j * 3) 3) (hi : i < n) (hj : j < n) (hm : n ≤ 1000000000) (h : j < i) :
    Calls Try.prog 69 #[.pointer (some ⟨g, 0, none⟩), .int .i64 (i : Int), .int .i64 (j : Int)] w fun e w' => e = .returned (.tuple #[]) ∧ w' = ((w.setCells b (i * 3) y.cells).setCells b (j * 3) x.cells).drew := by
  obtain ⟨l, i0, i1, i2, j0, j1, j2⟩ := k1
  have f0 : w.frozen? ⟨b, i * 3, none⟩ = false := (ht1 0 (by omega)).2
  have f1 : w.frozen? ⟨b, i * 3 + 1, none⟩ = false := (ht1 1 (by omega)).2
  have f2 : w.frozen? ⟨b, i * 3 + 2, none⟩ = false := (ht1 2 (by omega)).2
  have g0 : w.frozen? ⟨b, j * 3, none⟩ = false := (ht2 0 (by omega)).2
  have g1 : w.frozen? ⟨b, j * 3 + 1, none⟩ = false := (ht2 1 (by omega)).2
  have g2 : w.frozen? ⟨b, j * 3 + 2, none⟩ = false := (ht2 2 (by omega)).2
  clear ht1 ht2
  go_enter Try.func69, Try.ntmps69
  go_wp2_with fail
  go_region
  all_goals (go_wp2; go_end0; exact ⟨rfl, rfl⟩)
set_option maxHeartbeats 2000000 in
set_option maxRecDepth 100000 in
theorem rowswap_3 (g i b cap n : Nat) (x : En) (w : World) (k1 : LS g b n cap i i x x w) (ht1 : w.there b (i * 3) 3) (ht2 : w.there b (i * 3) 3) (hi : i < n) (hj : i < n) (hm : n ≤ 1000000000) :
    Calls Try.prog 69 #[.pointer (some ⟨g, 0, none⟩), .int .i64 (i : Int), .int .i64 (i : Int)] w fun e w' => e = .returned (.tuple #[]) ∧ w' = ((w.setCells b (i * 3) x.cells).setCells b (i * 3) x.cells).drew := by
  obtain ⟨l, i0, i1, i2, j0, j1, j2⟩ := k1
  have f0 : w.frozen? ⟨b, i * 3, none⟩ = false := (ht1 0 (by omega)).2
  have f1 : w.frozen? ⟨b, i * 3 + 1, none⟩ = false := (ht1 1 (by omega)).2
  have f2 : w.frozen? ⟨b, i * 3 + 2, none⟩ = false := (ht1 2 (by omega)).2
  have g0 : w.frozen? ⟨b, i * 3, none⟩ = false := (ht2 0 (by omega)).2
  have g1 : w.frozen? ⟨b, i * 3 + 1, none⟩ = false := (ht2 1 (by omega)).2
  have g2 : w.frozen? ⟨b, i * 3 + 2, none⟩ = false := (ht2 2 (by omega)).2
  clear ht1 ht2
  go_enter Try.func69, Try.ntmps69
  go_wp2_with fail
  go_region
  all_goals (go_wp2; go_end0; exact ⟨rfl, rfl⟩)
theorem Qu.ls {W : World} {g t b n cap : Nat} {es : List En} (h : Qu W g (.slice (some ⟨b, 0, none⟩) n cap) es t) {i j : Nat} (hi : i < es.length) (hj : j < es.length) : LS g b n cap i j (ea es i) (ea es j) W := by
  have a := h.own.at_ hi
  have c := h.own.at_ hj
  exact ⟨h.dev.l, a.c0, a.c1, a.c2, c.c0, c.c1, c.c2⟩
theorem Qu.pos {W : World} {g t : Nat} {v : Value} {es : List En} (h : Qu W g v es t) (hl : 0 < es.length) : ∃ b cap, v = .slice (some ⟨b, 0, none⟩) es.length cap ∧ g < b := by
  obtain ⟨A, c, rfl, _, _, h1, h2⟩ := h.own.form
  rcases A with _ | ad
  · have := h2 rfl; subst this; simp at hl
  · have e := h1 ad rfl
    refine ⟨ad.block, c, by rw [e], ?_⟩
    have := (h.own.lt ad.block (by rfl)).1
    omega
theorem Qu.swapped {W : World} {g t b n cap : Nat} {es : List En} (h : Qu W g (.slice (some ⟨b, 0, none⟩) n cap) es t) {i j : Nat} (hi : i < es.length) (hj : j < es.length) :
    Qu (((W.setCells b (i * 3) (ea es j).cells).setCells b (j * 3) (ea es i).cells).drew) g (.slice (some ⟨b, 0, none⟩) n cap) (sw es i j) t := by
  have hb : g ≠ b := by
    have := (h.own.lt b (by rfl)).1
    omega
  have h1 := (h.own.put hi (ea es j)).put (i := j) (by rw [List.length_set]; exact hj) (ea es i)
  have e1 := heap_setCells b (ea es i).cells (j * 3) (W.setCells b (i * 3) (ea es j).cells) g hb
  have e2 := heap_setCells b (ea es j).cells (i * 3) W g hb
  have h2 : QuB ((W.setCells b (i * 3) (ea es j).cells).setCells b (j * 3) (ea es i).cells) g (.slice (some ⟨b, 0, none⟩) n cap) t := (e1.trans e2).trans h.dev
  generalize (W.setCells b (i * 3) (ea es j).cells).setCells b (j * 3) (ea es i).cells = V at *
  exact ⟨h2, World.ownsRow.drew h1⟩
theorem turns_swap {W : World} {b : Nat} {S : Nat → Prop} (hS : S b) (o o' : Nat) (l l' : List Value) : Turns S W (((W.setCells b o l).setCells b o' l').drew) :=
  ⟨(os_setCells b l' o' _).trans (os_setCells b l o _), (tape_setCells b l' o' _).trans (tape_setCells b l o _), (output_setCells b l' o' _).trans (output_setCells b l o _), Nat.le_of_eq ((size_setCells b l' o' _).trans (size_setCells b l o _)).symm,
   fun j _ hn => (heap_setCells b l' o' _ j (fun e => hn (e ▸ hS))).trans (heap_setCells b l o _ j (fun e => hn (e ▸ hS)))⟩
/-- Swap of a queue's row -/
theorem swapq_any (g i j t : Nat) (v : Value) (es : List En) (w : World) (h : Qu w g v es t) (hi : i < es.length) (hj : j < es.length) (hm : es.length ≤ 1000000000) :
    Calls Try.prog 69 #[.pointer (some ⟨g, 0, none⟩), .int .i64 (i : Int), .int .i64 (j : Int)] w fun e w' => e = .returned (.tuple #[]) ∧ Qu w' g v (sw es i j) t ∧ Turns (fun k => v.ownBlock = some k) w w' := by
  obtain ⟨b, cap, rfl, hb⟩ := h.pos (by omega)
  have hc : Calls Try.prog 69 #[.pointer (some ⟨g, 0, none⟩), .int .i64 (i : Int), .int .i64 (j : Int)] w fun e w' => e = .returned (.tuple #[]) ∧ w' = ((w.setCells b (i * 3) (ea es j).cells).setCells b (j * 3) (ea es i).cells).drew := by
    rcases Nat.lt_trichotomy i j with q | q | q
    · exact rowswap_1 g i j b cap es.length (ea es i) (ea es j) w (h.ls hi hj) (h.own.at_ hi).there (h.own.at_ hj).there hi hj hm q
    · subst q
      exact rowswap_3 g i b cap es.length (ea es i) w (h.ls hi hj) (h.own.at_ hi).there (h.own.at_ hj).there hi hj hm
    · exact rowswap_2 g i j b cap es.length (ea es i) (ea es j) w (h.ls hi hj) (h.own.at_ hi).there (h.own.at_ hj).there hi hj hm q
  refine hc.mono ?_
  rintro e w' ⟨he, rfl⟩
  exact ⟨he, h.swapped hi hj, turns_swap (b := b) (S := fun k => (Value.slice (some ⟨b, 0, none⟩) es.length cap).ownBlock = some k) (by rfl) _ _ _ _⟩
theorem lessq_any (g i j t : Nat) (v : Value) (es : List En) (w : World) (h : Qu w g v es t) (hi : i < es.length) (hj : j < es.length) (hm : es.length ≤ 1000000000) :
    Calls Try.prog 66 #[.pointer (some ⟨g, 0, none⟩), .int .i64 (i : Int), .int .i64 (j : Int)] w fun e w' => e = .returned (.bool (enLt (ea es i) (ea es j))) ∧ Below w.heap.size w w' := by
  obtain ⟨b, cap, rfl, hb⟩ := h.pos (by omega)
  exact rowless_any g i j b cap es.length (ea es i) (ea es j) w (h.ls hi hj) h.dev.less hi hj hm
theorem lenq_any (g t : Nat) (v : Value) (es : List En) (w : World) (h : Qu w g v es t) :
    Calls Try.prog 37 #[.pointer (some ⟨g, 0, none⟩)] w fun e w' => e = .returned (.int .i64 (es.length : Int)) ∧ w = w' := by
  obtain ⟨A, c, rfl, _⟩ := h.own.form
  exact rowlen_any g es.length c A w h.dev.l
/-- an entry is put behind -/
theorem Qu.down {W W' : World} {g t : Nat} {v v' : Value} {es : List En} {e : En} (h : Qu W g v es t) (hg : W.grownBy W' v.ownBlock) (ho : W'.ownsRow (g + 1) EnT 3 v' (es.length + 1) (flat es ++ e.cells)) :
    Qu (W'.setCell ⟨g, 1, none⟩ v') g v' (es ++ [e]) t := by
  have hd : QuB W' g v t := (hg.block g h.dev.lt (fun q => by have := (h.own.lt g q.symm).1; omega)).trans h.dev
  refine ⟨?_, ?_⟩
  · have := blk_set hd 1 v'
    unfold QuB
    rw [this]; rfl
  · obtain ⟨h1, h2⟩ := ho
    have ef : flat (es ++ [e]) = flat es ++ e.cells := by simp [flat]
    unfold EntB
    rw [ef, List.length_append]
    refine ⟨h1, ?_⟩
    rcases h2 with h2 | ⟨b, cap, cur, hv, hbg, hh, hr⟩
    · exact .inl h2
    · exact .inr ⟨b, cap, cur, hv, hbg, (Below.heap_setCell _ _ _ _ (by show b ≠ g; omega)).trans hh, hr⟩
theorem assert_en (x : En) (w : World) : (Instr.typeAssert (.iface EnT (.agg x.cells.toArray)) 20 EnT false).run Try.prog w = .ok (.agg x.cells.toArray) w := by kernel_rfl
set_option maxHeartbeats 2000000 in
set_option maxRecDepth 100000 in
theorem rowpush_any (g t : Nat) (v : Value) (es : List En) (x : En) (w : World) (h : Qu w g v es t) (hm : es.length ≤ 1000000000) :
    Calls Try.prog 68 #[.pointer (some ⟨g, 0, none⟩), .iface EnT (.agg x.cells.toArray)] w fun e w' => e = .returned (.tuple #[]) ∧ Qed w g v (es ++ [x]) t w' := by
  have HD := Lib.hid h
  have k1 := h.dev.l
  have hgl := h.dev.lt
  have HAV := Lib.hid h.own.lt
  have hta := assert_en x
  obtain ⟨i0, hi0, hz0, hz1, hz2⟩ := info_parts zero_en
  clear h
  go_enter Try.func68, Try.ntmps68
  go_wp2_with fail
  refine wp_region_F (S := (fun W => W.cell? ⟨g, 1, none⟩ = some v)) [11] (by kernel_rfl) (k1) (fun hHeld => ?_)
  refine wpAnyF_take (i := 0) (oi := _) (v := ?_) rfl (by kernel_rfl) (by kernel_rfl) (by kernel_rfl) (by kernel_rfl) (fun _ _ _ h => h) (Or.inl ⟨by rfl, ?_⟩) (by assumption) ?_
  rotate_left 1
  · intro w hSw
    (try dsimp only at hSw)
    (first | (go_simp; done) | (go_simp; with_reducible rfl))
  (try simp only [Act.put, List.getElem_toArray, List.getElem_cons_succ, List.getElem_cons_zero, List.setIfInBounds_toArray, List.set_cons_zero, List.set_cons_succ])
  refine wpAnyF_take (i := 1) (oi := _) (v := ?_) rfl (by kernel_rfl) (by kernel_rfl) (by kernel_rfl) (by kernel_rfl) (fun _ _ _ h => h) (Or.inl ⟨by rfl, ?_⟩) (by assumption) ?_
  rotate_left 1
  · intro w hSw
    (try dsimp only at hSw)
    (first | (go_simp; done) | (go_simp; with_reducible rfl))
  (try simp only [Act.put, List.getElem_toArray, List.getElem_cons_succ, List.getElem_cons_zero, List.setIfInBounds_toArray, List.set_cons_zero, List.set_cons_succ])
  refine wpAnyF_take (i := 2) (oi := _) (v := ?_) rfl (by kernel_rfl) (by kernel_rfl) (by kernel_rfl) (by kernel_rfl) (fun _ _ _ h => h) (Or.inl ⟨by rfl, ?_⟩) (by assumption) ?_
  rotate_left 1
  · intro w hSw
    (try dsimp only at hSw)
    (first | (go_simp; done) | (go_simp; with_reducible rfl))
  (try simp only [Act.put, List.getElem_toArray, List.getElem_cons_succ, List.getElem_cons_zero, List.setIfInBounds_toArray, List.set_cons_zero, List.set_cons_succ])
  refine wpAnyF_take (i := 3) (oi := _) (v := ?_) rfl (by kernel_rfl) (by kernel_rfl) (by kernel_rfl) (by kernel_rfl) (fun _ _ _ h => h) (Or.inl ⟨by rfl, ?_⟩) (by assumption) ?_
  rotate_left 1
  · intro w hSw
    (try dsimp only at hSw)
    (first | (go_simp; done) | (go_simp; with_reducible rfl))
  (try simp only [Act.put, List.getElem_toArray, List.getElem_cons_succ, List.getElem_cons_zero, List.setIfInBounds_toArray, List.set_cons_zero, List.set_cons_succ])
  refine wpAnyF_take (i := 4) (oi := _) (v := ?_) rfl (by kernel_rfl) (by kernel_rfl) (by kernel_rfl) (by kernel_rfl) (fun _ _ _ h => h) (Or.inl ⟨by rfl, ?_⟩) (by assumption) ?_
  rotate_left 1
  · intro w hSw
    (try dsimp only at hSw)
    (first | (go_simp; done) | (go_simp; with_reducible rfl))
  (try simp only [Act.put, List.getElem_toArray, List.getElem_cons_succ, List.getElem_cons_zero, List.setIfInBounds_toArray, List.set_cons_zero, List.set_cons_succ])
  refine wpAnyF_take (i := 5) (oi := _) (v := ?_) rfl (by kernel_rfl) (by kernel_rfl) (by kernel_rfl) (by kernel_rfl) (fun _ _ _ h => h) (Or.inl ⟨by rfl, ?_⟩) (by assumption) ?_
  rotate_left 1
  · intro w hSw
    (try dsimp only at hSw)
    (first | (go_simp; done) | (go_simp; with_reducible rfl))
  (try simp only [Act.put, List.getElem_toArray, List.getElem_cons_succ, List.getElem_cons_zero, List.setIfInBounds_toArray, List.set_cons_zero, List.set_cons_succ])
  refine wpAnyF_take (i := 6) (oi := _) (v := ?_) rfl (by kernel_rfl) (by kernel_rfl) (by kernel_rfl) (by kernel_rfl) (fun _ _ _ h => h) (Or.inl ⟨by rfl, ?_⟩) (by assumption) ?_
  rotate_left 1
  · intro w hSw
    (try dsimp only at hSw)
    (first | (go_simp; done) | (go_simp; with_reducible rfl))
  (try simp only [Act.put, List.getElem_toArray, List.getElem_cons_succ, List.getElem_cons_zero, List.setIfInBounds_toArray, List.set_cons_zero, List.set_cons_succ])
  have hS1 := HD.out.next (((Below.refl w.heap.size w).drew).alloc (Nat.le_refl _) (.cells x.cells.toArray EnT))
  have HS1 := Lib.hid hS1
  have HC1 : Hid (∀ p : Addr, p.block < w.heap.size → (w.drew.alloc (.cells x.cells.toArray EnT)).cell? p = w.cell? p) := Lib.hid (fun p hp => World.cell?_alloc_lt w.drew _ p hp)
  clear hS1
  refine wpAnyF_ready (rs := [7]) (by kernel_rfl) (by simp) ?_
  refine AllReadyF.cons (o := _) rfl (fun K hK => ?_) AllReadyF.nil
  go_simp
  refine hK.out _ _ ((HC1.out _ hgl).trans k1) (fun hHeld7 => ?_)
  clear hK K
  (try simp only [Act.put, List.getElem_toArray, List.getElem_cons_succ, List.getElem_cons_zero, List.setIfInBounds_toArray, List.set_cons_zero, List.set_cons_succ])
  have HNW : Hid (∀ j u, x.cells[j]? = some u → (w.drew.alloc (.cells x.cells.toArray EnT)).cell? ((⟨w.heap.size, 0, none⟩ : Addr).add j) = some u) := Lib.hid (World.news_of_block (cs := x.cells.toArray) (t := EnT) (fr := (0, 0)) (by exact heap_alloc_new w.drew _))
  have HSZ : Hid (g + 1 ≤ (w.drew.alloc (.cells x.cells.toArray EnT)).heap.size) := Lib.hid (by simp; omega)
  have HSE : Hid ((w.drew.alloc (.cells x.cells.toArray EnT)).heap.size = w.heap.size + 1) := Lib.hid (by simp)
  refine wpAnyF_ready (rs := [8]) (by kernel_rfl) (by simp) ?_
  refine AllReadyF.cons (o := _) rfl (fun K hK => ?_) AllReadyF.nil
  refine step_append_lies (w.drew.alloc (.cells x.cells.toArray EnT)) (by rfl) (.tmp 8) (.tmp 11) 76 (by rfl) (g + 1) EnT i0 _ 3 24 Try.underlying76 hi0 hz0 hz1 hz2 rfl (by omega) v es.length (flat es) (by rfl) (by exact HS1.out.own) ⟨w.heap.size, 0, none⟩ 1 1 x.cells (by rfl) (by rfl) (by exact HNW.out) (cells_one x) (by omega) (by unfold maxLen; omega) (by omega) (by exact HSZ.out) (w.heap.size + 1) (by exact HSE.out) ?_
  intro gg cap w3 hown3 hgrow3 hat3 hlt3
  have hng : v.ownBlock ≠ some g := fun e => by have := (HAV.out g e).1; omega
  have hG : w3.cell? ⟨g, 1, none⟩ = (w.drew.alloc (.cells x.cells.toArray EnT)).cell? ⟨g, 1, none⟩ := hgrow3.cell_far _ (by simp; omega) (fun e => hng e.symm)
  have f2 : w3.frozen? ⟨g, 1, none⟩ = false := (hgrow3.frozen_far ⟨g, 1, none⟩ (by simp; omega) (fun e => hng e.symm)).trans (HS1.out.dev.free 1)
  have HEND := Lib.hid (HS1.out.down (e := x) hgrow3 hown3)
  have HT : Hid (Turns (fun j => j = g ∨ v.ownBlock = some j) w (w3.setCell ⟨g, 1, none⟩ (.slice (some ⟨gg, 0, none⟩) (es.length + 1) cap))) := Lib.hid (by
    have t1 : Turns (fun j => j = g ∨ v.ownBlock = some j) w (w.drew.alloc (.cells x.cells.toArray EnT)) := Turns.of_below (((Below.refl w.heap.size w).drew).alloc (Nat.le_refl _) _)
    exact (t1.trans (S' := fun j => v.ownBlock = some j) (Turns.of_grown hgrow3 (fun j e => e)) (fun j _ q => .inr q)).trans (S' := fun j => j = g) (Turns.set _ _ rfl) (fun j _ q => .inl q))
  have HAT : Hid ((Value.slice (some ⟨gg, 0, none⟩) (es.length + 1) cap).ownBlock = v.ownBlock ∨ ∃ j, w.heap.size ≤ j ∧ (Value.slice (some ⟨gg, 0, none⟩) (es.length + 1) cap).ownBlock = some j) := Lib.hid (by
    rcases hat3 with h3 | h3
    · exact .inl h3.symm
    · exact .inr ⟨gg, by omega, rfl⟩)
  have c2 : w3.cell? ⟨g, 1, none⟩ = some v := hG.trans hHeld7
  refine hK.out _ _ c2 (fun hHeld8 => ?_)
  clear hK K
  (try simp only [Act.put, List.getElem_toArray, List.getElem_cons_succ, List.getElem_cons_zero, List.setIfInBounds_toArray, List.set_cons_zero, List.set_cons_succ])
  clear hG hng
  refine wpAnyF_ready (rs := [9]) (by kernel_rfl) (by simp) ?_
  refine AllReadyF.cons (o := _) rfl (fun K hK => ?_) AllReadyF.nil
  go_simp
  refine hK.out _ _ (hHeld8) (fun hHeld9 => ?_)
  clear hK K
  (try simp only [Act.put, List.getElem_toArray, List.getElem_cons_succ, List.getElem_cons_zero, List.setIfInBounds_toArray, List.set_cons_zero, List.set_cons_succ])
  refine wpAnyF_ready (rs := [10]) (by kernel_rfl) (by simp) ?_
  refine AllReadyF.cons (o := _) rfl (fun K hK => ?_) AllReadyF.nil
  go_simp
  refine hK.out _ _ (hHeld8) (fun hHeld10 => ?_)
  clear hK K
  (try simp only [Act.put, List.getElem_toArray, List.getElem_cons_succ, List.getElem_cons_zero, List.setIfInBounds_toArray, List.set_cons_zero, List.set_cons_succ])
  refine wpAnyF_ready (rs := [11]) (by kernel_rfl) (by simp) ?_
  refine AllReadyF.last (o := _) rfl (by rfl) (fun K hK => ?_) AllReadyF.nil
  go_simp
  refine hK.out _ _ ?_
  clear hK K
  (try simp only [Act.put, List.getElem_toArray, List.getElem_cons_succ, List.getElem_cons_zero, List.setIfInBounds_toArray, List.set_cons_zero, List.set_cons_succ])
  refine wpAnyF_done (by kernel_rfl) ?_ _
  clear hHeld hHeld7 hHeld8 hHeld9 hHeld10 c2 f2
  go_wp2
  go_end0
  exact ⟨rfl, ⟨HT.out, _, HEND.out, HAT.out⟩⟩
end Go.Proofs.Ytoioflbgmofgfab
