/-
  Joined: PtC, PtD, PtE, HeldG, PtF.
-/
import Derived.Test.YtoclelpmampikaaGreatPtZ1
import Derived.RegionTactic
import Derived.ChangeAlike
import Derived.BigRegion
import Derived.Test.YtoclelpmampikaaGreatHeldF
namespace Go.Proofs.YtoclelpmampikaaGreat
set_option maxRecDepth 100000
section
open Go.RowKit Go
set_option linter.unusedVariables false
set_option linter.unusedSimpArgs false
set_option maxHeartbeats 2000000 in
set_option maxRecDepth 100000 in
theorem rowswap_1 (g i j b cap n : Nat) (x y : En) (w : World) (k1 : LS g b n cap i j x y w) (ht1 : w.there b (i * 3) 3) (ht2 : w.there b (j * 3) 3) (hi : i < n) (hj : j < n) (hm : n ≤ 1000000000) (h : i < j) :
    Calls Tryz.prog 119 #[.pointer (some ⟨g, 0, none⟩), .int .i64 (i : Int), .int .i64 (j : Int)] w fun e w' => e = .returned (.tuple #[]) ∧ w' = ((w.setCells b (i * 3) y.cells).setCells b (j * 3) x.cells).drew := by
  obtain ⟨l, i0, i1, i2, j0, j1, j2⟩ := k1
  have f0 : w.frozen? ⟨b, i * 3, none⟩ = false := (ht1 0 (by omega)).2
  have f1 : w.frozen? ⟨b, i * 3 + 1, none⟩ = false := (ht1 1 (by omega)).2
  have f2 : w.frozen? ⟨b, i * 3 + 2, none⟩ = false := (ht1 2 (by omega)).2
  have g0 : w.frozen? ⟨b, j * 3, none⟩ = false := (ht2 0 (by omega)).2
  have g1 : w.frozen? ⟨b, j * 3 + 1, none⟩ = false := (ht2 1 (by omega)).2
  have g2 : w.frozen? ⟨b, j * 3 + 2, none⟩ = false := (ht2 2 (by omega)).2
  clear ht1 ht2
  go_enter Tryz.func119, Tryz.ntmps119
  go_wp2_with fail
  go_region
  all_goals (go_wp2; go_end0; exact ⟨rfl, rfl⟩)
set_option maxHeartbeats 2000000 in
set_option maxRecDepth 100000 in
theorem rowswap_2 (g i j b cap n : Nat) (x y : En) (w : World) (k1 : LS g b n cap i j x y w) (ht1 : w.there b (i * 3) 3) (ht2 : w.there b (j * 3) 3) (hi : i < n) (hj : j < n) (hm : n ≤ 1000000000) (h : j < i) :
    Calls Tryz.prog 119 #[.pointer (some ⟨g, 0, none⟩), .int .i64 (i : Int), .int .i64 (j : Int)] w fun e w' => e = .returned (.tuple #[]) ∧ w' = ((w.setCells b (i * 3) y.cells).setCells b (j * 3) x.cells).drew := by
  obtain ⟨l, i0, i1, i2, j0, j1, j2⟩ := k1
  have f0 : w.frozen? ⟨b, i * 3, none⟩ = false := (ht1 0 (by omega)).2
  have f1 : w.frozen? ⟨b, i * 3 + 1, none⟩ = false := (ht1 1 (by omega)).2
  have f2 : w.frozen? ⟨b, i * 3 + 2, none⟩ = false := (ht1 2 (by omega)).2
  have g0 : w.frozen? ⟨b, j * 3, none⟩ = false := (ht2 0 (by omega)).2
  have g1 : w.frozen? ⟨b, j * 3 + 1, none⟩ = false := (ht2 1 (by omega)).2
  have g2 : w.frozen? ⟨b, j * 3 + 2, none⟩ = false := (ht2 2 (by omega)).2
  clear ht1 ht2
  go_enter Tryz.func119, Tryz.ntmps119
  go_wp2_with fail
  go_region
  all_goals (go_wp2; go_end0; exact ⟨rfl, rfl⟩)
set_option maxHeartbeats 2000000 in
set_option maxRecDepth 100000 in
theorem rowswap_3 (g i b cap n : Nat) (x : En) (w : World) (k1 : LS g b n cap i i x x w) (ht1 : w.there b (i * 3) 3) (ht2 : w.there b (i * 3) 3) (hi : i < n) (hj : i < n) (hm : n ≤ 1000000000) :
    Calls Tryz.prog 119 #[.pointer (some ⟨g, 0, none⟩), .int .i64 (i : Int), .int .i64 (i : Int)] w fun e w' => e = .returned (.tuple #[]) ∧ w' = ((w.setCells b (i * 3) x.cells).setCells b (i * 3) x.cells).drew := by
  obtain ⟨l, i0, i1, i2, j0, j1, j2⟩ := k1
  have f0 : w.frozen? ⟨b, i * 3, none⟩ = false := (ht1 0 (by omega)).2
  have f1 : w.frozen? ⟨b, i * 3 + 1, none⟩ = false := (ht1 1 (by omega)).2
  have f2 : w.frozen? ⟨b, i * 3 + 2, none⟩ = false := (ht1 2 (by omega)).2
  have g0 : w.frozen? ⟨b, i * 3, none⟩ = false := (ht2 0 (by omega)).2
  have g1 : w.frozen? ⟨b, i * 3 + 1, none⟩ = false := (ht2 1 (by omega)).2
  have g2 : w.frozen? ⟨b, i * 3 + 2, none⟩ = false := (ht2 2 (by omega)).2
  clear ht1 ht2
  go_enter Tryz.func119, Tryz.ntmps119
  go_wp2_with fail
  go_region
  all_goals (go_wp2; go_end0; exact ⟨rfl, rfl⟩)
theorem Qu.ls {W : World} {g t b n cap : Nat} {es : List En} (h : Qu W g (.slice (some ⟨b, 0, none⟩) n cap) es t) {i j : Nat} (hi : i < es.length) (hj : j < es.length) : LS g b n cap i j (ea es i) (ea es j) W := by
  have a := h.own.at_ hi
  have c := h.own.at_ hj
  exact ⟨h.dev.l, a.c0, a.c1, a.c2, c.c0, c.c1, c.c2⟩
theorem Qu.pos {W : World} {g t : Nat} {v : Value} {es : List En} (h : Qu W g v es t) (hl : 0 < es.length) : ∃ b cap, v = .slice (some ⟨b, 0, none⟩) es.length cap ∧ g < b := by
  obtain ⟨A, c, rfl, _, _, h1, h2⟩ := h.own.form
  rcases A with _ | ad
  · have := h2 rfl; subst this; simp at hl
  · have e := h1 ad rfl
    refine ⟨ad.block, c, by rw [e], ?_⟩
    have := (h.own.lt ad.block (by rfl)).1
    omega
theorem Qu.swapped {W : World} {g t b n cap : Nat} {es : List En} (h : Qu W g (.slice (some ⟨b, 0, none⟩) n cap) es t) {i j : Nat} (hi : i < es.length) (hj : j < es.length) :
    Qu (((W.setCells b (i * 3) (ea es j).cells).setCells b (j * 3) (ea es i).cells).drew) g (.slice (some ⟨b, 0, none⟩) n cap) (sw es i j) t := by
  have hb : g ≠ b := by
    have := (h.own.lt b (by rfl)).1
    omega
  have h1 := (h.own.put hi (ea es j)).put (i := j) (by rw [List.length_set]; exact hj) (ea es i)
  have e1 := heap_setCells b (ea es i).cells (j * 3) (W.setCells b (i * 3) (ea es j).cells) g hb
  have e2 := heap_setCells b (ea es j).cells (i * 3) W g hb
  have h2 : QuB ((W.setCells b (i * 3) (ea es j).cells).setCells b (j * 3) (ea es i).cells) g (.slice (some ⟨b, 0, none⟩) n cap) t := (e1.trans e2).trans h.dev
  generalize (W.setCells b (i * 3) (ea es j).cells).setCells b (j * 3) (ea es i).cells = V at *
  exact ⟨h2, World.ownsRow.drew h1⟩
theorem turns_swap {W : World} {b : Nat} {S : Nat → Prop} (hS : S b) (o o' : Nat) (l l' : List Value) : Turns S W (((W.setCells b o l).setCells b o' l').drew) :=
  ⟨(os_setCells b l' o' _).trans (os_setCells b l o _), (tape_setCells b l' o' _).trans (tape_setCells b l o _), (output_setCells b l' o' _).trans (output_setCells b l o _), Nat.le_of_eq ((size_setCells b l' o' _).trans (size_setCells b l o _)).symm,
   fun j _ hn => (heap_setCells b l' o' _ j (fun e => hn (e ▸ hS))).trans (heap_setCells b l o _ j (fun e => hn (e ▸ hS)))⟩
/-- Swap of a queue's row -/
theorem swapq_any (g i j t : Nat) (v : Value) (es : List En) (w : World) (h : Qu w g v es t) (hi : i < es.length) (hj : j < es.length) (hm : es.length ≤ 1000000000) :
    Calls Tryz.prog 119 #[.pointer (some ⟨g, 0, none⟩), .int .i64 (i : Int), .int .i64 (j : Int)] w fun e w' => e = .returned (.tuple #[]) ∧ Qu w' g v (sw es i j) t ∧ Turns (fun k => v.ownBlock = some k) w w' := by
  obtain ⟨b, cap, rfl, hb⟩ := h.pos (by omega)
  have hc : Calls Tryz.prog 119 #[.pointer (some ⟨g, 0, none⟩), .int .i64 (i : Int), .int .i64 (j : Int)] w fun e w' => e = .returned (.tuple #[]) ∧ w' = ((w.setCells b (i * 3) (ea es j).cells).setCells b (j * 3) (ea es i).cells).drew := by
    rcases Nat.lt_trichotomy i j with q | q | q
    · exact rowswap_1 g i j b cap es.length (ea es i) (ea es j) w (h.ls hi hj) (h.own.at_ hi).there (h.own.at_ hj).there hi hj hm q
    · subst q
      exact rowswap_3 g i b cap es.length (ea es i) w (h.ls hi hj) (h.own.at_ hi).there (h.own.at_ hj).there hi hj hm
    · exact rowswap_2 g i j b cap es.length (ea es i) (ea es j) w (h.ls hi hj) (h.own.at_ hi).there (h.own.at_ hj).there hi hj hm q
  refine hc.mono ?_
  rintro e w' ⟨he, rfl⟩
  exact ⟨he, h.swapped hi hj, turns_swap (b := b) (S := fun k => (Value.slice (some ⟨b, 0, none⟩) es.length cap).ownBlock = some k) (by rfl) _ _ _ _⟩
theorem lessq_any (g i j t : Nat) (v : Value) (es : List En) (w : World) (h : Qu w g v es t) (hi : i < es.length) (hj : j < es.length) (hm : es.length ≤ 1000000000) :
    Calls Tryz.prog 116 #[.pointer (some ⟨g, 0, none⟩), .int .i64 (i : Int), .int .i64 (j : Int)] w fun e w' => e = .returned (.bool (enLt (ea es i) (ea es j))) ∧ Below w.heap.size w w' := by
  obtain ⟨b, cap, rfl, hb⟩ := h.pos (by omega)
  exact rowless_any g i j b cap es.length (ea es i) (ea es j) w (h.ls hi hj) h.dev.less hi hj hm
theorem lenq_any (g t : Nat) (v : Value) (es : List En) (w : World) (h : Qu w g v es t) :
    Calls Tryz.prog 66 #[.pointer (some ⟨g, 0, none⟩)] w fun e w' => e = .returned (.int .i64 (es.length : Int)) ∧ w = w' := by
  obtain ⟨A, c, rfl, _⟩ := h.own.form
  exact rowlen_any g es.length c A w h.dev.l
/-- an entry is put behind -/
theorem Qu.down {W W' : World} {g t : Nat} {v v' : Value} {es : List En} {e : En} (h : Qu W g v es t) (hg : W.grownBy W' v.ownBlock) (ho : W'.ownsRow (g + 1) EnT 3 v' (es.length + 1) (flat es ++ e.cells)) :
    Qu (W'.setCell ⟨g, 1, none⟩ v') g v' (es ++ [e]) t := by
  have hd : QuB W' g v t := (hg.block g h.dev.lt (fun q => by have := (h.own.lt g q.symm).1; omega)).trans h.dev
  refine ⟨?_, ?_⟩
  · have := blk_set hd 1 v'
    unfold QuB
    rw [this]; rfl
  · obtain ⟨h1, h2⟩ := ho
    have ef : flat (es ++ [e]) = flat es ++ e.cells := by simp [flat]
    unfold EntB
    rw [ef, List.length_append]
    refine ⟨h1, ?_⟩
    rcases h2 with h2 | ⟨b, cap, cur, hv, hbg, hh, hr⟩
    · exact .inl h2
    · exact .inr ⟨b, cap, cur, hv, hbg, (Below.heap_setCell _ _ _ _ (by show b ≠ g; omega)).trans hh, hr⟩
theorem assert_en (x : En) (w : World) : (Instr.typeAssert (.iface EnT (.agg x.cells.toArray)) 20 EnT false).run Tryz.prog w = .ok (.agg x.cells.toArray) w := by kernel_rfl
set_option maxHeartbeats 2000000 in
set_option maxRecDepth 100000 in
theorem rowpush_any (g t : Nat) (v : Value) (es : List En) (x : En) (w : World) (h : Qu w g v es t) (hm : es.length ≤ 1000000000) :
    Calls Tryz.prog 118 #[.pointer (some ⟨g, 0, none⟩), .iface EnT (.agg x.cells.toArray)] w fun e w' => e = .returned (.tuple #[]) ∧ Qed w g v (es ++ [x]) t w' := by
  have HD := Lib.hid h
  have k1 := h.dev.l
  have hgl := h.dev.lt
  have HAV := Lib.hid h.own.lt
  have hta := assert_en x
  obtain ⟨i0, hi0, hz0, hz1, hz2⟩ := info_parts zero_en
  clear h
  go_enter Tryz.func118, Tryz.ntmps118
  go_wp2_with fail
  refine wp_region_F (S := (fun W => W.cell? ⟨g, 1, none⟩ = some v)) [11] (by kernel_rfl) (k1) (fun hHeld => ?_)
  refine wpAnyF_take (i := 0) (oi := _) (v := ?_) rfl (by kernel_rfl) (by kernel_rfl) (by kernel_rfl) (by kernel_rfl) (fun _ _ _ h => h) (Or.inl ⟨by rfl, ?_⟩) (by assumption) ?_
  rotate_left 1
  · intro w hSw
    (try dsimp only at hSw)
    (first | (go_simp; done) | (go_simp; with_reducible rfl))
  (try simp only [Act.put, List.getElem_toArray, List.getElem_cons_succ, List.getElem_cons_zero, List.setIfInBounds_toArray, List.set_cons_zero, List.set_cons_succ])
  refine wpAnyF_take (i := 1) (oi := _) (v := ?_) rfl (by kernel_rfl) (by kernel_rfl) (by kernel_rfl) (by kernel_rfl) (fun _ _ _ h => h) (Or.inl ⟨by rfl, ?_⟩) (by assumption) ?_
  rotate_left 1
  · intro w hSw
    (try dsimp only at hSw)
    (first | (go_simp; done) | (go_simp; with_reducible rfl))
  (try simp only [Act.put, List.getElem_toArray, List.getElem_cons_succ, List.getElem_cons_zero, List.setIfInBounds_toArray, List.set_cons_zero, List.set_cons_succ])
  refine wpAnyF_take (i := 2) (oi := _) (v := ?_) rfl (by kernel_rfl) (by kernel_rfl) (by kernel_rfl) (by kernel_rfl) (fun _ _ _ h => h) (Or.inl ⟨by rfl, ?_⟩) (by assumption) ?_
  rotate_left 1
  · intro w hSw
    (try dsimp only at hSw)
    (first | (go_simp; done) | (go_simp; with_reducible rfl))
  (try simp only [Act.put, List.getElem_toArray, List.getElem_cons_succ, List.getElem_cons_zero, List.setIfInBounds_toArray, List.set_cons_zero, List.set_cons_succ])
  refine wpAnyF_take (i := 3) (oi := _) (v := ?_) rfl (by kernel_rfl) (by kernel_rfl) (by kernel_rfl) (by kernel_rfl) (fun _ _ _ h => h) (Or.inl ⟨by rfl, ?_⟩) (by assumption) ?_
  rotate_left 1
  · intro w hSw
    (try dsimp only at hSw)
    (first | (go_simp; done) | (go_simp; with_reducible rfl))
  (try simp only [Act.put, List.getElem_toArray, List.getElem_cons_succ, List.getElem_cons_zero, List.setIfInBounds_toArray, List.set_cons_zero, List.set_cons_succ])
  refine wpAnyF_take (i := 4) (oi := _) (v := ?_) rfl (by kernel_rfl) (by kernel_rfl) (by kernel_rfl) (by kernel_rfl) (fun _ _ _ h => h) (Or.inl ⟨by rfl, ?_⟩) (by assumption) ?_
  rotate_left 1
  · intro w hSw
    (try dsimp only at hSw)
    (first | (go_simp; done) | (go_simp; with_reducible rfl))
  (try simp only [Act.put, List.getElem_toArray, List.getElem_cons_succ, List.getElem_cons_zero, List.setIfInBounds_toArray, List.set_cons_zero, List.set_cons_succ])
  refine wpAnyF_take (i := 5) (oi := _) (v := ?_) rfl (by kernel_rfl) (by kernel_rfl) (by kernel_rfl) (by kernel_rfl) (fun _ _ _ h => h) (Or.inl ⟨by rfl, ?_⟩) (by assumption) ?_
  rotate_left 1
  · intro w hSw
    (try dsimp only at hSw)
    (first | (go_simp; done) | (go_simp; with_reducible rfl))
  (try simp only [Act.put, List.getElem_toArray, List.getElem_cons_succ, List.getElem_cons_zero, List.setIfInBounds_toArray, List.set_cons_zero, List.set_cons_succ])
  refine wpAnyF_take (i := 6) (oi := _) (v := ?_) rfl (by kernel_rfl) (by kernel_rfl) (by kernel_rfl) (by kernel_rfl) (fun _ _ _ h => h) (Or.inl ⟨by rfl, ?_⟩) (by assumption) ?_
  rotate_left 1
  · intro w hSw
    (try dsimp only at hSw)
    (first | (go_simp; done) | (go_simp; with_reducible rfl))
  (try simp only [Act.put, List.getElem_toArray, List.getElem_cons_succ, List.getElem_cons_zero, List.setIfInBounds_toArray, List.set_cons_zero, List.set_cons_succ])
  have hS1 := HD.out.next (((Below.refl w.heap.size w).drew).alloc (Nat.le_refl _) (.cells x.cells.toArray EnT))
  have HS1 := Lib.hid hS1
  have HC1 : Hid (∀ p : Addr, p.block < w.heap.size → (w.drew.alloc (.cells x.cells.toArray EnT)).cell? p = w.cell? p) := Lib.hid (fun p hp => World.cell?_alloc_lt w.drew _ p hp)
  clear hS1
  refine wpAnyF_ready (rs := [7]) (by kernel_rfl) (by simp) ?_
  refine AllReadyF.cons (o := _) rfl (fun K hK => ?_) AllReadyF.nil
  go_simp
  refine hK.out _ _ ((HC1.out _ hgl).trans k1) (fun hHeld7 => ?_)
  clear hK K
  (try simp only [Act.put, List.getElem_toArray, List.getElem_cons_succ, List.getElem_cons_zero, List.setIfInBounds_toArray, List.set_cons_zero, List.set_cons_succ])
  have HNW : Hid (∀ j u, x.cells[j]? = some u → (w.drew.alloc (.cells x.cells.toArray EnT)).cell? ((⟨w.heap.size, 0, none⟩ : Addr).add j) = some u) := Lib.hid (World.news_of_block (cs := x.cells.toArray) (t := EnT) (fr := (0, 0)) (by exact heap_alloc_new w.drew _))
  have HSZ : Hid (g + 1 ≤ (w.drew.alloc (.cells x.cells.toArray EnT)).heap.size) := Lib.hid (by simp; omega)
  have HSE : Hid ((w.drew.alloc (.cells x.cells.toArray EnT)).heap.size = w.heap.size + 1) := Lib.hid (by simp)
  refine wpAnyF_ready (rs := [8]) (by kernel_rfl) (by simp) ?_
  refine AllReadyF.cons (o := _) rfl (fun K hK => ?_) AllReadyF.nil
  refine step_append_lies (w.drew.alloc (.cells x.cells.toArray EnT)) (by rfl) (.tmp 8) (.tmp 11) 95 (by rfl) (g + 1) EnT i0 _ 3 24 Tryz.underlying95 hi0 hz0 hz1 hz2 rfl (by omega) v es.length (flat es) (by rfl) (by exact HS1.out.own) ⟨w.heap.size, 0, none⟩ 1 1 x.cells (by rfl) (by rfl) (by exact HNW.out) (cells_one x) (by omega) (by unfold maxLen; omega) (by omega) (by exact HSZ.out) (w.heap.size + 1) (by exact HSE.out) ?_
  intro gg cap w3 hown3 hgrow3 hat3 hlt3
  have hng : v.ownBlock ≠ some g := fun e => by have := (HAV.out g e).1; omega
  have hG : w3.cell? ⟨g, 1, none⟩ = (w.drew.alloc (.cells x.cells.toArray EnT)).cell? ⟨g, 1, none⟩ := hgrow3.cell_far _ (by simp; omega) (fun e => hng e.symm)
  have f2 : w3.frozen? ⟨g, 1, none⟩ = false := (hgrow3.frozen_far ⟨g, 1, none⟩ (by simp; omega) (fun e => hng e.symm)).trans (HS1.out.dev.free 1)
  have HEND := Lib.hid (HS1.out.down (e := x) hgrow3 hown3)
  have HT : Hid (Turns (fun j => j = g ∨ v.ownBlock = some j) w (w3.setCell ⟨g, 1, none⟩ (.slice (some ⟨gg, 0, none⟩) (es.length + 1) cap))) := Lib.hid (by
    have t1 : Turns (fun j => j = g ∨ v.ownBlock = some j) w (w.drew.alloc (.cells x.cells.toArray EnT)) := Turns.of_below (((Below.refl w.heap.size w).drew).alloc (Nat.le_refl _) _)
    exact (t1.trans (S' := fun j => v.ownBlock = some j) (Turns.of_grown hgrow3 (fun j e => e)) (fun j _ q => .inr q)).trans (S' := fun j => j = g) (Turns.set _ _ rfl) (fun j _ q => .inl q))
  have HAT : Hid ((Value.slice (some ⟨gg, 0, none⟩) (es.length + 1) cap).ownBlock = v.ownBlock ∨ ∃ j, w.heap.size ≤ j ∧ (Value.slice (some ⟨gg, 0, none⟩) (es.length + 1) cap).ownBlock = some j) := Lib.hid (by
    rcases hat3 with h3 | h3
    · exact .inl h3.symm
    · exact .inr ⟨gg, by omega, rfl⟩)
  have c2 : w3.cell? ⟨g, 1, none⟩ = some v := hG.trans hHeld7
  refine hK.out _ _ c2 (fun hHeld8 => ?_)
  clear hK K
  (try simp only [Act.put, List.getElem_toArray, List.getElem_cons_succ, List.getElem_cons_zero, List.setIfInBounds_toArray, List.set_cons_zero, List.set_cons_succ])
  clear hG hng
  refine wpAnyF_ready (rs := [9]) (by kernel_rfl) (by simp) ?_
  refine AllReadyF.cons (o := _) rfl (fun K hK => ?_) AllReadyF.nil
  go_simp
  refine hK.out _ _ (hHeld8) (fun hHeld9 => ?_)
  clear hK K
  (try simp only [Act.put, List.getElem_toArray, List.getElem_cons_succ, List.getElem_cons_zero, List.setIfInBounds_toArray, List.set_cons_zero, List.set_cons_succ])
  refine wpAnyF_ready (rs := [10]) (by kernel_rfl) (by simp) ?_
  refine AllReadyF.cons (o := _) rfl (fun K hK => ?_) AllReadyF.nil
  go_simp
  refine hK.out _ _ (hHeld8) (fun hHeld10 => ?_)
  clear hK K
  (try simp only [Act.put, List.getElem_toArray, List.getElem_cons_succ, List.getElem_cons_zero, List.setIfInBounds_toArray, List.set_cons_zero, List.set_cons_succ])
  refine wpAnyF_ready (rs := [11]) (by kernel_rfl) (by simp) ?_
  refine AllReadyF.last (o := _) rfl (by rfl) (fun K hK => ?_) AllReadyF.nil
  go_simp
  refine hK.out _ _ ?_
  clear hK K
  (try simp only [Act.put, List.getElem_toArray, List.getElem_cons_succ, List.getElem_cons_zero, List.setIfInBounds_toArray, List.set_cons_zero, List.set_cons_succ])
  refine wpAnyF_done (by kernel_rfl) ?_ _
  clear hHeld hHeld7 hHeld8 hHeld9 hHeld10 c2 f2
  go_wp2
  go_end0
  exact ⟨rfl, ⟨HT.out, _, HEND.out, HAT.out⟩⟩
end
section
open Go.RowKit Go
set_option linter.unusedVariables false
set_option linter.unusedSimpArgs false
abbrev HpI (g : Nat) : Value := .iface 102 (.pointer (some ⟨g, 0, none⟩))
theorem meth_less (a : Addr) (w : World) : (method 275 102 (.pointer (some a)) "Less").run Tryz.prog w = .ok (116, .pointer (some a)) w := by kernel_rfl
theorem meth_swap (a : Addr) (w : World) : (method 275 102 (.pointer (some a)) "Swap").run Tryz.prog w = .ok (119, .pointer (some a)) w := by kernel_rfl
theorem meth_len (a : Addr) (w : World) : (method 275 102 (.pointer (some a)) "Len").run Tryz.prog w = .ok (66, .pointer (some a)) w := by kernel_rfl
theorem meth_push (a : Addr) (w : World) : (method 275 102 (.pointer (some a)) "Push").run Tryz.prog w = .ok (118, .pointer (some a)) w := by kernel_rfl
theorem meth_pop (a : Addr) (w : World) : (method 275 102 (.pointer (some a)) "Pop").run Tryz.prog w = .ok (117, .pointer (some a)) w := by kernel_rfl
set_option maxHeartbeats 400000 in
set_option maxRecDepth 100000 in
theorem rowpop_cells (g b cap n : Nat) (x : En) (w : World) (k1 : w.cell? ⟨g, 1, none⟩ = some (.slice (some ⟨b, 0, none⟩) (n + 1) cap)) (hc0 : w.cell? ⟨b, n * 3, none⟩ = some (.int .i64 x.n)) (hc1 : w.cell? ⟨b, n * 3 + 1, none⟩ = some (.int .i64 x.m)) (hc2 : w.cell? ⟨b, n * 3 + 2, none⟩ = some (.int .u64 (x.t : Int)))
    (f0 : w.frozen? ⟨b, n * 3, none⟩ = false) (f1 : w.frozen? ⟨b, n * 3 + 1, none⟩ = false) (f2 : w.frozen? ⟨b, n * 3 + 2, none⟩ = false) (fg : w.frozen? ⟨g, 1, none⟩ = false) (hm : n ≤ 1000000000) (hcap : n + 1 ≤ cap) (hcm : cap ≤ 9223372036854775807) (hgl : g < w.heap.size) (hbl : b < w.heap.size) (hgb : g < b) :
    Calls Tryz.prog 117 #[.pointer (some ⟨g, 0, none⟩)] w fun e w' => e = .returned (.iface EnT (.agg x.cells.toArray)) ∧ w' = (((w.setCells b (n * 3) e0.cells).setCell ⟨g, 1, none⟩ (.slice (some ⟨b, 0, none⟩) n cap)).alloc (.cells x.cells.toArray EnT)) := by
  go_enter Tryz.func117, Tryz.ntmps117
  go_wp2
  go_ret
  exact ⟨rfl, rfl⟩
theorem rowpop_any (g t : Nat) (v : Value) (es : List En) (w : World) (h : Qu w g v es t) (hl : 0 < es.length) (hm : es.length ≤ 1000000000) :
    Calls Tryz.prog 117 #[.pointer (some ⟨g, 0, none⟩)] w fun e w' => e = .returned (.iface EnT (.agg (ea es (es.length - 1)).cells.toArray)) ∧ Qed w g v (es.take (es.length - 1)) t w' := by
  obtain ⟨b, cap, rfl, hb⟩ := h.pos hl
  obtain ⟨A, c, hv, hcm, hcap, _⟩ := h.own.form
  injection hv with _ _ hcc
  subst hcc
  have a := h.own.at_ (i := es.length - 1) (by omega)
  have hbl := (h.own.lt b (by rfl)).2
  obtain ⟨n, hn⟩ : ∃ n, es.length = n + 1 := ⟨es.length - 1, by omega⟩
  have hn1 : es.length - 1 = n := by omega
  rw [hn1] at a ⊢
  have k1 := h.dev.l
  rw [hn] at k1
  refine (rowpop_cells g b cap n (ea es n) w k1 a.c0 a.c1 a.c2 (a.there 0 (by omega)).2 (a.there 1 (by omega)).2 (a.there 2 (by omega)).2 (h.dev.free 1) (by omega) (by omega) hcm h.dev.lt hbl hb).mono ?_
  rintro e w' ⟨he, rfl⟩
  refine ⟨he, ?_, ?_⟩
  · refine Turns.trans (S' := fun _ => False) ?_ (Turns.of_below ((Below.refl _ _).alloc (Nat.le_refl _) _)) (fun _ _ q => q.elim)
    refine Turns.trans (S' := fun j => j = g) (W1 := w.setCells b (n * 3) e0.cells) ?_ (Turns.set _ _ rfl) (fun j _ q => .inl q)
    exact ⟨os_setCells b e0.cells _ _, tape_setCells b e0.cells _ _, output_setCells b e0.cells _ _, Nat.le_of_eq (size_setCells b e0.cells _ _).symm, fun j _ hn => heap_setCells b e0.cells _ _ j (fun e => hn (.inr (by rw [e]; rfl)))⟩
  · have h1 := (h.own.put (i := n) (by omega) e0).cut (k := n) (by rw [List.length_set]; omega)
    have e1 : (es.set n e0).take n = es.take n := by rw [List.take_set, List.set_eq_of_length_le (by rw [List.length_take]; omega)]
    rw [e1] at h1
    have hd : QuB (w.setCells b (n * 3) e0.cells) g (.slice (some ⟨b, 0, none⟩) es.length cap) t := (heap_setCells b e0.cells (n * 3) w g (by omega)).trans h.dev
    generalize w.setCells b (n * 3) e0.cells = V at *
    refine ⟨.slice (some ⟨b, 0, none⟩) n cap, Qu.next (W := V.setCell ⟨g, 1, none⟩ (.slice (some ⟨b, 0, none⟩) n cap)) ⟨?_, ?_⟩ ((Below.refl _ _).alloc (Nat.le_refl _) _), .inl rfl⟩
    · have := blk_set hd 1 (.slice (some ⟨b, 0, none⟩) n cap)
      unfold QuB
      rw [this]; rfl
    · exact h1.keep fun q hq => Below.heap_setCell _ _ _ _ (by
        have := (h1.lt q hq).1
        show q ≠ g
        omega)
def UpR (g t : Nat) (v : Value) (es0 : List En) (j0 : Nat) (w0 : World) (j1 : Value) (W : World) : Prop :=
  ∃ (k : Nat) (es : List En), j1 = .int .i64 (k : Int) ∧ k < es.length ∧ es.length = es0.length ∧ upF es k = upF es0 j0 ∧ Qu W g v es t ∧ Turns (fun q => v.ownBlock = some q) w0 W
theorem upF_stop {es : List En} {k : Nat} (h : enLt (ea es k) (ea es ((k - 1) / 2)) = false) : upF es k = es := by
  rw [upF]; split
  · rw [if_neg (by rw [h]; decide)]
  · rfl
theorem upF_go {es : List En} {k : Nat} (h0 : 0 < k) (h : enLt (ea es k) (ea es ((k - 1) / 2)) = true) : upF es k = upF (sw es ((k - 1) / 2) k) ((k - 1) / 2) := by
  rw [upF, dif_pos h0, if_pos h]
set_option maxHeartbeats 1000000 in
set_option maxRecDepth 100000 in
theorem pt_up_any (g j t : Nat) (v : Value) (es : List En) (w : World) (h : Qu w g v es t) (hj : j < es.length) (hm : es.length ≤ 1000000000) :
    Calls Tryz.prog 65 #[HpI g, .int .i64 (j : Int)] w fun e w' => e = .returned (.tuple #[]) ∧ Qu w' g v (upF es j) t ∧ Turns (fun q => v.ownBlock = some q) w w' := by
  have hml := meth_less
  have hms := meth_swap
  have HST : Hid (UpR g t v es j w (.int .i64 (j : Int)) w) := Lib.hid ⟨j, es, rfl, hj, rfl, rfl, h, ⟨rfl, rfl, rfl, Nat.le_refl _, fun _ _ _ => rfl⟩⟩
  clear h
  go_enter Tryz.func65, Tryz.ntmps65
  go_wp2_with fail
  go_loopw [1] (fun j1 W => UpR g t v es j w j1 W) (fun j1 _ => (intOf j1).toNat)
  case atStart => exact HST.out
  case round =>
    obtain ⟨k, es1, rfl, hk, hl, hu, hq, ht⟩ := hrel
    have hkm : k ≤ 1000000000 := by omega
    have HU := Lib.hid hu
    have HQ := Lib.hid hq
    have HT := Lib.hid ht
    have HL := Lib.hid hl
    clear hu hq ht hl HST
    by_cases h0 : 0 < k
    · obtain ⟨p, hp⟩ : ∃ p, (k - 1) / 2 = p := ⟨_, rfl⟩
      have hpk : p < k := by omega
      have hpi : ((k : Int) - 1) / 2 = (p : Int) := by omega
      have hne : ((p : Int) == (k : Int)) = false := by rw [beq_eq_false_iff_ne]; omega
      have HP := Lib.hid hp
      clear hp
      have HLS := Lib.hid (lessq_any g k p t v es1 wr HQ.out hk (by omega) (by rw [HL.out]; exact hm))
      cases hb : enLt (ea es1 k) (ea es1 p)
      · rw [hb] at HLS
        have HB := Lib.hid hb
        clear hb
        go_wp2_with fail
        refine HLS.out.mono ?_
        rintro e w1 ⟨rfl, hb1⟩
        have HB1 := Lib.hid hb1
        clear hb1
        go_wp2_with fail
        go_end0
        have hst := upF_stop (es := es1) (k := k) (by rw [HP.out]; exact HB.out)
        exact ⟨rfl, by rw [← HU.out, hst]; exact HQ.out.next HB1.out, HT.out.trans (S' := fun _ => False) (Turns.of_below HB1.out) (fun _ _ q => q.elim)⟩
      · rw [hb] at HLS
        have HB := Lib.hid hb
        clear hb
        go_wp2_with fail
        refine HLS.out.mono ?_
        rintro e w1 ⟨rfl, hb1⟩
        have HB1 := Lib.hid hb1
        clear hb1
        have HSW := Lib.hid (swapq_any g p k t v es1 w1 (HQ.out.next HB1.out) (by omega) hk (by rw [HL.out]; exact hm))
        go_wp2_with fail
        refine HSW.out.mono ?_
        rintro e w2 ⟨rfl, hq2, ht2⟩
        have HQ2 := Lib.hid hq2
        have HT2 := Lib.hid ht2
        clear hq2 ht2
        go_wp2_with fail
        go_roundw
        case rel =>
          refine ⟨p, sw es1 p k, rfl, by rw [sw_len]; omega, by rw [sw_len]; exact HL.out, ?_, HQ2.out, (HT.out.trans (S' := fun _ => False) (Turns.of_below HB1.out) (fun _ _ q => q.elim)).trans HT2.out (fun _ _ q => q)⟩
          rw [← HU.out, upF_go h0 (by rw [HP.out]; exact HB.out), HP.out]
        case measure => simp [intOf]; omega
    · obtain rfl : k = 0 := by omega
      have HE : Hid (upF es1 0 = es1) := Lib.hid (by rw [upF, dif_neg (by omega)])
      go_wp2_with fail
      go_end0
      exact ⟨rfl, by rw [← HU.out, HE.out]; exact HQ.out, HT.out⟩
def DnR (g t n : Nat) (v : Value) (es0 : List En) (i0 : Nat) (w0 : World) (i1 : Value) (W : World) : Prop :=
  ∃ (k : Nat) (es : List En), i1 = .int .i64 (k : Int) ∧ k < es.length ∧ es.length = es0.length ∧ dnF es k n = dnF es0 i0 n ∧ Qu W g v es t ∧ Turns (fun q => v.ownBlock = some q) w0 W
def DnE (g t n : Nat) (v : Value) (es0 : List En) (i0 : Nat) (w0 : World) (e : Ending) (w' : World) : Prop :=
  ∃ b : Bool, e = .returned (.bool b) ∧ Qu w' g v (dnF es0 i0 n) t ∧ Turns (fun q => v.ownBlock = some q) w0 w'
theorem dnF_stop {es : List En} {i n : Nat} (h : enLt (ea es (dnC es i n)) (ea es i) = false) : dnF es i n = es := by
  rw [dnF]; split
  · rw [if_neg (by rw [h]; decide)]
  · rfl
theorem dnF_go {es : List En} {i n : Nat} (h0 : 2 * i + 1 < n) (h : enLt (ea es (dnC es i n)) (ea es i) = true) : dnF es i n = dnF (sw es i (dnC es i n)) (dnC es i n) n := by
  rw [dnF, dif_pos h0, if_pos h]
set_option maxHeartbeats 2000000 in
set_option maxRecDepth 100000 in
theorem pt_down_any (g i n t : Nat) (v : Value) (es : List En) (w : World) (h : Qu w g v es t) (hi : i < es.length) (hn : n ≤ es.length) (hm : es.length ≤ 1000000000) :
    Calls Tryz.prog 81 #[HpI g, .int .i64 (i : Int), .int .i64 (n : Int)] w (DnE g t n v es i w) := by
  have hml := meth_less
  have hms := meth_swap
  have HST : Hid (DnR g t n v es i w (.int .i64 (i : Int)) w) := Lib.hid ⟨i, es, rfl, hi, rfl, rfl, h, ⟨rfl, rfl, rfl, Nat.le_refl _, fun _ _ _ => rfl⟩⟩
  clear h
  go_enter Tryz.func81, Tryz.ntmps81
  go_wp2_with fail
  go_loopw [7] (fun i1 W => DnR g t n v es i w i1 W) (fun i1 _ => n - (intOf i1).toNat)
  case atStart => exact HST.out
  case round =>
    obtain ⟨k, es1, rfl, hk, hl, hu, hq, ht⟩ := hrel
    have hkm : k ≤ 1000000000 := by omega
    have hnm : n ≤ es1.length := by omega
    have HU := Lib.hid hu
    have HQ := Lib.hid hq
    have HT := Lib.hid ht
    have HL := Lib.hid hl
    clear hu hq ht hl HST
    obtain ⟨c1, hc1⟩ : ∃ c1, c1 = 2 * k + 1 := ⟨_, rfl⟩
    have he1 : 2 * (k : Int) + 1 = (c1 : Int) := by omega
    have hcb : c1 ≤ 2000000001 := by omega
    by_cases hA : c1 < n
    · obtain ⟨c2, hc2⟩ : ∃ c2, c2 = c1 + 1 := ⟨_, rfl⟩
      have he2 : (c1 : Int) + 1 = (c2 : Int) := by omega
      have q1 : 2 * k + 1 ≤ c1 := by omega
      have q2 : c1 ≤ 2 * k + 1 := by omega
      have q3 : 2 * k + 2 ≤ c2 := by omega
      have q4 : c2 ≤ 2 * k + 2 := by omega
      have HC1 : Hid (c1 = 2 * k + 1) := Lib.hid hc1
      have HC2 : Hid (c2 = 2 * k + 2) := Lib.hid (by omega)
      clear hc1 hc2
      by_cases hB : c2 < n
      · have HLA := Lib.hid (lessq_any g c2 c1 t v es1 wr HQ.out (by omega) (by omega) (by rw [HL.out]; exact hm))
        cases hd : enLt (ea es1 c2) (ea es1 c1)
        · rw [hd] at HLA
          have HC : Hid (dnC es1 k n = c1) := Lib.hid (by unfold dnC; rw [← HC2.out, ← HC1.out, if_neg (by rw [hd]; simp)])
          clear hd
          go_wp2_with fail
          refine HLA.out.mono ?_
          rintro e w1 ⟨rfl, hb1⟩
          have HQ1 := Lib.hid (HQ.out.next hb1)
          have HT1 : Hid (Turns (fun q => v.ownBlock = some q) w w1) := Lib.hid (HT.out.trans (S' := fun _ => False) (Turns.of_below hb1) (fun _ _ q => q.elim))
          clear hb1
          have HLS := Lib.hid (lessq_any g c1 k t v es1 w1 HQ1.out (by omega) (by omega) (by rw [HL.out]; exact hm))
          cases hb : enLt (ea es1 c1) (ea es1 k)
          · rw [hb] at HLS
            have HB := Lib.hid hb
            clear hb
            go_wp2_with fail
            refine HLS.out.mono ?_
            rintro e w2 ⟨rfl, hb2⟩
            have HB2 := Lib.hid hb2
            clear hb2
            go_wp2_with fail
            go_ret
            have hst := dnF_stop (es := es1) (i := k) (n := n) (by rw [HC.out]; exact HB.out)
            exact ⟨_, rfl, by rw [← HU.out, hst]; exact HQ1.out.next HB2.out, HT1.out.trans (S' := fun _ => False) (Turns.of_below HB2.out) (fun _ _ q => q.elim)⟩
          · rw [hb] at HLS
            have HB := Lib.hid hb
            clear hb
            go_wp2_with fail
            refine HLS.out.mono ?_
            rintro e w2 ⟨rfl, hb2⟩
            have HB2 := Lib.hid hb2
            clear hb2
            have HSW := Lib.hid (swapq_any g k c1 t v es1 w2 (HQ1.out.next HB2.out) (by omega) (by omega) (by rw [HL.out]; exact hm))
            go_wp2_with fail
            refine HSW.out.mono ?_
            rintro e w3 ⟨rfl, hq3, ht3⟩
            have HQ3 := Lib.hid hq3
            have HT3 := Lib.hid ht3
            clear hq3 ht3
            go_wp2_with fail
            go_roundw
            case rel =>
              refine ⟨c1, sw es1 k c1, rfl, by rw [sw_len]; omega, by rw [sw_len]; exact HL.out, ?_, HQ3.out, (HT1.out.trans (S' := fun _ => False) (Turns.of_below HB2.out) (fun _ _ q => q.elim)).trans HT3.out (fun _ _ q => q)⟩
              have hgo := dnF_go (es := es1) (i := k) (n := n) (by omega) (by rw [HC.out]; exact HB.out)
              rw [HC.out] at hgo
              rw [← HU.out]
              exact hgo.symm
            case measure => simp [intOf]; omega
        · rw [hd] at HLA
          have HC : Hid (dnC es1 k n = c2) := Lib.hid (by unfold dnC; rw [← HC2.out, ← HC1.out, if_pos ⟨hB, hd⟩])
          clear hd
          go_wp2_with fail
          refine HLA.out.mono ?_
          rintro e w1 ⟨rfl, hb1⟩
          have HQ1 := Lib.hid (HQ.out.next hb1)
          have HT1 : Hid (Turns (fun q => v.ownBlock = some q) w w1) := Lib.hid (HT.out.trans (S' := fun _ => False) (Turns.of_below hb1) (fun _ _ q => q.elim))
          clear hb1
          have HLS := Lib.hid (lessq_any g c2 k t v es1 w1 HQ1.out (by omega) (by omega) (by rw [HL.out]; exact hm))
          cases hb : enLt (ea es1 c2) (ea es1 k)
          · rw [hb] at HLS
            have HB := Lib.hid hb
            clear hb
            go_wp2_with fail
            refine HLS.out.mono ?_
            rintro e w2 ⟨rfl, hb2⟩
            have HB2 := Lib.hid hb2
            clear hb2
            go_wp2_with fail
            go_ret
            have hst := dnF_stop (es := es1) (i := k) (n := n) (by rw [HC.out]; exact HB.out)
            exact ⟨_, rfl, by rw [← HU.out, hst]; exact HQ1.out.next HB2.out, HT1.out.trans (S' := fun _ => False) (Turns.of_below HB2.out) (fun _ _ q => q.elim)⟩
          · rw [hb] at HLS
            have HB := Lib.hid hb
            clear hb
            go_wp2_with fail
            refine HLS.out.mono ?_
            rintro e w2 ⟨rfl, hb2⟩
            have HB2 := Lib.hid hb2
            clear hb2
            have HSW := Lib.hid (swapq_any g k c2 t v es1 w2 (HQ1.out.next HB2.out) (by omega) (by omega) (by rw [HL.out]; exact hm))
            go_wp2_with fail
            refine HSW.out.mono ?_
            rintro e w3 ⟨rfl, hq3, ht3⟩
            have HQ3 := Lib.hid hq3
            have HT3 := Lib.hid ht3
            clear hq3 ht3
            go_wp2_with fail
            go_roundw
            case rel =>
              refine ⟨c2, sw es1 k c2, rfl, by rw [sw_len]; omega, by rw [sw_len]; exact HL.out, ?_, HQ3.out, (HT1.out.trans (S' := fun _ => False) (Turns.of_below HB2.out) (fun _ _ q => q.elim)).trans HT3.out (fun _ _ q => q)⟩
              have hgo := dnF_go (es := es1) (i := k) (n := n) (by omega) (by rw [HC.out]; exact HB.out)
              rw [HC.out] at hgo
              rw [← HU.out]
              exact hgo.symm
            case measure => simp [intOf]; omega
      · have HC : Hid (dnC es1 k n = c1) := Lib.hid (by unfold dnC; rw [← HC2.out, ← HC1.out, if_neg (fun q => hB q.1)])
        have HQ1 := HQ
        have HT1 := HT
        obtain ⟨w1, hw1⟩ : ∃ w1, w1 = wr := ⟨_, rfl⟩
        rw [← hw1] at HQ1 HT1 ⊢
        clear hw1
        have HLS := Lib.hid (lessq_any g c1 k t v es1 w1 HQ1.out (by omega) (by omega) (by rw [HL.out]; exact hm))
        cases hb : enLt (ea es1 c1) (ea es1 k)
        · rw [hb] at HLS
          have HB := Lib.hid hb
          clear hb
          go_wp2_with fail
          refine HLS.out.mono ?_
          rintro e w2 ⟨rfl, hb2⟩
          have HB2 := Lib.hid hb2
          clear hb2
          go_wp2_with fail
          go_ret
          have hst := dnF_stop (es := es1) (i := k) (n := n) (by rw [HC.out]; exact HB.out)
          exact ⟨_, rfl, by rw [← HU.out, hst]; exact HQ1.out.next HB2.out, HT1.out.trans (S' := fun _ => False) (Turns.of_below HB2.out) (fun _ _ q => q.elim)⟩
        · rw [hb] at HLS
          have HB := Lib.hid hb
          clear hb
          go_wp2_with fail
          refine HLS.out.mono ?_
          rintro e w2 ⟨rfl, hb2⟩
          have HB2 := Lib.hid hb2
          clear hb2
          have HSW := Lib.hid (swapq_any g k c1 t v es1 w2 (HQ1.out.next HB2.out) (by omega) (by omega) (by rw [HL.out]; exact hm))
          go_wp2_with fail
          refine HSW.out.mono ?_
          rintro e w3 ⟨rfl, hq3, ht3⟩
          have HQ3 := Lib.hid hq3
          have HT3 := Lib.hid ht3
          clear hq3 ht3
          go_wp2_with fail
          go_roundw
          case rel =>
            refine ⟨c1, sw es1 k c1, rfl, by rw [sw_len]; omega, by rw [sw_len]; exact HL.out, ?_, HQ3.out, (HT1.out.trans (S' := fun _ => False) (Turns.of_below HB2.out) (fun _ _ q => q.elim)).trans HT3.out (fun _ _ q => q)⟩
            have hgo := dnF_go (es := es1) (i := k) (n := n) (by omega) (by rw [HC.out]; exact HB.out)
            rw [HC.out] at hgo
            rw [← HU.out]
            exact hgo.symm
          case measure => simp [intOf]; omega
    · have HE : Hid (dnF es1 k n = es1) := Lib.hid (by rw [dnF, dif_neg (by omega)])
      clear hc1
      go_wp2_with fail
      go_ret
      exact ⟨_, rfl, by rw [← HU.out, HE.out]; exact HQ.out, HT.out⟩
set_option maxHeartbeats 400000 in
theorem heappush_any (g t : Nat) (v : Value) (es : List En) (x : En) (w : World) (h : Qu w g v es t) (hm : es.length < 1000000000) :
    Calls Tryz.prog 49 #[HpI g, .iface EnT (.agg x.cells.toArray)] w fun e w' => e = .returned (.tuple #[]) ∧ Qed w g v (pushF es x) t w' := by
  have hmp := meth_push
  have hml := meth_len
  have HPU := Lib.hid (rowpush_any g t v es x w h (by omega))
  clear h
  go_enter Tryz.func49, Tryz.ntmps49
  go_wp2_with fail
  refine HPU.out.mono ?_
  rintro e w1 ⟨rfl, ht1, v1, hq1, hv1⟩
  have hlen : (es ++ [x]).length = es.length + 1 := by simp
  have HLE := Lib.hid (lenq_any g t v1 (es ++ [x]) w1 hq1)
  rw [hlen] at HLE
  have HUP := Lib.hid (pt_up_any g es.length t v1 (es ++ [x]) w1 hq1 (by rw [hlen]; omega) (by rw [hlen]; omega))
  have H := Lib.hid (And.intro ht1 hv1)
  clear ht1 hv1 hq1 hlen
  go_wp2_with fail
  refine HLE.out.mono ?_
  rintro e w2 ⟨rfl, rfl⟩
  go_wp2_with fail
  refine HUP.out.mono ?_
  rintro e w3 ⟨rfl, hq3, ht3⟩
  have H3 := Lib.hid (And.intro hq3 ht3)
  clear hq3 ht3
  go_wp2_with fail
  go_end0
  refine ⟨rfl, H.out.1.trans H3.out.2 (fun j hj q => ?_), v1, H3.out.1, H.out.2⟩
  rcases H.out.2 with e | ⟨j', h1, h2⟩
  · exact .inr (e ▸ q)
  · rw [h2] at q; injection q with q; omega
set_option maxHeartbeats 1000000 in
theorem heappop_any (g t : Nat) (v : Value) (es : List En) (w : World) (h : Qu w g v es t) (hl : 0 < es.length) (hm : es.length ≤ 1000000000) :
    Calls Tryz.prog 67 #[HpI g] w fun e w' => e = .returned (.iface EnT (.agg (popE es).cells.toArray)) ∧ Qed w g v (popF es) t w' := by
  have hmp := meth_pop
  have hml := meth_len
  have hms := meth_swap
  obtain ⟨n, hn⟩ : ∃ n, es.length = n + 1 := ⟨es.length - 1, by omega⟩
  have hn1 : es.length - 1 = n := by omega
  have HLE := Lib.hid (lenq_any g t v es w h)
  rw [hn] at HLE
  have HSW := Lib.hid (swapq_any g 0 n t v es w h hl (by omega) hm)
  have hnm : n + 1 ≤ 1000000000 := by omega
  have HM := Lib.hid hm
  have HN := Lib.hid hn
  have HN1 := Lib.hid hn1
  clear h hl hm hn hn1
  go_enter Tryz.func67, Tryz.ntmps67
  go_wp2_with fail
  refine HLE.out.mono ?_
  rintro e w1 ⟨rfl, rfl⟩
  go_wp2_with fail
  refine HSW.out.mono ?_
  rintro e w2 ⟨rfl, hq2, ht2⟩
  have HDN := Lib.hid (pt_down_any g 0 n t v (sw es 0 n) w2 hq2 (by rw [sw_len, HN.out]; omega) (by rw [sw_len, HN.out]; omega) (by rw [sw_len]; exact HM.out))
  have HT2 := Lib.hid ht2
  clear hq2 ht2
  go_wp2_with fail
  refine HDN.out.mono ?_
  rintro e w3 ⟨bb, rfl, hq3, ht3⟩
  have hlD : (dnF (sw es 0 n) 0 n).length = n + 1 := by rw [(dnF_props n (sw es 0 n) 0 n (by omega) (by rw [sw_len, HN.out]; omega) (by rw [sw_len, HN.out]; omega)).1, sw_len, HN.out]
  have HPO := Lib.hid (rowpop_any g t v (dnF (sw es 0 n) 0 n) w3 hq3 (by omega) (by omega))
  have HT3 := Lib.hid ht3
  rw [hlD, Nat.add_sub_cancel] at HPO
  clear hq3 ht3 hlD
  go_wp2_with fail
  refine HPO.out.mono ?_
  rintro e w4 ⟨rfl, hq4⟩
  have HQ4 := Lib.hid hq4
  clear hq4
  go_wp2_with fail
  go_ret
  have e1 : popE es = ea (dnF (sw es 0 n) 0 n) n := by unfold popE; rw [HN1.out]
  have e2 : popF es = (dnF (sw es 0 n) 0 n).take n := by unfold popF; rw [HN1.out]
  rw [e1, e2]
  obtain ⟨h4, v4, h5, h6⟩ := HQ4.out
  have h23 := HT2.out.trans HT3.out (fun j _ q => q)
  refine ⟨rfl, (h23.mono (S := fun j => j = g ∨ v.ownBlock = some j) (fun j _ q => .inr q)).trans h4 (fun j _ q => q), v4, h5, ?_⟩
  rcases h6 with h6 | ⟨j, h6, h7⟩
  · exact .inl h6
  · exact .inr ⟨j, Nat.le_trans h23.size h6, h7⟩
end
section
open Go.RowKit Go
set_option linter.unusedVariables false
set_option linter.unusedSimpArgs false
/-- .. and block s, which is the call's own, lies apart -/
structure QedX (w : World) (s g : Nat) (v : Value) (es : List En) (t : Nat) (w' : World) : Prop where
  turns : Turns (fun j => j = g ∨ v.ownBlock = some j) w w'
  qu : ∃ v', Qu w' g v' es t ∧ (v'.ownBlock = v.ownBlock ∨ ∃ j, w.heap.size ≤ j ∧ v'.ownBlock = some j) ∧ v'.ownBlock ≠ some s
  gs : g ≠ s
  ns : w.heap.size ≤ s
theorem QedX.qed {w w' : World} {s g t : Nat} {v : Value} {es : List En} (h : QedX w s g v es t w') : Qed w g v es t w' := by
  obtain ⟨v', h1, h2, _⟩ := h.qu
  exact ⟨h.turns, v', h1, h2⟩
theorem QedX.of {w w' : World} {g t t0 : Nat} {v : Value} {es es0 : List En} (h0 : Qu w g v es0 t0) (o : Obj) (h : Qed (w.alloc o) g v es t w') : QedX w w.heap.size g v es t w' := by
  obtain ⟨h1, v', h2, h3⟩ := h
  refine ⟨(Turns.of_below (S := fun j => j = g ∨ v.ownBlock = some j) ((Below.refl w.heap.size w).alloc (Nat.le_refl _) o)).trans h1 (fun _ _ q => q), ⟨v', h2, ?_, ?_⟩, by have := h0.dev.lt; omega, Nat.le_refl _⟩
  · rcases h3 with h3 | ⟨j, h3, h4⟩
    · exact .inl h3
    · exact .inr ⟨j, by simp at h3; omega, h4⟩
  · rcases h3 with h3 | ⟨j, h3, h4⟩
    · rw [h3]; intro q; have := (h0.own.lt _ q).2; omega
    · rw [h4]; intro q; injection q with q; simp at h3; omega
theorem QedX.set_ {w w' : World} {s g t : Nat} {v : Value} {es : List En} (h : QedX w s g v es t w') (i : Nat) (u : Value) : QedX w s g v es t (w'.setCell ⟨s, i, none⟩ u) := by
  obtain ⟨h1, ⟨v', h2, h3, h4⟩, h5, h6⟩ := h
  refine ⟨h1.trans (S' := fun j => j = s) (Turns.set _ _ rfl) (fun j hj q => by omega), ⟨v', ⟨?_, ?_⟩, h3, h4⟩, h5, h6⟩
  · exact h2.dev.keep (Below.heap_setCell _ _ _ _ h5)
  · exact h2.own.keep fun q hq => Below.heap_setCell _ _ _ _ (fun e => h4 (by rw [hq]; show some q = some s; rw [show q = s from e]))
theorem QedX.next {w w' w2 : World} {s g t : Nat} {v : Value} {es : List En} (h : QedX w s g v es t w') (hb : Below w'.heap.size w' w2) : QedX w s g v es t w2 := by
  obtain ⟨h1, ⟨v', h2, h3, h4⟩, h5, h6⟩ := h
  exact ⟨h1.trans (S' := fun _ => False) (Turns.of_below hb) (fun _ _ q => q.elim), ⟨v', h2.next hb, h3, h4⟩, h5, h6⟩
theorem QedX.of_qu {w : World} {g t : Nat} {v : Value} {es : List En} (h : Qu w g v es t) : ∀ w', Below w.heap.size w w' → QedX w w.heap.size g v es t w' := fun w' hb =>
  ⟨Turns.of_below hb, ⟨v, h.next hb, .inl rfl, fun q => by have := (h.own.lt _ q).2; omega⟩, by have := h.dev.lt; omega, Nat.le_refl _⟩
abbrev zeroTh : Obj := .cells #[.int .i64 0, .int .i64 0] 61
theorem assert_en' (x : En) (w : World) : (Instr.typeAssert (.iface EnT (.agg x.cells.toArray)) 20 EnT false).run Tryz.prog w = .ok (.agg x.cells.toArray) w := by kernel_rfl
theorem field_en (x : En) (w : World) : (Instr.field EnT (.agg x.cells.toArray) 0).run Tryz.prog w = .ok (.agg #[.int .i64 x.n, .int .i64 x.m]) w := by kernel_rfl
def TakeE (w : World) (g t : Nat) (v : Value) (es : List En) (e : Ending) (w' : World) : Prop := e = .returned (.agg #[.int .i64 (popE es).n, .int .i64 (popE es).m]) ∧ Qed w g v (popF es) t w'
/-- a fresh thing's cells behind a call -/
theorem fresh_th {w w1 : World} {g : Nat} {v : Value} (ht : Turns (fun j => j = g ∨ v.ownBlock = some j) (w.alloc zeroTh) w1) (hg : g < w.heap.size) (hv : ∀ k, v.ownBlock = some k → k < w.heap.size) : w1.heap[w.heap.size]? = some zeroTh := by
  rw [ht.block w.heap.size (by simp) (fun q => q.elim (fun q => by omega) (fun q => by have := hv _ q; omega))]
  exact heap_alloc_new w _
set_option maxHeartbeats 1000000 in
theorem pt_take_any (g t : Nat) (v : Value) (es : List En) (w : World) (h : Qu w g v es t) (hl : 0 < es.length) (hm : es.length ≤ 1000000000) :
    Calls Tryz.prog 51 #[.pointer (some ⟨g, 0, none⟩)] w (TakeE w g t v es) := by
  obtain ⟨x, hx⟩ : ∃ x, popE es = x := ⟨_, rfl⟩
  have hta := assert_en' x
  have hfd := field_en x
  have HPO := Lib.hid (heappop_any g t v es (w.alloc zeroTh) (h.next ((Below.refl w.heap.size w).alloc (Nat.le_refl _) _)) hl hm)
  have H0 := Lib.hid h
  rw [hx] at HPO
  have HXE := Lib.hid hx
  clear h hx
  go_enter Tryz.func51, Tryz.ntmps51
  go_wp2_with fail
  refine HPO.out.mono ?_
  rintro e w1 ⟨rfl, hq⟩
  have hF := fresh_th hq.turns H0.out.dev.lt (fun k hk => (H0.out.own.lt k hk).2)
  have c0 := blk_cell hF 0
  have c1 := blk_cell hF 1
  have f0 := blk_free hF 0
  have f1 := blk_free hF 1
  have HX := Lib.hid (((QedX.of H0.out _ hq).set_ 0 (.int .i64 x.n)).set_ 1 (.int .i64 x.m))
  clear hq hF
  go_wp2
  exact bodyPost_ret (v := .agg #[.int .i64 x.n, .int .i64 x.m]) (by simp [results, Tryz.results51, go_sem, c0, c1]) rfl ⟨by rw [HXE.out], HX.out.qed⟩
def PopE (w : World) (g t : Nat) (v : Value) (es : List En) (e : Ending) (w' : World) : Prop := e = .returned (.tuple #[.agg #[.int .i64 (popE es).n, .int .i64 (popE es).m], .bool true]) ∧ Qed w g v (popF es) t w'
set_option maxHeartbeats 1000000 in
theorem pop_any (g t : Nat) (v : Value) (es : List En) (w : World) (h : Qu w g v es t) (hl : 0 < es.length) (hm : es.length ≤ 1000000000) :
    Calls Tryz.prog 35 #[.pointer (some ⟨g, 0, none⟩)] w (PopE w g t v es) := by
  obtain ⟨x, hx⟩ : ∃ x, popE es = x := ⟨_, rfl⟩
  have h1 := h.next ((Below.refl w.heap.size w).alloc (Nat.le_refl _) zeroTh)
  have HLN := Lib.hid (qlen_any g t v es (w.alloc zeroTh) h1)
  have HTK := Lib.hid (pt_take_any g t v es (w.alloc zeroTh) h1 hl hm)
  have H0 := Lib.hid h
  unfold TakeE at HTK
  rw [hx] at HTK
  have HXE := Lib.hid hx
  clear h h1 hx
  generalize es.length = n at HLN hl hm ⊢
  have hne : ((n : Int) == 0) = false := by rw [beq_eq_false_iff_ne]; omega
  go_enter Tryz.func35, Tryz.ntmps35
  go_wp2_with (go_at_call 50; (with_reducible refine HLN.out.mono ?_); rintro e w' ⟨rfl, rfl⟩)
  refine HTK.out.mono ?_
  rintro e w1 ⟨rfl, hq⟩
  have hF := fresh_th hq.turns H0.out.dev.lt (fun k hk => (H0.out.own.lt k hk).2)
  have c0 := blk_cell hF 0
  have c1 := blk_cell hF 1
  have f0 := blk_free hF 0
  have f1 := blk_free hF 1
  have HX := Lib.hid (((QedX.of H0.out _ hq).set_ 0 (.int .i64 x.n)).set_ 1 (.int .i64 x.m))
  clear hq hF
  go_wp2
  exact bodyPost_ret (v := .tuple #[.agg #[.int .i64 x.n, .int .i64 x.m], .bool true]) (by simp [results, Tryz.results35, go_sem, c0, c1]) rfl ⟨by rw [HXE.out], HX.out.qed⟩
theorem pop_none (g t : Nat) (v : Value) (w : World) (h : Qu w g v [] t) :
    Calls Tryz.prog 35 #[.pointer (some ⟨g, 0, none⟩)] w fun e w' => e = .returned (.tuple #[.agg #[.int .i64 0, .int .i64 0], .bool false]) ∧ Below w.heap.size w w' := by
  have HLN := Lib.hid (qlen_any g t v [] (w.alloc zeroTh) (h.next ((Below.refl w.heap.size w).alloc (Nat.le_refl _) zeroTh)))
  clear h
  go_enter Tryz.func35, Tryz.ntmps35
  go_wp2_with (go_at_call 50; (with_reducible refine HLN.out.mono ?_); rintro e w' ⟨rfl, rfl⟩)
  refine bodyPost_ret (v := .tuple #[.agg #[.int .i64 0, .int .i64 0], .bool false]) (by simp [results, Tryz.results35, go_sem]) rfl ⟨rfl, ?_⟩
  first | exact ((Below.refl _ _).alloc (Nat.le_refl _) _).alloc (by simp) _ | exact (Below.refl _ _).alloc (Nat.le_refl _) _
theorem peek_none (g t : Nat) (v : Value) (w : World) (h : Qu w g v [] t) :
    Calls Tryz.prog 36 #[.pointer (some ⟨g, 0, none⟩)] w fun e w' => e = .returned (.tuple #[.agg #[.int .i64 0, .int .i64 0], .bool false]) ∧ Below w.heap.size w w' := by
  have HLN := Lib.hid (qlen_any g t v [] (w.alloc zeroTh) (h.next ((Below.refl w.heap.size w).alloc (Nat.le_refl _) zeroTh)))
  clear h
  go_enter Tryz.func36, Tryz.ntmps36
  go_wp2_with (go_at_call 50; (with_reducible refine HLN.out.mono ?_); rintro e w' ⟨rfl, rfl⟩)
  refine bodyPost_ret (v := .tuple #[.agg #[.int .i64 0, .int .i64 0], .bool false]) (by simp [results, Tryz.results36, go_sem]) rfl ⟨rfl, ?_⟩
  first | exact ((Below.refl _ _).alloc (Nat.le_refl _) _).alloc (by simp) _ | exact (Below.refl _ _).alloc (Nat.le_refl _) _
set_option maxHeartbeats 1000000 in
theorem peek_any (g t : Nat) (v : Value) (es : List En) (w : World) (h : Qu w g v es t) (hl : 0 < es.length) (hm : es.length ≤ 1000000000) :
    Calls Tryz.prog 36 #[.pointer (some ⟨g, 0, none⟩)] w fun e w' => e = .returned (.tuple #[.agg #[.int .i64 (ea es 0).n, .int .i64 (ea es 0).m], .bool true]) ∧ Below w.heap.size w w' := by
  obtain ⟨b, cap, rfl, hb⟩ := h.pos hl
  have h1 := h.next ((Below.refl w.heap.size w).alloc (Nat.le_refl _) zeroTh)
  have HLN := Lib.hid (qlen_any g t _ es (w.alloc zeroTh) h1)
  have a := h1.own.at_ hl
  have a0 := a.c0
  have a1 := a.c1
  have k1 := h1.dev.l
  have hgl := h.dev.lt
  have hbl := (h.own.lt b (by rfl)).2
  rw [Nat.zero_mul] at a0 a1
  clear h h1 a
  generalize es.length = n at HLN hl hm ⊢ k1
  have hne : ((n : Int) == 0) = false := by rw [beq_eq_false_iff_ne]; omega
  go_enter Tryz.func36, Tryz.ntmps36
  go_wp2_with (go_at_call 50; (with_reducible refine HLN.out.mono ?_); rintro e w' ⟨rfl, rfl⟩)
  refine bodyPost_ret (v := .tuple #[.agg #[.int .i64 (ea es 0).n, .int .i64 (ea es 0).m], .bool true]) (by simp [results, Tryz.results36, go_sem]) rfl ⟨rfl, ?_⟩
  first | exact ((Below.refl _ _).alloc (Nat.le_refl _) _).alloc (by simp) _ | exact (Below.refl _ _).alloc (Nat.le_refl _) _
theorem newq_nil (w : World) : Calls Tryz.prog 32 #[.nilFunc] w fun e w' => e = .returned (.pointer none) ∧ w = w' := by
  have q : ∀ w : World, (binOp .eql 67 .nilFunc .nilFunc).run Tryz.prog w = .ok (.bool true) w := fun _ => by kernel_rfl
  go_enter Tryz.func32, Tryz.ntmps32
  go_wp2
  go_ret
  exact ⟨rfl, rfl⟩
def NewQ (w : World) (e : Ending) (w' : World) : Prop := e = .returned (.pointer (some ⟨w.heap.size, 0, none⟩)) ∧ Qu w' w.heap.size (.slice none 0 0) [] 0 ∧ Below w.heap.size w w'
theorem newq_any (w : World) : Calls Tryz.prog 32 #[.func (Fn.func 33) #[] #[]] w (NewQ w) := by
  have q : ∀ w : World, (binOp .eql 67 (.func (Fn.func 33) #[] #[]) .nilFunc).run Tryz.prog w = .ok (.bool false) w := fun _ => by kernel_rfl
  have H : Hid (NewQ w (.returned (.pointer (some ⟨w.heap.size, 0, none⟩))) (w.alloc (.cells #[.func (Fn.func 33) #[] #[], .slice none 0 0, .int .u64 0] QuT))) :=
    Lib.hid ⟨rfl, ⟨heap_alloc_new w _, World.ownsRow_nil _ _ _ _⟩, (Below.refl _ _).alloc (Nat.le_refl _) _⟩
  go_enter Tryz.func32, Tryz.ntmps32
  go_wp2
  go_ret
  exact H.out
end
section
open Go
set_option linter.unusedVariables false
set_option linter.unusedSimpArgs false
section
variable {P : Program} {ops : Array Oper} {Q : Exit → Act → World → Prop} {md : Region.Mode} {S : World → Prop} {fin : List Nat}
/-- those among the first operations that wait for number i, in whatever steps -/
def behindL (md : Region.Mode) (i : Nat) : List Oper → Nat → List Nat → List Nat
  | [], _, acc => acc
  | o :: r, k, acc => behindL md i r (k + 1) (if o.after.any (fun e => Region.binds md e && (e.on == i || acc.contains e.on)) then k :: acc else acc)
def closedB (md : Region.Mode) (ops : Array Oper) (listed : Array Bool) : Bool :=
  (List.range ops.size).all fun k => !listed.getD k false || (match ops[k]? with | some o => o.after.all (fun e => !Region.binds md e || listed.getD e.on false) | none => true)
def ClosedP (md : Region.Mode) (ops : Array Oper) (listed : Array Bool) : Prop := ∀ k o, ops[k]? = some o → listed.getD k false = true → ∀ e ∈ o.after, Region.binds md e = true → listed.getD e.on false = true
theorem closed_of {listed : Array Bool} (h : closedB md ops listed = true) : ClosedP md ops listed := fun k o ho hk e he hb => by
  have hlt : k < ops.size := (Array.getElem?_eq_some_iff.1 ho).1
  have h1 := List.all_eq_true.mp h k (List.mem_range.2 hlt)
  simp only [ho, hk, Bool.not_true, Bool.false_or] at h1
  have h2 := Array.all_eq_true'.1 h1 e he
  simpa [hb] using h2
theorem closed_set {listed : Array Bool} (h : ClosedP md ops listed) {j : Nat} (hr : j ∈ Region.ready md ops listed) : ClosedP md ops (listed.setIfInBounds j true) := fun k o ho hk e he hb => by
  have up : ∀ q, listed.getD q false = true → (listed.setIfInBounds j true).getD q false = true := fun q hq => by
    by_cases e : q = j
    · subst e
      rcases Nat.lt_or_ge q listed.size with h' | h'
      · simp [h']
      · simp [Array.getElem?_eq_none h'] at hq
    · simp [Array.getElem?_setIfInBounds, Ne.symm e] at hq ⊢; exact hq
  by_cases hkj : k = j
  · subst hkj
    obtain ⟨_, o', ho', hall⟩ := mem_ready.1 hr
    obtain rfl : o = o' := Option.some.inj (ho.symm.trans ho')
    exact up _ (hall e he hb)
  · refine up _ (h k o ho ?_ e he hb)
    simp [Array.getElem?_setIfInBounds, Ne.symm hkj] at hk ⊢; exact hk
theorem behind_un {listed : Array Bool} {i : Nat} (hcl : ClosedP md ops listed) (hi : listed.getD i false = false) : ∀ (r : List Oper) (k : Nat) (acc : List Nat), (∀ q o, r[q]? = some o → ops[k + q]? = some o) →
    (∀ j ∈ acc, listed.getD j false = false ∧ ∃ o, ops[j]? = some o ∧ ∃ e ∈ o.after, Region.binds md e = true ∧ listed.getD e.on false = false) →
    ∀ j ∈ behindL md i r k acc, listed.getD j false = false ∧ ∃ o, ops[j]? = some o ∧ ∃ e ∈ o.after, Region.binds md e = true ∧ listed.getD e.on false = false
  | [], _, _, _, h, j, hj => h j hj
  | o :: r, k, acc, hops, h, j, hj => by
    refine behind_un hcl hi r (k + 1) _ (fun q o' hq => by have := hops (q + 1) o' hq; rwa [show k + 1 + q = k + (q + 1) by omega]) ?_ j hj
    intro j' hj'
    split at hj'
    · rename_i hany
      rcases List.mem_cons.1 hj' with rfl | hj'
      · obtain ⟨e, he, hb⟩ := Array.any_eq_true'.1 hany
        simp only [Bool.and_eq_true, Bool.or_eq_true, beq_iff_eq] at hb
        have ho : ops[j']? = some o := hops 0 o rfl
        have hun : listed.getD e.on false = false := by
          rcases hb.2 with h1 | h1
          · rw [h1]; exact hi
          · exact (h e.on (by simpa using h1)).1
        refine ⟨?_, o, ho, e, he, hb.1, hun⟩
        cases hq : listed.getD j' false
        · rfl
        · have := hcl j' o ho hq e he hb.1
          rw [hun] at this; cases this
      · exact h j' hj'
    · exact h j' hj'
/-- each of the operations fin waits for number i, in whatever steps -/
def waitsFar (md : Region.Mode) (ops : Array Oper) (fin : List Nat) (i : Nat) : Bool := fin.all fun k => (behindL md i ops.toList 0 []).contains k
theorem wpAnyG_first {i : Nat} {oi : Oper} {v : Value} (hi : ops[i]? = some oi) (hsel : ∀ (j : Nat) (o : Oper) cs b, ops[j]? = some o → o.op ≠ .select cs b)
    (hQ : ∀ c a w, Q (.panic c) (a.put oi.dst v) w → Q (.panic c) a w) (hfin : waitsFar md ops fin i = true) :
    ∀ (fuel : Nat) (listed : Array Bool) (a : Act) (w : World), ClosedP md ops listed →
      (∀ j oj, ops[j]? = some oj → j ≠ i → listed.getD j true = false → (∀ e ∈ oj.after, Region.binds md e = true → e.on ≠ i) → oi.apart ops oj = true) →
      i ∈ Region.ready md ops listed → YieldsIf P ops S oi v a → S w →
      wpAnyF P md ops Q S fin fuel (listed.setIfInBounds i true) (a.put oi.dst v) w → wpAnyF P md ops Q S fin (fuel + 1) listed a w := by
  intro fuel
  induction fuel with
  | zero =>
    intro listed a w _ _ hr hy hS H
    refine ⟨fun h => (by rw [h] at hr; cases hr), fun j hj => ?_⟩
    by_cases hji : j = i
    · subst hji; exact hy.wpOp hi hS ⟨fun _ => hS, H⟩
    · have := ready_mono hj hji
      rw [H.1] at this
      cases this
  | succ fuel ih =>
    intro listed a w hcl hfree hr hy hS H
    refine ⟨fun h => (by rw [h] at hr; cases hr), fun j hj => ?_⟩
    by_cases hji : j = i
    · subst hji; exact hy.wpOp hi hS ⟨fun _ => hS, H⟩
    · obtain ⟨hjun, oj, hoj, hall⟩ := mem_ready.1 hj
      have hun : listed.getD i false = false := by
        have h0 := (mem_ready.1 hr).1
        rcases Nat.lt_or_ge i listed.size with h' | h'
        · simpa [h'] using h0
        · simp [Array.getElem?_eq_none h']
      have hnot : ∀ e ∈ oj.after, Region.binds md e = true → e.on ≠ i := fun e he hb heq => by
        have h1 := hall e he hb
        rw [heq, hun] at h1; cases h1
      have hjf : j ∉ fin := fun hm => by
        have hc := List.all_eq_true.mp hfin j hm
        obtain ⟨_, o, ho, e, he, hb, hu⟩ := behind_un (k := 0) (r := ops.toList) (acc := []) hcl hun (fun q o hq => by rw [Nat.zero_add]; simpa using hq) (fun _ h => by cases h) j (by simpa using hc)
        obtain rfl : o = oj := Option.some.inj (ho.symm.trans hoj)
        have := hall e he hb
        rw [hu] at this; cases this
      have h1 := H.2 j (ready_mono hj hji)
      have h2 := wpOp_putIf hoj (hfree j oj hoj hji hjun hnot) (fun cs b => hsel i oi cs b hi) (fun cs b => hsel j oj cs b hoj) hQ hy h1
      have hfree' : ∀ k ok, ops[k]? = some ok → k ≠ i → (listed.setIfInBounds j true).getD k true = false →
          (∀ e ∈ ok.after, Region.binds md e = true → e.on ≠ i) → oi.apart ops ok = true := fun k ok hk hki hun hno => by
        refine hfree k ok hk hki ?_ hno
        by_cases hjk : j = k
        · subst hjk; exact hjun
        · rw [getD_set_ne true hjk] at hun; exact hun
      refine wpOp_mono (fun a' w' h3 => ⟨h3.2.1, ih (listed.setIfInBounds j true) a' w' (closed_set hcl hj) hfree' (ready_mono hr (Ne.symm hji)) h3.1 (h3.2.1 hjf) ?_⟩) h2
      rw [Array.setIfInBounds_comm _ _ hji]
      exact h3.2.2
theorem wpAnyG_take {i : Nat} {oi : Oper} {v : Value} {fuel : Nat} {listed : Array Bool} {a : Act} {w : World} (hi : ops[i]? = some oi)
    (hs : Region.noSelect ops = true) (hf : Region.free md ops listed i = true) (hr : (Region.ready md ops listed).contains i = true) (hfin : waitsFar md ops fin i = true) (hcl : closedB md ops listed = true)
    (hQ : ∀ c a w, Q (.panic c) (a.put oi.dst v) w → Q (.panic c) a w) (hy : YieldsIf P ops S oi v a) (hS : S w)
    (h : wpAnyF P md ops Q S fin fuel (listed.setIfInBounds i true) (a.put oi.dst v) w) : wpAnyF P md ops Q S fin (fuel + 1) listed a w :=
  wpAnyG_first hi (Region.noSelect_spec hs) hQ hfin fuel listed a w (closed_of hcl) (Region.free_spec hi hf) (by simpa using hr) hy hS h
end
end
section
open Go.RowKit Go
set_option linter.unusedVariables false
set_option linter.unusedSimpArgs false
/-- a slice of things that reads as l -/
structure TS (W : World) (A : Option Addr) (n c : Nat) (l : List (Int × Int)) : Prop where
  len : l.length = n
  cap : n ≤ c
  capm : c ≤ 9223372036854775807
  at_ : 0 < n → ∃ b o, A = some ⟨b, o, none⟩ ∧ b < W.heap.size ∧ ∀ i, i < n → W.cell? ⟨b, o + i * 2, none⟩ = some (.int .i64 (l.getD i (0, 0)).1) ∧ W.cell? ⟨b, o + i * 2 + 1, none⟩ = some (.int .i64 (l.getD i (0, 0)).2)
theorem TS.turns {W W' : World} {n c : Nat} {A : Option Addr} {l : List (Int × Int)} {S : Nat → Prop} (h : TS W A n c l) (ht : Turns S W W') (hs : ∀ ad, A = some ad → ¬ S ad.block) : TS W' A n c l :=
  ⟨h.len, h.cap, h.capm, fun hn => by
    obtain ⟨b, o, h1, h3, h4⟩ := h.at_ hn
    have e := ht.block b h3 (hs ⟨b, o, none⟩ h1)
    exact ⟨b, o, h1, Nat.lt_of_lt_of_le h3 ht.size, fun i hi => ⟨(World.cell?_of_block (a := ⟨b, o + i * 2, none⟩) e).trans (h4 i hi).1, (World.cell?_of_block (a := ⟨b, o + i * 2 + 1, none⟩) e).trans (h4 i hi).2⟩⟩⟩
theorem TS.below {W W' : World} {n c : Nat} {A : Option Addr} {l : List (Int × Int)} (h : TS W A n c l) (hb : Below W.heap.size W W') : TS W' A n c l := h.turns (S := fun _ => False) (Turns.of_below hb) (fun _ _ q => q)
theorem pushF_len (es : List En) (e : En) : (pushF es e).length = es.length + 1 := by unfold pushF; rw [upF_len]; simp
def PuR (g t : Nat) (v : Value) (es : List En) (l : List (Int × Int)) (w0 : World) (i : Value) (W : World) : Prop :=
  ∃ (k : Nat) (es1 : List En), i = .int .i64 (k : Int) ∧ k ≤ l.length ∧ es1.length = es.length + k ∧ pushN es1 (t + k) (l.drop k) = pushN es t l ∧ Qed w0 g v es1 (t + k) W
theorem Qed.trans {w w1 w2 : World} {g t' : Nat} {v v1 : Value} {es' : List En} (h : Turns (fun j => j = g ∨ v.ownBlock = some j) w w1) (hv : v1.ownBlock = v.ownBlock ∨ ∃ j, w.heap.size ≤ j ∧ v1.ownBlock = some j) (k : Qed w1 g v1 es' t' w2) : Qed w g v es' t' w2 := by
  obtain ⟨k1, v2, k2, k3⟩ := k
  refine ⟨h.trans k1 (fun j hj q => ?_), v2, k2, ?_⟩
  · rcases q with q | q
    · exact .inl q
    · rcases hv with hv | ⟨j', h1, h2⟩
      · exact .inr (hv ▸ q)
      · rw [h2] at q; injection q with q; omega
  · rcases k3 with k3 | ⟨j, k3, k4⟩
    · rw [k3]; exact hv
    · exact .inr ⟨j, Nat.le_trans h.size k3, k4⟩
set_option maxHeartbeats 2000000 in
set_option maxRecDepth 100000 in
theorem push_any (g t n c : Nat) (A : Option Addr) (v : Value) (es : List En) (l : List (Int × Int)) (w : World) (h : Qu w g v es t) (hs : TS w A n c l) (hA : 0 < n → ∀ ad, A = some ad → ad.block ≠ g ∧ v.ownBlock ≠ some ad.block) (hm : es.length + n ≤ 1000000000) (htm : t + n ≤ 1000000000) :
    Calls Tryz.prog 34 #[.pointer (some ⟨g, 0, none⟩), .slice A n c] w fun e w' => e = .returned (.tuple #[]) ∧ Qed w g v (pushN es t l) (t + n) w' := by
  have H0 := Lib.hid (noneq_any g w h.dev.less)
  have hln := hs.len
  have hcn := hs.cap
  have hcm := hs.capm
  have HST : Hid (PuR g t v es l w (.int .i64 0) w) := Lib.hid ⟨0, es, rfl, Nat.zero_le _, rfl, rfl, Qed.of_qu h⟩
  have HTS := Lib.hid hs
  have HV := Lib.hid h.own.lt
  have HA := Lib.hid hA
  clear h hs hA
  have HLN := Lib.hid hln
  clear hln
  go_enter Tryz.func34, Tryz.ntmps34
  go_wp2_with (go_at_call 48; (with_reducible refine H0.out.mono ?_); rintro e w' ⟨rfl, rfl⟩)
  go_loopw [10] (fun i W => PuR g t v es l w i W) (fun i _ => n - (intOf i).toNat)
  case atStart => exact HST.out
  case round =>
    obtain ⟨k, es1, rfl, hk, hl1, hpu, hqd⟩ := hrel
    rw [HLN.out] at hk
    obtain ⟨ht1, v1, hq1, hv1⟩ := hqd
    have HPN := Lib.hid hpu
    have HL1 := Lib.hid hl1
    have HT1 := Lib.hid ht1
    have HQ1 := Lib.hid hq1
    have HV1 := Lib.hid hv1
    clear hpu hl1 ht1 hq1 hv1 HST
    by_cases hlt : k < n
    · have hts := HTS.out.turns HT1.out (fun ad had q => q.elim (HA.out (by omega) ad had).1 (HA.out (by omega) ad had).2)
      obtain ⟨b, o, rfl, hbW, hcell⟩ := hts.at_ (by omega)
      obtain ⟨x, hx⟩ : ∃ x, x = l.getD k (0, 0) := ⟨_, rfl⟩
      have a := (hcell k hlt).1
      have a2 := (hcell k hlt).2
      rw [← hx] at a a2
      have HX := Lib.hid hx
      have hgl := HQ1.out.dev.lt
      have htn := HQ1.out.dev.turn
      have hQA := HQ1.out.next ((Below.refl wr.heap.size wr).alloc (Nat.le_refl _) (.cells #[.int .i64 x.1, .int .i64 x.2] 61))
      have hal := heap_alloc_new wr (.cells #[.int .i64 x.1, .int .i64 x.2] 61)
      have HS : Hid ((fun W => W.cell? ⟨wr.heap.size, 0, none⟩ = some (.int .i64 x.1) ∧ W.cell? ⟨wr.heap.size, 1, none⟩ = some (.int .i64 x.2) ∧ W.cell? ⟨g, 2, none⟩ = some (.int .u64 ((t + k : Nat) : Int))) (wr.alloc (.cells #[.int .i64 x.1, .int .i64 x.2] 61)).drew) := Lib.hid ⟨blk_cell hal 0, blk_cell hal 1, hQA.dev.turn⟩
      have hQD : Qu (wr.alloc (.cells #[.int .i64 x.1, .int .i64 x.2] 61)).drew g v1 es1 (t + k) := ⟨hQA.dev, World.ownsRow.drew hQA.own⟩
      have HPU := Lib.hid (heappush_any g (t + k) v1 es1 ⟨x.1, x.2, t + k⟩ _ hQD (by rw [HL1.out]; omega))
      have HTA : Hid (Turns (fun j => j = g ∨ v.ownBlock = some j) w (wr.alloc (.cells #[.int .i64 x.1, .int .i64 x.2] 61)).drew) := Lib.hid (HT1.out.trans (S' := fun _ => False) (Turns.of_below (((Below.refl _ _).alloc (Nat.le_refl _) _).drew)) (fun _ _ q => q.elim))
      have hk2 : t + k < 1000000000 := by omega
      clear hx hcell hts hal hQA hQD htn
      go_wp2_with fail
      refine wp_region_F (S := (fun W => W.cell? ⟨wr.heap.size, 0, none⟩ = some (.int .i64 x.1) ∧ W.cell? ⟨wr.heap.size, 1, none⟩ = some (.int .i64 x.2) ∧ W.cell? ⟨g, 2, none⟩ = some (.int .u64 ((t + k : Nat) : Int)))) [11] (by kernel_rfl) HS.out (fun hHeld => ?_)
      refine wpAnyG_take (i := 0) (oi := _) (v := ?_) rfl (by kernel_rfl) (by kernel_rfl) (by kernel_rfl) (by kernel_rfl) (by kernel_rfl) (fun _ _ _ h => h) (Or.inl ⟨by rfl, ?_⟩) (by assumption) ?_
      rotate_left 1
      · intro w hSw
        (try dsimp only at hSw)
        (first | (go_simp; done) | (go_simp; with_reducible rfl))
      (try simp only [Act.put, List.getElem_toArray, List.getElem_cons_succ, List.getElem_cons_zero, List.setIfInBounds_toArray, List.set_cons_zero, List.set_cons_succ])
      refine wpAnyG_take (i := 1) (oi := _) (v := ?_) rfl (by kernel_rfl) (by kernel_rfl) (by kernel_rfl) (by kernel_rfl) (by kernel_rfl) (fun _ _ _ h => h) (Or.inl ⟨by rfl, ?_⟩) (by assumption) ?_
      rotate_left 1
      · intro w hSw
        (try dsimp only at hSw)
        (first | (go_simp; done) | (go_simp; with_reducible rfl))
      (try simp only [Act.put, List.getElem_toArray, List.getElem_cons_succ, List.getElem_cons_zero, List.setIfInBounds_toArray, List.set_cons_zero, List.set_cons_succ])
      refine wpAnyG_take (i := 2) (oi := _) (v := ?_) rfl (by kernel_rfl) (by kernel_rfl) (by kernel_rfl) (by kernel_rfl) (by kernel_rfl) (fun _ _ _ h => h) (Or.inl ⟨by rfl, ?_⟩) (by assumption) ?_
      rotate_left 1
      · intro w hSw
        (try dsimp only at hSw)
        (first | (go_simp; done) | (go_simp; with_reducible rfl))
      (try simp only [Act.put, List.getElem_toArray, List.getElem_cons_succ, List.getElem_cons_zero, List.setIfInBounds_toArray, List.set_cons_zero, List.set_cons_succ])
      refine wpAnyG_take (i := 3) (oi := _) (v := ?_) rfl (by kernel_rfl) (by kernel_rfl) (by kernel_rfl) (by kernel_rfl) (by kernel_rfl) (fun _ _ _ h => h) (Or.inl ⟨by rfl, ?_⟩) (by assumption) ?_
      rotate_left 1
      · intro w hSw
        (try dsimp only at hSw)
        (first | (go_simp; done) | (go_simp; with_reducible rfl))
      (try simp only [Act.put, List.getElem_toArray, List.getElem_cons_succ, List.getElem_cons_zero, List.setIfInBounds_toArray, List.set_cons_zero, List.set_cons_succ])
      refine wpAnyG_take (i := 4) (oi := _) (v := ?_) rfl (by kernel_rfl) (by kernel_rfl) (by kernel_rfl) (by kernel_rfl) (by kernel_rfl) (fun _ _ _ h => h) (Or.inl ⟨by rfl, ?_⟩) (by assumption) ?_
      rotate_left 1
      · intro w hSw
        (try dsimp only at hSw)
        (first | (go_simp; done) | (go_simp; with_reducible rfl))
      (try simp only [Act.put, List.getElem_toArray, List.getElem_cons_succ, List.getElem_cons_zero, List.setIfInBounds_toArray, List.set_cons_zero, List.set_cons_succ])
      refine wpAnyG_take (i := 5) (oi := _) (v := ?_) rfl (by kernel_rfl) (by kernel_rfl) (by kernel_rfl) (by kernel_rfl) (by kernel_rfl) (fun _ _ _ h => h) (Or.inl ⟨by rfl, ?_⟩) (by assumption) ?_
      rotate_left 1
      · intro w hSw
        (try dsimp only at hSw)
        (first | (go_simp; done) | (go_simp; with_reducible rfl))
      (try simp only [Act.put, List.getElem_toArray, List.getElem_cons_succ, List.getElem_cons_zero, List.setIfInBounds_toArray, List.set_cons_zero, List.set_cons_succ])
      refine wpAnyG_take (i := 6) (oi := _) (v := ?_) rfl (by kernel_rfl) (by kernel_rfl) (by kernel_rfl) (by kernel_rfl) (by kernel_rfl) (fun _ _ _ h => h) (Or.inl ⟨by rfl, ?_⟩) (by assumption) ?_
      rotate_left 1
      · intro w hSw
        (try dsimp only at hSw)
        (first | (go_simp; done) | (go_simp; with_reducible rfl))
      (try simp only [Act.put, List.getElem_toArray, List.getElem_cons_succ, List.getElem_cons_zero, List.setIfInBounds_toArray, List.set_cons_zero, List.set_cons_succ])
      refine wpAnyG_take (i := 7) (oi := _) (v := ?_) rfl (by kernel_rfl) (by kernel_rfl) (by kernel_rfl) (by kernel_rfl) (by kernel_rfl) (fun _ _ _ h => h) (Or.inl ⟨by rfl, ?_⟩) (by assumption) ?_
      rotate_left 1
      · intro w hSw
        (try dsimp only at hSw)
        (first | (go_simp; done) | (go_simp; with_reducible rfl))
      (try simp only [Act.put, List.getElem_toArray, List.getElem_cons_succ, List.getElem_cons_zero, List.setIfInBounds_toArray, List.set_cons_zero, List.set_cons_succ])
      refine wpAnyG_take (i := 8) (oi := _) (v := ?_) rfl (by kernel_rfl) (by kernel_rfl) (by kernel_rfl) (by kernel_rfl) (by kernel_rfl) (fun _ _ _ h => h) (Or.inl ⟨by rfl, ?_⟩) (by assumption) ?_
      rotate_left 1
      · intro w hSw
        (try dsimp only at hSw)
        (first | (go_simp; done) | (go_simp; with_reducible rfl))
      (try simp only [Act.put, List.getElem_toArray, List.getElem_cons_succ, List.getElem_cons_zero, List.setIfInBounds_toArray, List.set_cons_zero, List.set_cons_succ])
      refine wpAnyG_take (i := 9) (oi := _) (v := ?_) rfl (by kernel_rfl) (by kernel_rfl) (by kernel_rfl) (by kernel_rfl) (by kernel_rfl) (fun _ _ _ h => h) (Or.inl ⟨by rfl, ?_⟩) (by assumption) ?_
      rotate_left 1
      · intro w hSw
        (try dsimp only at hSw)
        (first | (go_simp; done) | (go_simp; with_reducible rfl))
      (try simp only [Act.put, List.getElem_toArray, List.getElem_cons_succ, List.getElem_cons_zero, List.setIfInBounds_toArray, List.set_cons_zero, List.set_cons_succ])
      refine wpAnyG_take (i := 10) (oi := _) (v := ?_) rfl (by kernel_rfl) (by kernel_rfl) (by kernel_rfl) (by kernel_rfl) (by kernel_rfl) (fun _ _ _ h => h) (Or.inl ⟨by rfl, ?_⟩) (by assumption) ?_
      rotate_left 1
      · intro w hSw
        (try dsimp only at hSw)
        (first | (go_simp; done) | (go_simp; with_reducible rfl))
      (try simp only [Act.put, List.getElem_toArray, List.getElem_cons_succ, List.getElem_cons_zero, List.setIfInBounds_toArray, List.set_cons_zero, List.set_cons_succ])
      refine wpAnyF_ready (rs := [11]) (by kernel_rfl) (by simp) ?_
      refine AllReadyF.last (o := _) rfl (by rfl) (fun K hK => ?_) AllReadyF.nil
      go_simp
      go_at_call 49
      refine HPU.out.mono ?_
      rintro en w2 ⟨rfl, hq2⟩
      have HQ2 := Lib.hid hq2
      clear hq2
      refine hK.out _ _ ?_
      clear hK K
      (try simp only [Act.put, List.getElem_toArray, List.getElem_cons_succ, List.getElem_cons_zero, List.setIfInBounds_toArray, List.set_cons_zero, List.set_cons_succ])
      refine wpAnyF_done (by kernel_rfl) ?_ _
      obtain ⟨ht2, v2, hq2, hv2⟩ := HQ2.out
      have k2 := hq2.dev.turn
      have f2 := hq2.dev.free 2
      have hgl2 := hq2.dev.lt
      have HE : Hid (Qed w g v (pushF es1 ⟨x.1, x.2, t + k⟩) (t + (k + 1)) (w2.setCell ⟨g, 2, none⟩ (.int .u64 ((t + k : Nat) + 1 : Int)))) := Lib.hid (Qed.trans HTA.out HV1.out ⟨ht2.trans (S' := fun j => j = g) (Turns.set _ _ rfl) (fun j _ q => .inl q), v2, ⟨by
        have := blk_set hq2.dev 2 (.int .u64 ((t + k : Nat) + 1 : Int))
        unfold QuB
        rw [this]
        simp [Nat.add_assoc]; omega, hq2.own.keep fun q hq => Below.heap_setCell _ _ _ _ (by have := (hq2.own.lt q hq).1; show q ≠ g; omega)⟩, hv2⟩)
      clear ht2 hq2 hv2 hHeld
      go_wp2_with fail
      go_roundw
      case rel =>
        refine ⟨k + 1, _, by go_num, by rw [HLN.out]; omega, by rw [pushF_len, HL1.out]; omega, ?_, HE.out⟩
        rw [← HPN.out]
        have hd : l.drop k = x :: l.drop (k + 1) := by
          rw [List.drop_eq_getElem_cons (by rw [HLN.out]; exact hlt), HX.out, List.getD_eq_getElem?_getD, List.getElem?_eq_getElem (by rw [HLN.out]; exact hlt)]; rfl
        rw [hd]; rfl
      case measure => simp [intOf]; omega
    · obtain rfl : k = n := by omega
      go_wp2_with fail
      go_end0
      refine ⟨rfl, ?_⟩
      rw [← HPN.out, List.drop_of_length_le (by rw [HLN.out]; exact Nat.le_refl _)]
      exact ⟨HT1.out, v1, HQ1.out, HV1.out⟩
def flatT (xs : List (Int × Int)) : List Value := xs.flatMap fun p => [.int .i64 p.1, .int .i64 p.2]
theorem flatT_len (xs : List (Int × Int)) : (flatT xs).length = xs.length * 2 := by
  induction xs with
  | nil => rfl
  | cons e r ih => simp only [flatT, List.flatMap_cons, List.length_append, List.length_cons, List.length_nil] at *; omega
theorem flatT_get (xs : List (Int × Int)) : ∀ i, i < xs.length → (flatT xs)[i * 2]? = some (.int .i64 (xs.getD i (0, 0)).1) ∧ (flatT xs)[i * 2 + 1]? = some (.int .i64 (xs.getD i (0, 0)).2) := by
  induction xs with
  | nil => intro i h; simp at h
  | cons e r ih =>
    intro i hi
    have e1 : flatT (e :: r) = [.int .i64 e.1, .int .i64 e.2] ++ flatT r := rfl
    rw [e1]
    cases i with
    | zero => exact ⟨rfl, rfl⟩
    | succ i =>
      have h3 : ([.int .i64 e.1, .int .i64 e.2] : List Value).length = 2 := rfl
      have := ih i (by simpa using hi)
      rw [List.getElem?_append_right (by omega), List.getElem?_append_right (by omega), h3, show (i + 1) * 2 - 2 = i * 2 by omega, show (i + 1) * 2 + 1 - 2 = i * 2 + 1 by omega]
      exact this
theorem flatT_one (xs : List (Int × Int)) : ∀ u ∈ flatT xs, u.oneCell' = true := by
  intro u hu
  obtain ⟨p, _, hp⟩ := List.mem_flatMap.1 hu
  simp at hp
  rcases hp with rfl | rfl <;> rfl
theorem flatT_snoc (xs : List (Int × Int)) (p : Int × Int) : flatT (xs ++ [p]) = flatT xs ++ [.int .i64 p.1, .int .i64 p.2] := by simp [flatT]
abbrev ThT : TypeId := 61
/-- a row of things of the call's own -/
def OwnT (W : World) (B : Nat) (v : Value) (xs : List (Int × Int)) : Prop := W.ownsRow B ThT 2 v xs.length (flatT xs)
theorem OwnT.keep {W W' : World} {B : Nat} {v : Value} {es : List (Int × Int)} (h : OwnT W B v es) (hk : ∀ g, v.ownBlock = some g → W'.heap[g]? = W.heap[g]?) : OwnT W' B v es := by
  obtain ⟨h1, h2⟩ := h
  refine ⟨h1, ?_⟩
  rcases h2 with h2 | ⟨g, cap, cur, hv, hg, hh, hr⟩
  · exact .inl h2
  · exact .inr ⟨g, cap, cur, hv, hg, (hk g (by rw [hv]; rfl)).trans hh, hr⟩
theorem OwnT.lt {W : World} {B : Nat} {v : Value} {es : List (Int × Int)} (h : OwnT W B v es) : ∀ k, v.ownBlock = some k → B ≤ k ∧ k < W.heap.size := World.ownsRow.lt h
theorem OwnT.ts {W : World} {B : Nat} {v : Value} {xs : List (Int × Int)} (h : OwnT W B v xs) : ∃ A c, v = .slice A xs.length c ∧ TS W A xs.length c xs ∧ ∀ ad, A = some ad → B ≤ ad.block := by
  have hc := fun g (hg : v.ownBlock = some g) => World.ownsRow.cells h hg
  obtain ⟨h1, ⟨hv, h0⟩ | ⟨g, cap, cur, hv, hg, hh, hn, hm, _⟩⟩ := h
  · refine ⟨none, 0, by rw [hv, h0], ⟨rfl, by omega, by omega, fun q => by omega⟩, fun _ q => by cases q⟩
  · refine ⟨_, cap, hv, ⟨rfl, hn, by unfold maxLen at hm; omega, fun q => ⟨g, 0, rfl, blk_lt hh, fun i hi => ?_⟩⟩, fun ad q => by cases q; exact hg⟩
    have h2 := flatT_get xs i hi
    have := hc g (by rw [hv]; rfl)
    have a := this _ _ h2.1
    have b := this _ _ h2.2
    rw [Addr.add_mid] at a b
    exact ⟨a, b⟩
theorem zero_th : (Tryz.prog.info? ThT).map (fun i => (i.zero, i.size, i.bytes)) = some (some (.agg #[.int .i64 0, .int .i64 0]), 2, 16) := by kernel_rfl
/-- what k Pops give -/
def popsL : Nat → List En → List (Int × Int)
  | 0, _ => []
  | k + 1, es => ((popE es).n, (popE es).m) :: popsL k (popF es)
def restL : Nat → List En → List En
  | 0, es => es
  | k + 1, es => restL k (popF es)
theorem popsL_snoc (k : Nat) : ∀ es, popsL (k + 1) es = popsL k es ++ [((popE (restL k es)).n, (popE (restL k es)).m)] := by
  induction k with
  | zero => intro es; rfl
  | succ k ih => intro es; show _ :: popsL (k + 1) (popF es) = _; rw [ih]; rfl
theorem restL_succ (k : Nat) : ∀ es, restL (k + 1) es = popF (restL k es) := by
  induction k with
  | zero => intro es; rfl
  | succ k ih => intro es; show restL (k + 1) (popF es) = _; rw [ih]; rfl
theorem popF_len (es : List En) : (popF es).length = es.length - 1 := by
  unfold popF
  rcases Nat.eq_zero_or_pos es.length with h | h
  · rw [List.length_take]; omega
  · rw [List.length_take, (dnF_props _ (sw es 0 (es.length - 1)) 0 (es.length - 1) (Nat.le_refl _) (by rw [sw_len]; omega) (by rw [sw_len]; omega)).1, sw_len]; omega
theorem restL_len (k : Nat) : ∀ es, (restL k es).length = es.length - k := by
  induction k with
  | zero => intro es; rfl
  | succ k ih => intro es; rw [restL_succ, popF_len, ih]; omega
theorem popsL_len (k : Nat) : ∀ es, (popsL k es).length = k := by
  induction k with
  | zero => intro es; rfl
  | succ k ih => intro es; simp [popsL, ih]
def AllR (g t : Nat) (v : Value) (es : List En) (w0 : World) (o : Value) (W : World) : Prop :=
  ∃ (k : Nat) (v1 : Value), k ≤ es.length ∧ Turns (fun j => j = g ∨ v.ownBlock = some j) w0 W ∧ Qu W g v1 (restL k es) t ∧ (v1.ownBlock = v.ownBlock ∨ ∃ j, w0.heap.size ≤ j ∧ v1.ownBlock = some j) ∧ OwnT W w0.heap.size o (popsL k es) ∧
    (∀ j, o.ownBlock = some j → v1.ownBlock ≠ some j)
def AllE (w : World) (g t : Nat) (v : Value) (es : List En) (e : Ending) (w' : World) : Prop :=
  ∃ A c, e = .returned (.slice A es.length c) ∧ TS w' A es.length c (popsL es.length es) ∧ (∀ ad, A = some ad → w.heap.size ≤ ad.block) ∧ Qed w g v [] t w'
end
end Go.Proofs.YtoclelpmampikaaGreat
