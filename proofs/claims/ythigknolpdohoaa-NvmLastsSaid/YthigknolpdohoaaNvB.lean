/-
  A device: an act is done (do, Do); what of the world has turned.
-/
import Derived.Test.YthigknolpdohoaaNvA
import Derived.Test.YthigknolpdohoaaTurn
namespace Go.Proofs.Ythigknolpdohoaa
open Go.RowKit Go
set_option linter.unusedVariables false
set_option linter.unusedSimpArgs false
abbrev ActT : TypeId := 59
theorem info_act : (Try.prog.info? ActT).map (fun i => (i.zero, i.size, i.bytes)) = some (some (.agg #[.int .i64 0, .int .i64 0, .int .i64 0]), 3, 24) := by kernel_rfl
/-- the acts, as far as they are kept -/
structure DevK (W : World) (g : Nat) (lv : Value) (off : Bool) (av : Value) (k : Nat) (al : List Value) (u : Int) (pv : Value) : Prop where
  dev : DevB W g lv off av u pv
  own : W.ownsRow (g + 1) ActT 3 av k al
theorem DevK.next {W W' : World} {g k : Nat} {lv av pv : Value} {off : Bool} {al : List Value} {u : Int} (h : DevK W g lv off av k al u pv) (hb : Below W.heap.size W W') : DevK W' g lv off av k al u pv :=
  ⟨h.dev.next hb, h.own.kept (row := none) ⟨hb.os, hb.tape, hb.output, hb.size, fun i hi _ => hb.block i hi⟩ (by
    rcases hv : av.ownBlock with _ | j
    · exact .inl rfl
    · exact .inr (by simp))⟩
def actV (kd a n : Int) : List Value := [.int .i64 kd, .int .i64 a, .int .i64 n]
/-- an act is taken down -/
theorem DevK.down {W W' : World} {g k : Nat} {lv av av' pv : Value} {off : Bool} {al al' : List Value} {u : Int} (h : DevK W g lv off av k al u pv) (hg : W.grownBy W' av.ownBlock) (ho : W'.ownsRow (g + 1) ActT 3 av' (k + 1) al') :
    DevK (W'.setCell ⟨g, 2, none⟩ av') g lv off av' (k + 1) al' u pv := by
  have hlt := h.own.lt
  have hd : DevB W' g lv off av u pv := (hg.block g h.dev.lt (fun e => by have := (hlt g e.symm).1; omega)).trans h.dev
  refine ⟨?_, ?_⟩
  · have := blk_set hd 2 av'
    unfold DevB
    rw [this]; rfl
  · obtain ⟨h1, h2⟩ := ho
    refine ⟨h1, ?_⟩
    rcases h2 with h2 | ⟨b, cap, cur, hv, hbg, hh, hr⟩
    · exact .inl h2
    · exact .inr ⟨b, cap, cur, hv, hbg, (Below.heap_setCell _ _ _ _ (by show b ≠ g; omega)).trans hh, hr⟩
theorem do1_any (w : World) : Calls Try.prog 57 #[] w fun e w' => e = .returned (.tuple #[]) ∧ w = w' := by
  go_enter Try.func57, Try.ntmps57
  go_wp2
  go_end0
  exact ⟨rfl, rfl⟩
/-- what an act that is done leaves -/
def Acted (W : World) (g k : Nat) (lv av pv : Value) (al : List Value) (kd a n : Int) (e : Ending) (w' : World) : Prop :=
  ∃ av', e = .returned (.int .i64 0) ∧ DevK w' g lv false av' (k + 1) (al ++ actV kd a n) 0 pv ∧ Turns (fun j => j = g ∨ av.ownBlock = some j) W w' ∧ (av'.ownBlock = av.ownBlock ∨ ∃ j, W.heap.size ≤ j ∧ av'.ownBlock = some j)
set_option maxHeartbeats 4000000 in
set_option maxRecDepth 100000 in
theorem do4_any (g k L c : Nat) (A : Option Addr) (av pv : Value) (al : List Value) (w : World) (h : DevK w g (.slice A L c) false av k al 0 pv) (hL : L ≤ 1024) (hk : k < 16384) :
    Calls Try.prog 37 #[.pointer (some ⟨g, 0, none⟩), .agg #[.int .i64 4, .int .i64 0, .int .i64 0], .func (Fn.func 57) #[] #[]] w (Acted w g k (.slice A L c) av pv al 4 0 0) := by
  have hb0 : Below w.heap.size w (w.alloc (.cells #[.int .i64 4, .int .i64 0, .int .i64 0] ActT)) := (Below.refl _ _).alloc (Nat.le_refl _) _
  have hD := h.next hb0
  have HREF : Hid (∀ W, DevB W g (.slice A L c) false av 0 pv → Calls Try.prog 51 #[.pointer (some ⟨g, 0, none⟩), .int .i64 0, .int .i64 0] W fun e w' => e = .returned (.int .i64 0) ∧ W = w') := Lib.hid (fun W hW => by
    have := refuses_any g L c A false av pv 0 0 0 W hW hL
    have e : refS8 L false 0 0 = 0 := by
      unfold refS8 hasB
      rw [if_neg (by decide), if_pos (decide_eq_true (by omega))]
    rw [e] at this
    exact this)
  have HGO := Lib.hid (fun W (hW : DevB W g (.slice A L c) false av 0 pv) => goes_no g (.slice A L c) false av pv W hW)
  have HF := Lib.hid do1_any
  have HD := Lib.hid hD
  have HB0 := Lib.hid hb0
  have hal := heap_alloc_new w (.cells #[.int .i64 4, .int .i64 0, .int .i64 0] ActT)
  have a0 : (w.alloc (.cells #[.int .i64 4, .int .i64 0, .int .i64 0] ActT)).cell? ⟨w.heap.size, 0, none⟩ = some (.int .i64 4) := blk_cell hal 0
  have a1 : (w.alloc (.cells #[.int .i64 4, .int .i64 0, .int .i64 0] ActT)).cell? ⟨w.heap.size, 1, none⟩ = some (.int .i64 0) := blk_cell hal 1
  have a2 : (w.alloc (.cells #[.int .i64 4, .int .i64 0, .int .i64 0] ActT)).cell? ⟨w.heap.size, 2, none⟩ = some (.int .i64 0) := blk_cell hal 2
  have hsz : (w.alloc (.cells #[.int .i64 4, .int .i64 0, .int .i64 0] ActT)).heap.size = w.heap.size + 1 := by simp
  have HSZ1 := Lib.hid hsz
  have hgl := h.dev.lt
  have hav := h.own.lt
  have HAV := Lib.hid hav
  obtain ⟨i0, hi0, hz0, hz1, hz2⟩ := info_parts info_act
  clear h hb0 hal hsz hav
  go_enter Try.func37, Try.ntmps37
  go_wp2_with fail
  generalize w.alloc (.cells #[.int .i64 4, .int .i64 0, .int .i64 0] ActT) = V at *
  refine (HREF.out _ HD.out.dev).mono ?_
  rintro e w1 ⟨rfl, rfl⟩
  go_wp2_with fail
  refine (HGO.out _ HD.out.dev).mono ?_
  rintro e w1 ⟨rfl, rfl⟩
  have kl := hD.dev.acts
  have hlen : ∃ A9 c9, av = .slice A9 k c9 := by
    rcases hD.own.2 with ⟨hv, h0⟩ | ⟨b9, cap, cur, hv, _⟩
    · exact ⟨none, 0, by rw [hv, h0]⟩
    · exact ⟨_, _, hv⟩
  obtain ⟨A9, c9, rfl⟩ := hlen
  clear hD
  have hk2 : (k : Int) < 16384 := by omega
  go_wp2_with fail
  refine wp_region_F (S := (fun W => W.cell? ⟨g, 2, none⟩ = some (.slice A9 k c9) ∧ W.cell? ⟨w.heap.size, 0, none⟩ = some (.int .i64 4) ∧ W.cell? ⟨w.heap.size, 1, none⟩ = some (.int .i64 0) ∧ W.cell? ⟨w.heap.size, 2, none⟩ = some (.int .i64 0))) [10] (by kernel_rfl) (⟨kl, a0, a1, a2⟩) (fun hHeld => ?_)
  refine wpAnyF_take (i := 0) (oi := _) (v := ?_) rfl (by kernel_rfl) (by kernel_rfl) (by kernel_rfl) (by kernel_rfl) (fun _ _ _ h => h) (Or.inl ⟨by rfl, ?_⟩) (by assumption) ?_
  rotate_left 1
  · intro w hSw
    (try dsimp only at hSw)
    (first | (go_simp; done) | (go_simp; with_reducible rfl))
  (try simp only [Act.put, List.getElem_toArray, List.getElem_cons_succ, List.getElem_cons_zero, List.setIfInBounds_toArray, List.set_cons_zero, List.set_cons_succ])
  refine wpAnyF_take (i := 1) (oi := _) (v := ?_) rfl (by kernel_rfl) (by kernel_rfl) (by kernel_rfl) (by kernel_rfl) (fun _ _ _ h => h) (Or.inl ⟨by rfl, ?_⟩) (by assumption) ?_
  rotate_left 1
  · intro w hSw
    (try dsimp only at hSw)
    (first | (go_simp; done) | (go_simp; with_reducible rfl))
  (try simp only [Act.put, List.getElem_toArray, List.getElem_cons_succ, List.getElem_cons_zero, List.setIfInBounds_toArray, List.set_cons_zero, List.set_cons_succ])
  refine wpAnyF_take (i := 2) (oi := _) (v := ?_) rfl (by kernel_rfl) (by kernel_rfl) (by kernel_rfl) (by kernel_rfl) (fun _ _ _ h => h) (Or.inl ⟨by rfl, ?_⟩) (by assumption) ?_
  rotate_left 1
  · intro w hSw
    (try dsimp only at hSw)
    (first | (go_simp; done) | (go_simp; with_reducible rfl))
  (try simp only [Act.put, List.getElem_toArray, List.getElem_cons_succ, List.getElem_cons_zero, List.setIfInBounds_toArray, List.set_cons_zero, List.set_cons_succ])
  refine wpAnyF_take (i := 3) (oi := _) (v := ?_) rfl (by kernel_rfl) (by kernel_rfl) (by kernel_rfl) (by kernel_rfl) (fun _ _ _ h => h) (Or.inl ⟨by rfl, ?_⟩) (by assumption) ?_
  rotate_left 1
  · intro w hSw
    (try dsimp only at hSw)
    (first | (go_simp; done) | (go_simp; with_reducible rfl))
  (try simp only [Act.put, List.getElem_toArray, List.getElem_cons_succ, List.getElem_cons_zero, List.setIfInBounds_toArray, List.set_cons_zero, List.set_cons_succ])
  refine wpAnyF_take (i := 4) (oi := _) (v := ?_) rfl (by kernel_rfl) (by kernel_rfl) (by kernel_rfl) (by kernel_rfl) (fun _ _ _ h => h) (Or.inl ⟨by rfl, ?_⟩) (by assumption) ?_
  rotate_left 1
  · intro w hSw
    (try dsimp only at hSw)
    (first | (go_simp; done) | (go_simp; with_reducible rfl))
  (try simp only [Act.put, List.getElem_toArray, List.getElem_cons_succ, List.getElem_cons_zero, List.setIfInBounds_toArray, List.set_cons_zero, List.set_cons_succ])
  refine wpAnyF_take (i := 5) (oi := _) (v := ?_) rfl (by kernel_rfl) (by kernel_rfl) (by kernel_rfl) (by kernel_rfl) (fun _ _ _ h => h) (Or.inl ⟨by rfl, ?_⟩) (by assumption) ?_
  rotate_left 1
  · intro w hSw
    (try dsimp only at hSw)
    (first | (go_simp; done) | (go_simp; with_reducible rfl))
  (try simp only [Act.put, List.getElem_toArray, List.getElem_cons_succ, List.getElem_cons_zero, List.setIfInBounds_toArray, List.set_cons_zero, List.set_cons_succ])
  have hS1 := HD.out.next (((Below.refl V.heap.size V).drew).alloc (Nat.le_refl _) (.cells #[.int .i64 4, .int .i64 0, .int .i64 0] ActT))
  have HS1 := Lib.hid hS1
  have HC1 : Hid (∀ p : Addr, p.block < V.heap.size → (V.drew.alloc (.cells #[.int .i64 4, .int .i64 0, .int .i64 0] ActT)).cell? p = V.cell? p) := Lib.hid (fun p hp => World.cell?_alloc_lt V.drew _ p hp)
  have hgV : g < V.heap.size := by rw [HSZ1.out]; omega
  have hwV : w.heap.size < V.heap.size := by rw [HSZ1.out]; omega
  clear hS1
  refine wpAnyF_ready (rs := [6]) (by kernel_rfl) (by simp) ?_
  refine AllReadyF.cons (o := _) rfl (fun K hK => ?_) AllReadyF.nil
  go_simp
  refine hK.out _ _ (⟨(HC1.out _ hgV).trans kl, (HC1.out _ hwV).trans a0, (HC1.out _ hwV).trans a1, (HC1.out _ hwV).trans a2⟩) (fun hHeld6 => ?_)
  clear hK K
  (try simp only [Act.put, List.getElem_toArray, List.getElem_cons_succ, List.getElem_cons_zero, List.setIfInBounds_toArray, List.set_cons_zero, List.set_cons_succ])
  have HNW : Hid (∀ j u, (actV 4 0 0)[j]? = some u → (V.drew.alloc (.cells #[.int .i64 4, .int .i64 0, .int .i64 0] ActT)).cell? ((⟨V.heap.size, 0, none⟩ : Addr).add j) = some u) := Lib.hid (World.news_of_block (cs := (actV 4 0 0).toArray) (t := ActT) (fr := (0, 0)) (by exact heap_alloc_new V _))
  have HSZ : Hid (g + 1 ≤ (V.drew.alloc (.cells #[.int .i64 4, .int .i64 0, .int .i64 0] ActT)).heap.size) := Lib.hid (by simp; omega)
  have HSE : Hid ((V.drew.alloc (.cells #[.int .i64 4, .int .i64 0, .int .i64 0] ActT)).heap.size = V.heap.size + 1) := Lib.hid (by simp)
  refine wpAnyF_ready (rs := [7]) (by kernel_rfl) (by simp) ?_
  refine AllReadyF.cons (o := _) rfl (fun K hK => ?_) AllReadyF.nil
  refine step_append_lies _ (by rfl) (.tmp 29) (.tmp 31) 47 (by rfl) (g + 1) ActT i0 _ 3 24 Try.underlying47 hi0 hz0 hz1 hz2 rfl (by omega) (.slice A9 k c9) k al (by rfl) (by exact HS1.out.own) ⟨V.heap.size, 0, none⟩ 1 1 (actV 4 0 0) (by rfl) (by rfl) (by exact HNW.out) (by intro v hv; simp [actV] at hv; rcases hv with rfl | rfl | rfl <;> rfl) (by omega) (by unfold maxLen; omega) (by omega) (by exact HSZ.out) (V.heap.size + 1) (by exact HSE.out) ?_
  intro gg cap w3 hown3 hgrow3 hat3 hlt3
  have hG : ∀ (p : Addr), p.block < V.heap.size → (Value.slice A9 k c9).ownBlock ≠ some p.block → w3.cell? p = (V.drew.alloc (.cells #[.int .i64 4, .int .i64 0, .int .i64 0] ActT)).cell? p := fun p hp hne => hgrow3.cell_far p (by simp; omega) (fun e => hne e.symm)
  have hng : (Value.slice A9 k c9).ownBlock ≠ some g := fun e => by have := (HAV.out g e).1; omega
  have hnw : (Value.slice A9 k c9).ownBlock ≠ some w.heap.size := fun e => by have := (HAV.out w.heap.size e).2; omega
  have f2 : w3.frozen? ⟨g, 2, none⟩ = false := (hgrow3.frozen_far ⟨g, 2, none⟩ (by simp; omega) (fun e => hng e.symm)).trans (HS1.out.dev.free 2)
  have HEND := Lib.hid (HS1.out.down hgrow3 hown3)
  have HT : Hid (Turns (fun j => j = g ∨ (Value.slice A9 k c9).ownBlock = some j) w (w3.setCell ⟨g, 2, none⟩ (.slice (some ⟨gg, 0, none⟩) (k + 1) cap))) := Lib.hid (by
    have t1 : Turns (fun j => j = g ∨ (Value.slice A9 k c9).ownBlock = some j) w (V.drew.alloc (.cells #[.int .i64 4, .int .i64 0, .int .i64 0] ActT)) := Turns.of_below (HB0.out.trans (((Below.refl w.heap.size V).drew).alloc (by show w.heap.size ≤ V.heap.size; omega) _))
    exact (t1.trans (S' := fun j => (Value.slice A9 k c9).ownBlock = some j) (Turns.of_grown hgrow3 (fun j e => e)) (fun j _ q => .inr q)).trans (S' := fun j => j = g) (Turns.set _ _ rfl) (fun j _ q => .inl q))
  have HAT : Hid ((Value.slice (some ⟨gg, 0, none⟩) (k + 1) cap).ownBlock = (Value.slice A9 k c9).ownBlock ∨ ∃ j, w.heap.size ≤ j ∧ (Value.slice (some ⟨gg, 0, none⟩) (k + 1) cap).ownBlock = some j) := Lib.hid (by
    rcases hat3 with h3 | h3
    · exact .inl h3.symm
    · exact .inr ⟨gg, by omega, rfl⟩)
  have hk3 := hHeld6
  refine hK.out _ _ (⟨(hG _ hgV hng).trans hk3.1, (hG _ hwV hnw).trans hk3.2.1, (hG _ hwV hnw).trans hk3.2.2.1, (hG _ hwV hnw).trans hk3.2.2.2⟩) (fun hHeld7 => ?_)
  clear hK K
  (try simp only [Act.put, List.getElem_toArray, List.getElem_cons_succ, List.getElem_cons_zero, List.setIfInBounds_toArray, List.set_cons_zero, List.set_cons_succ])
  clear hG hng hnw hk3
  refine wpAnyF_ready (rs := [8]) (by kernel_rfl) (by simp) ?_
  refine AllReadyF.cons (o := _) rfl (fun K hK => ?_) AllReadyF.nil
  go_simp
  refine hK.out _ _ (hHeld7) (fun hHeld8 => ?_)
  clear hK K
  (try simp only [Act.put, List.getElem_toArray, List.getElem_cons_succ, List.getElem_cons_zero, List.setIfInBounds_toArray, List.set_cons_zero, List.set_cons_succ])
  refine wpAnyF_ready (rs := [9]) (by kernel_rfl) (by simp) ?_
  refine AllReadyF.cons (o := _) rfl (fun K hK => ?_) AllReadyF.nil
  go_simp
  refine hK.out _ _ (hHeld7) (fun hHeld9 => ?_)
  clear hK K
  (try simp only [Act.put, List.getElem_toArray, List.getElem_cons_succ, List.getElem_cons_zero, List.setIfInBounds_toArray, List.set_cons_zero, List.set_cons_succ])
  have c2 := hHeld7.1
  refine wpAnyF_ready (rs := [10]) (by kernel_rfl) (by simp) ?_
  refine AllReadyF.last (o := _) rfl (by rfl) (fun K hK => ?_) AllReadyF.nil
  go_simp
  refine hK.out _ _ ?_
  clear hK K
  (try simp only [Act.put, List.getElem_toArray, List.getElem_cons_succ, List.getElem_cons_zero, List.setIfInBounds_toArray, List.set_cons_zero, List.set_cons_succ])
  refine wpAnyF_done (by kernel_rfl) ?_ _
  clear hHeld hHeld6 hHeld7 hHeld8 hHeld9 c2 f2
  go_wp2_with fail
  refine (HF.out _).mono ?_
  rintro e w4 ⟨rfl, rfl⟩
  go_wp2
  go_ret
  exact ⟨_, rfl, HEND.out, HT.out, HAT.out⟩

end Go.Proofs.Ythigknolpdohoaa
