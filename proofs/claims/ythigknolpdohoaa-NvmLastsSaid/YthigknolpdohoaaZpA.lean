/-
  Joined: NvPA, NvPB, NvPC, NvPD, NvPE, NvPF.
-/
import Derived.Test.YthigknolpdohoaaNvH
import Derived.Test.YthigknolpdohoaaNvE
import Derived.Test.YthigknolpdohoaaNvL
import Derived.Test.YthigknolpdohoaaNvBA
namespace Go.Proofs.Ythigknolpdohoaa
set_option maxRecDepth 100000
section
open Go.RowKit Go
set_option linter.unusedVariables false
set_option linter.unusedSimpArgs false
set_option maxHeartbeats 4000000 in
set_option maxRecDepth 100000 in
theorem doG_any (g k L c : Nat) (A : Option Addr) (av pv : Value) (al : List Value) (u kd a n : Int) (f : FuncId) (cp : Array Value) (R : World → Prop) (w : World) (hf : EntersF f) (h : DevK w g (.slice A L c) false av k al u pv) (hL : L ≤ 1024) (hk : k < 16384) (hu : u = 0 ∨ 2 ≤ u) (hu2 : u ≤ 9223372036854775807) (hr : hasB L a n = true)
    (hc : ∀ (av' : Value) (W' : World), DevK W' g (.slice A L c) false av' (k + 1) (al ++ actV kd a n) (lessU u) pv → Turns (fun j => j = g ∨ av.ownBlock = some j) w W' → (av'.ownBlock = av.ownBlock ∨ ∃ j, w.heap.size ≤ j ∧ av'.ownBlock = some j) →
      Calls Try.prog f cp W' fun e w' => e = .returned (.tuple #[]) ∧ R w') :
    Calls Try.prog 37 #[.pointer (some ⟨g, 0, none⟩), .agg #[.int .i64 kd, .int .i64 a, .int .i64 n], .func (Fn.func f) #[] cp] w fun e w' => e = .returned (.int .i64 0) ∧ R w' := by
  have hb0 : Below w.heap.size w (w.alloc (.cells #[.int .i64 kd, .int .i64 a, .int .i64 n] ActT)) := (Below.refl _ _).alloc (Nat.le_refl _) _
  have hD := h.next hb0
  have HREF : Hid (∀ W, DevB W g (.slice A L c) false av u pv → Calls Try.prog 51 #[.pointer (some ⟨g, 0, none⟩), .int .i64 a, .int .i64 n] W fun e w' => e = .returned (.int .i64 0) ∧ W = w') := Lib.hid (fun W hW => by
    have := refuses_any g L c A false av pv u a n W hW hL
    have e : refS8 L false a n = 0 := by
      unfold refS8
      rw [if_neg (by decide), if_pos hr]
    rw [e] at this
    exact this)
  have HGO := Lib.hid (fun W (hW : DevB W g (.slice A L c) false av u pv) => goesU_any g (.slice A L c) false av pv u W hW hu hu2)
  have HF := Lib.hid hc
  unfold EntersF at hf
  have HD := Lib.hid hD
  have HB0 := Lib.hid hb0
  have hal := heap_alloc_new w (.cells #[.int .i64 kd, .int .i64 a, .int .i64 n] ActT)
  have a0 : (w.alloc (.cells #[.int .i64 kd, .int .i64 a, .int .i64 n] ActT)).cell? ⟨w.heap.size, 0, none⟩ = some (.int .i64 kd) := blk_cell hal 0
  have a1 : (w.alloc (.cells #[.int .i64 kd, .int .i64 a, .int .i64 n] ActT)).cell? ⟨w.heap.size, 1, none⟩ = some (.int .i64 a) := blk_cell hal 1
  have a2 : (w.alloc (.cells #[.int .i64 kd, .int .i64 a, .int .i64 n] ActT)).cell? ⟨w.heap.size, 2, none⟩ = some (.int .i64 n) := blk_cell hal 2
  have hsz : (w.alloc (.cells #[.int .i64 kd, .int .i64 a, .int .i64 n] ActT)).heap.size = w.heap.size + 1 := by simp
  have HSZ1 := Lib.hid hsz
  have hgl := h.dev.lt
  have hav := h.own.lt
  have HAV := Lib.hid hav
  obtain ⟨i0, hi0, hz0, hz1, hz2⟩ := info_parts info_act
  clear h hb0 hal hsz hav hu hu2 hc hr
  go_enter Try.func37, Try.ntmps37
  go_wp2_with fail
  generalize w.alloc (.cells #[.int .i64 kd, .int .i64 a, .int .i64 n] ActT) = V at *
  refine (HREF.out _ HD.out.dev).mono ?_
  rintro e w1 ⟨rfl, rfl⟩
  go_wp2_with fail
  refine (HGO.out _ HD.out.dev).mono ?_
  rintro e w1 ⟨rfl, rfl⟩
  have hT0 : Turns (fun j => j = g ∨ av.ownBlock = some j) w (afterU u g V) := (Turns.of_below HB0.out).trans (S' := fun j => j = g) (afterU_turns rfl) (fun j _ q => .inl q)
  have hD2 := afterU_dev HD.out
  have b0 : (afterU u g V).cell? ⟨w.heap.size, 0, none⟩ = some (.int .i64 kd) := (afterU_cell (by show w.heap.size ≠ g; omega)).trans a0
  have b1 : (afterU u g V).cell? ⟨w.heap.size, 1, none⟩ = some (.int .i64 a) := (afterU_cell (by show w.heap.size ≠ g; omega)).trans a1
  have b2 : (afterU u g V).cell? ⟨w.heap.size, 2, none⟩ = some (.int .i64 n) := (afterU_cell (by show w.heap.size ≠ g; omega)).trans a2
  have hszU : (afterU u g V).heap.size = w.heap.size + 1 := by rw [afterU_size]; exact HSZ1.out
  have HT0 := Lib.hid hT0
  clear hT0 a0 a1 a2 HD HSZ1 HB0 hD
  have a0 := b0
  have a1 := b1
  have a2 := b2
  have hD := hD2
  clear b0 b1 b2 hD2
  have HD := Lib.hid hD
  have HSZ1 := Lib.hid hszU
  clear hszU
  generalize afterU u g V = V at *
  have kl := hD.dev.acts
  have hlen : ∃ A9 c9, av = .slice A9 k c9 := by
    rcases hD.own.2 with ⟨hv, h0⟩ | ⟨b9, cap, cur, hv, _⟩
    · exact ⟨none, 0, by rw [hv, h0]⟩
    · exact ⟨_, _, hv⟩
  obtain ⟨A9, c9, rfl⟩ := hlen
  clear hD
  have hk2 : (k : Int) < 16384 := by omega
  go_wp2_with fail
  refine wp_region_F (S := (fun W => W.cell? ⟨g, 2, none⟩ = some (.slice A9 k c9) ∧ W.cell? ⟨w.heap.size, 0, none⟩ = some (.int .i64 kd) ∧ W.cell? ⟨w.heap.size, 1, none⟩ = some (.int .i64 a) ∧ W.cell? ⟨w.heap.size, 2, none⟩ = some (.int .i64 n))) [10] (by kernel_rfl) (⟨kl, a0, a1, a2⟩) (fun hHeld => ?_)
  refine wpAnyF_take (i := 0) (oi := _) (v := ?_) rfl (by kernel_rfl) (by kernel_rfl) (by kernel_rfl) (by kernel_rfl) (fun _ _ _ h => h) (Or.inl ⟨by rfl, ?_⟩) (by assumption) ?_
  rotate_left 1
  · intro w hSw
    (try dsimp only at hSw)
    (first | (go_simp; done) | (go_simp; with_reducible rfl))
  (try simp only [Act.put, List.getElem_toArray, List.getElem_cons_succ, List.getElem_cons_zero, List.setIfInBounds_toArray, List.set_cons_zero, List.set_cons_succ])
  refine wpAnyF_take (i := 1) (oi := _) (v := ?_) rfl (by kernel_rfl) (by kernel_rfl) (by kernel_rfl) (by kernel_rfl) (fun _ _ _ h => h) (Or.inl ⟨by rfl, ?_⟩) (by assumption) ?_
  rotate_left 1
  · intro w hSw
    (try dsimp only at hSw)
    (first | (go_simp; done) | (go_simp; with_reducible rfl))
  (try simp only [Act.put, List.getElem_toArray, List.getElem_cons_succ, List.getElem_cons_zero, List.setIfInBounds_toArray, List.set_cons_zero, List.set_cons_succ])
  refine wpAnyF_take (i := 2) (oi := _) (v := ?_) rfl (by kernel_rfl) (by kernel_rfl) (by kernel_rfl) (by kernel_rfl) (fun _ _ _ h => h) (Or.inl ⟨by rfl, ?_⟩) (by assumption) ?_
  rotate_left 1
  · intro w hSw
    (try dsimp only at hSw)
    (first | (go_simp; done) | (go_simp; with_reducible rfl))
  (try simp only [Act.put, List.getElem_toArray, List.getElem_cons_succ, List.getElem_cons_zero, List.setIfInBounds_toArray, List.set_cons_zero, List.set_cons_succ])
  refine wpAnyF_take (i := 3) (oi := _) (v := ?_) rfl (by kernel_rfl) (by kernel_rfl) (by kernel_rfl) (by kernel_rfl) (fun _ _ _ h => h) (Or.inl ⟨by rfl, ?_⟩) (by assumption) ?_
  rotate_left 1
  · intro w hSw
    (try dsimp only at hSw)
    (first | (go_simp; done) | (go_simp; with_reducible rfl))
  (try simp only [Act.put, List.getElem_toArray, List.getElem_cons_succ, List.getElem_cons_zero, List.setIfInBounds_toArray, List.set_cons_zero, List.set_cons_succ])
  refine wpAnyF_take (i := 4) (oi := _) (v := ?_) rfl (by kernel_rfl) (by kernel_rfl) (by kernel_rfl) (by kernel_rfl) (fun _ _ _ h => h) (Or.inl ⟨by rfl, ?_⟩) (by assumption) ?_
  rotate_left 1
  · intro w hSw
    (try dsimp only at hSw)
    (first | (go_simp; done) | (go_simp; with_reducible rfl))
  (try simp only [Act.put, List.getElem_toArray, List.getElem_cons_succ, List.getElem_cons_zero, List.setIfInBounds_toArray, List.set_cons_zero, List.set_cons_succ])
  refine wpAnyF_take (i := 5) (oi := _) (v := ?_) rfl (by kernel_rfl) (by kernel_rfl) (by kernel_rfl) (by kernel_rfl) (fun _ _ _ h => h) (Or.inl ⟨by rfl, ?_⟩) (by assumption) ?_
  rotate_left 1
  · intro w hSw
    (try dsimp only at hSw)
    (first | (go_simp; done) | (go_simp; with_reducible rfl))
  (try simp only [Act.put, List.getElem_toArray, List.getElem_cons_succ, List.getElem_cons_zero, List.setIfInBounds_toArray, List.set_cons_zero, List.set_cons_succ])
  have hS1 := HD.out.next (((Below.refl V.heap.size V).drew).alloc (Nat.le_refl _) (.cells #[.int .i64 kd, .int .i64 a, .int .i64 n] ActT))
  have HS1 := Lib.hid hS1
  have HC1 : Hid (∀ p : Addr, p.block < V.heap.size → (V.drew.alloc (.cells #[.int .i64 kd, .int .i64 a, .int .i64 n] ActT)).cell? p = V.cell? p) := Lib.hid (fun p hp => World.cell?_alloc_lt V.drew _ p hp)
  have hgV : g < V.heap.size := by rw [HSZ1.out]; omega
  have hwV : w.heap.size < V.heap.size := by rw [HSZ1.out]; omega
  clear hS1
  refine wpAnyF_ready (rs := [6]) (by kernel_rfl) (by simp) ?_
  refine AllReadyF.cons (o := _) rfl (fun K hK => ?_) AllReadyF.nil
  go_simp
  refine hK.out _ _ (⟨(HC1.out _ hgV).trans kl, (HC1.out _ hwV).trans a0, (HC1.out _ hwV).trans a1, (HC1.out _ hwV).trans a2⟩) (fun hHeld6 => ?_)
  clear hK K
  (try simp only [Act.put, List.getElem_toArray, List.getElem_cons_succ, List.getElem_cons_zero, List.setIfInBounds_toArray, List.set_cons_zero, List.set_cons_succ])
  have HNW : Hid (∀ j u, (actV kd a n)[j]? = some u → (V.drew.alloc (.cells #[.int .i64 kd, .int .i64 a, .int .i64 n] ActT)).cell? ((⟨V.heap.size, 0, none⟩ : Addr).add j) = some u) := Lib.hid (World.news_of_block (cs := (actV kd a n).toArray) (t := ActT) (fr := (0, 0)) (by exact heap_alloc_new V _))
  have HSZ : Hid (g + 1 ≤ (V.drew.alloc (.cells #[.int .i64 kd, .int .i64 a, .int .i64 n] ActT)).heap.size) := Lib.hid (by simp; omega)
  have HSE : Hid ((V.drew.alloc (.cells #[.int .i64 kd, .int .i64 a, .int .i64 n] ActT)).heap.size = V.heap.size + 1) := Lib.hid (by simp)
  refine wpAnyF_ready (rs := [7]) (by kernel_rfl) (by simp) ?_
  refine AllReadyF.cons (o := _) rfl (fun K hK => ?_) AllReadyF.nil
  refine step_append_lies _ (by rfl) (.tmp 29) (.tmp 31) 47 (by rfl) (g + 1) ActT i0 _ 3 24 Try.underlying47 hi0 hz0 hz1 hz2 rfl (by omega) (.slice A9 k c9) k al (by rfl) (by exact HS1.out.own) ⟨V.heap.size, 0, none⟩ 1 1 (actV kd a n) (by rfl) (by rfl) (by exact HNW.out) (by intro v hv; simp [actV] at hv; rcases hv with rfl | rfl | rfl <;> rfl) (by omega) (by unfold maxLen; omega) (by omega) (by exact HSZ.out) (V.heap.size + 1) (by exact HSE.out) ?_
  intro gg cap w3 hown3 hgrow3 hat3 hlt3
  have hG : ∀ (p : Addr), p.block < V.heap.size → (Value.slice A9 k c9).ownBlock ≠ some p.block → w3.cell? p = (V.drew.alloc (.cells #[.int .i64 kd, .int .i64 a, .int .i64 n] ActT)).cell? p := fun p hp hne => hgrow3.cell_far p (by simp; omega) (fun e => hne e.symm)
  have hng : (Value.slice A9 k c9).ownBlock ≠ some g := fun e => by have := (HAV.out g e).1; omega
  have hnw : (Value.slice A9 k c9).ownBlock ≠ some w.heap.size := fun e => by have := (HAV.out w.heap.size e).2; omega
  have f2 : w3.frozen? ⟨g, 2, none⟩ = false := (hgrow3.frozen_far ⟨g, 2, none⟩ (by simp; omega) (fun e => hng e.symm)).trans (HS1.out.dev.free 2)
  have HEND := Lib.hid (HS1.out.down hgrow3 hown3)
  have HT : Hid (Turns (fun j => j = g ∨ (Value.slice A9 k c9).ownBlock = some j) w (w3.setCell ⟨g, 2, none⟩ (.slice (some ⟨gg, 0, none⟩) (k + 1) cap))) := Lib.hid (by
    have t1 : Turns (fun j => j = g ∨ (Value.slice A9 k c9).ownBlock = some j) w (V.drew.alloc (.cells #[.int .i64 kd, .int .i64 a, .int .i64 n] ActT)) := HT0.out.trans (S' := fun _ => False) (Turns.of_below (((Below.refl V.heap.size V).drew).alloc (Nat.le_refl _) _)) (fun _ _ q => q.elim)
    exact (t1.trans (S' := fun j => (Value.slice A9 k c9).ownBlock = some j) (Turns.of_grown hgrow3 (fun j e => e)) (fun j _ q => .inr q)).trans (S' := fun j => j = g) (Turns.set _ _ rfl) (fun j _ q => .inl q))
  have HAT : Hid ((Value.slice (some ⟨gg, 0, none⟩) (k + 1) cap).ownBlock = (Value.slice A9 k c9).ownBlock ∨ ∃ j, w.heap.size ≤ j ∧ (Value.slice (some ⟨gg, 0, none⟩) (k + 1) cap).ownBlock = some j) := Lib.hid (by
    rcases hat3 with h3 | h3
    · exact .inl h3.symm
    · exact .inr ⟨gg, by omega, rfl⟩)
  have hk3 := hHeld6
  refine hK.out _ _ (⟨(hG _ hgV hng).trans hk3.1, (hG _ hwV hnw).trans hk3.2.1, (hG _ hwV hnw).trans hk3.2.2.1, (hG _ hwV hnw).trans hk3.2.2.2⟩) (fun hHeld7 => ?_)
  clear hK K
  (try simp only [Act.put, List.getElem_toArray, List.getElem_cons_succ, List.getElem_cons_zero, List.setIfInBounds_toArray, List.set_cons_zero, List.set_cons_succ])
  clear hG hng hnw hk3
  refine wpAnyF_ready (rs := [8]) (by kernel_rfl) (by simp) ?_
  refine AllReadyF.cons (o := _) rfl (fun K hK => ?_) AllReadyF.nil
  go_simp
  refine hK.out _ _ (hHeld7) (fun hHeld8 => ?_)
  clear hK K
  (try simp only [Act.put, List.getElem_toArray, List.getElem_cons_succ, List.getElem_cons_zero, List.setIfInBounds_toArray, List.set_cons_zero, List.set_cons_succ])
  refine wpAnyF_ready (rs := [9]) (by kernel_rfl) (by simp) ?_
  refine AllReadyF.cons (o := _) rfl (fun K hK => ?_) AllReadyF.nil
  go_simp
  refine hK.out _ _ (hHeld7) (fun hHeld9 => ?_)
  clear hK K
  (try simp only [Act.put, List.getElem_toArray, List.getElem_cons_succ, List.getElem_cons_zero, List.setIfInBounds_toArray, List.set_cons_zero, List.set_cons_succ])
  have c2 := hHeld7.1
  refine wpAnyF_ready (rs := [10]) (by kernel_rfl) (by simp) ?_
  refine AllReadyF.last (o := _) rfl (by rfl) (fun K hK => ?_) AllReadyF.nil
  go_simp
  refine hK.out _ _ ?_
  clear hK K
  (try simp only [Act.put, List.getElem_toArray, List.getElem_cons_succ, List.getElem_cons_zero, List.setIfInBounds_toArray, List.set_cons_zero, List.set_cons_succ])
  refine wpAnyF_done (by kernel_rfl) ?_ _
  clear hHeld hHeld6 hHeld7 hHeld8 hHeld9 c2 f2
  go_wp2_with fail
  refine (HF.out _ _ HEND.out HT.out HAT.out).mono ?_
  rintro e w4 ⟨rfl, hR⟩
  have HR := Lib.hid hR
  clear hR
  go_wp2
  go_ret
  exact ⟨rfl, HR.out⟩
end
section
open Go.RowKit Go
set_option linter.unusedVariables false
set_option linter.unusedSimpArgs false
set_option maxRecDepth 100000
theorem each_zero (g : Nat) (at_ : Int) (fv : Value) (w : World) :
    Calls Try.prog 42 #[.pointer (some ⟨g, 0, none⟩), .int .i64 at_, .int .i64 0, fv] w fun e w' => e = .returned (.tuple #[]) ∧ w' = w := by
  go_enter Try.func42, Try.ntmps42
  go_wp2
  refine bodyPost_ret (results_none rfl _ _ _) rfl ?_
  exact ⟨rfl, rfl⟩
theorem all_zero (g c : Nat) (A : Option Addr) (off : Bool) (av pv : Value) (u : Int) (fv : Value) (w : World) (hd : DevB w g (.slice A 0 c) off av u pv) :
    Calls Try.prog 45 #[.pointer (some ⟨g, 0, none⟩), fv] w fun e w' => e = .returned (.tuple #[]) ∧ w' = w := by
  have HL := Lib.hid (len8_any g 0 c A off av pv u w hd (by omega))
  have HE := Lib.hid (each_zero g 0 fv w)
  clear hd
  go_enter Try.func45, Try.ntmps45
  go_wp2_with fail
  refine HL.out.mono ?_
  rintro e w1 ⟨rfl, rfl⟩
  go_wp2_with fail
  refine HE.out.mono ?_
  rintro e w2 ⟨rfl, rfl⟩
  go_wp2
  go_end0
  exact ⟨rfl, rfl⟩
theorem all8_L (g b L c : Nat) (f : FuncId) (caps : List Value) (I : Nat → World → Prop) (w : World) (off : Bool) (av pv : Value) (u : Int) (hf : EntersF f) (hd : DevB w g (.slice (some ⟨b, 0, none⟩) L c) off av u pv) (hL2 : L ≤ 1024)
    (hI : ∀ m W, I m W → W.cell? ⟨g, 0, none⟩ = some (.slice (some ⟨b, 0, none⟩) L c)) (hc : 0 < L → TurnsW f caps b 0 (L - 1) I) (h0 : I 0 w) :
    Calls Try.prog 45 #[.pointer (some ⟨g, 0, none⟩), .func (Fn.func f) #[] caps.toArray] w fun e w' => e = .returned (.tuple #[]) ∧ I (8 * L) w' := by
  rcases Nat.eq_zero_or_pos L with h | h
  · subst h
    refine (all_zero g c _ off av pv u _ w hd).mono ?_
    rintro e w' ⟨rfl, rfl⟩
    exact ⟨rfl, h0⟩
  · exact all8_any g b L c f caps I w off av pv u hf hd h hL2 hI (hc h) h0
theorem all_L (g b L c : Nat) (off : Bool) (av pv : Value) (u : Int) (f : FuncId) (F : Nat → Wd → Wd) (t : TypeId) (ws : List Wd) (w : World) (hf : EntersF f) (hL2 : L ≤ 1024)
    (hd : DevB w g (.slice (some ⟨b, 0, none⟩) L c) off av u pv) (hgb : g ≠ b) (hlen : ws.length = 8 * L) (hm : MemB w b t ws) (hA : ActW f F b t) :
    Calls Try.prog 45 #[.pointer (some ⟨g, 0, none⟩), .func (Fn.func f) #[] #[]] w (Wt w b t (turnW F 0 (8 * L) ws)) := by
  have h := all8_L g b L c f [] (EachI w b t F 0 ws) w off av pv u hf hd hL2
    (fun m W hi => by rw [turns_cell0 hi.1 hd.lt hgb]; exact hd.lines) (fun hL0 => eachI_turns (lo := 0) hA hlen (by omega)) ⟨Turns.of_below (Below.refl _ _), by rw [turnW_none]; exact hm⟩
  refine h.mono ?_
  rintro e w1 ⟨he, hi⟩
  exact ⟨he, hi.1, hi.2⟩
theorem fence1_L (p0 g b L c : Nat) (off : Bool) (av pv : Value) (u : Int) (ws : List Wd) (w : World) (h0 : w.cell? ⟨p0, 0, none⟩ = some (.pointer (some ⟨g, 0, none⟩)))
    (hL2 : L ≤ 1024) (hd : DevB w g (.slice (some ⟨b, 0, none⟩) L c) off av u pv) (hgb : g ≠ b) (hlen : ws.length = 8 * L) (hm : MemB w b LineT ws) :
    Calls Try.prog 44 #[.pointer (some ⟨p0, 0, none⟩)] w (Wt w b LineT (turnW (fun _ => Wd.fe) 0 (8 * L) ws)) := by
  have HP := Lib.hid (all_L g b L c off av pv u 46 (fun _ => Wd.fe) LineT ws w (fun _ _ => rfl) hL2 hd hgb hlen hm (fence_act b LineT))
  clear hd hgb hlen hm
  go_enter Try.func44, Try.ntmps44
  go_wp2_with fail
  refine HP.out.mono ?_
  rintro e w1 ⟨rfl, hr⟩
  have HR := Lib.hid hr
  clear hr
  go_wp2
  go_end0
  exact ⟨rfl, HR.out⟩
set_option maxHeartbeats 1000000 in
theorem crash_L (g b L c k n c9 : Nat) (A : Option Addr) (l : List Nat) (av pv : Value) (al : List Value) (u : Int) (ws : List Wd) (w : World) (h : DevM w g b L c false av k al u pv ws) (hb : BS w w.heap.size A n c9 l) (hob : Off n A b) :
    Calls Try.prog 18 #[.pointer (some ⟨g, 0, none⟩), .slice A n c9] w fun e w' => e = .returned (.tuple #[]) ∧ DevM w' g b L c true av k al 0 (.slice none 0 0) (crashW l L ws) ∧ Turns (fun j => j = g ∨ j = b) w w' := by
  obtain ⟨V, hV⟩ : ∃ V, V = (w.alloc (.cells #[.slice A n c9] 28)).alloc (.cells #[.int .i64 0] 3) := ⟨_, rfl⟩
  have hb1 : Below w.heap.size w (w.alloc (.cells #[.slice A n c9] 28)) := (Below.refl _ _).alloc (Nat.le_refl _) _
  have hb2 : Below w.heap.size w V := by rw [hV]; exact hb1.alloc hb1.size _
  have hd := h.next hb2
  have k1 := (h.next hb1).dev.dev.offC
  have hsz : V.heap.size = w.heap.size + 1 + 1 := by rw [hV]; simp
  have hbl := h.mem.lt
  have hgl := h.dev.dev.lt
  have hbg := h.bg
  have hlt := h.dev.own.lt
  have hpc : V.cell? ⟨w.heap.size, 0, none⟩ = some (.slice A n c9) := by rw [hV]; go_simp
  have hqc : V.cell? ⟨w.heap.size + 1, 0, none⟩ = some (.int .i64 ((cnt ws 0 : Nat) : Int)) := by rw [hV]; show _ = some (Value.int .i64 0); go_simp
  have hqf : V.frozen? ⟨w.heap.size + 1, 0, none⟩ = false := by rw [hV]; go_simp
  have hbV : BS V V.heap.size A n c9 l := (hb.below hb2).more hb2.size
  have hoq : Off n A (w.heap.size + 1) := fun hn ad e => by
    obtain ⟨p, o, e2, hp, _⟩ := hb.at_ hn
    rw [e2] at e
    injection e with e
    subst e
    show p ≠ _
    omega
  have HT := Lib.hid (fun hL0 : 0 < L => craI_turns (V := V) (pp := w.heap.size) (qq := w.heap.size + 1) h.len h.L1 hL0 hpc (by omega) (by omega) (by omega) (by omega) (by omega) hbV hob hoq)
  have HAL := Lib.hid (all8_L g b L c 47 [.pointer (some ⟨w.heap.size, 0, none⟩), .pointer (some ⟨w.heap.size + 1, 0, none⟩)] (CraI V b (w.heap.size + 1) l ws) V false av pv u (fun _ _ => rfl) hd.dev.dev h.L1
    (fun m W hi => (World.cell?_of_block (hi.1.block g (by omega) (by rintro (e | e) <;> omega))).trans hd.dev.dev.lines) HT.out ⟨Turns.of_below (Below.refl _ _), by rw [turnW_none]; exact hd.mem, hqc, hqf⟩)
  have HD := Lib.hid (fun (W : World) (hi : CraI V b (w.heap.size + 1) l ws (8 * L) W) => hd.turns hi.1 (by omega) (fun j e => by have := (hlt j e).2; omega) hi.2.1 (by rw [turnW_len]; exact h.len))
  have HB2 := Lib.hid (And.intro hb2 hsz)
  have HV := Lib.hid hV
  clear h hb1 hb2 hd hV hsz hbl hgl hbg hlt hpc hqc hqf hbV hoq hb hob HT
  go_enter Try.func18, Try.ntmps18
  go_wp2_with fail
  rw [← HV.out]
  refine HAL.out.mono ?_
  rintro e w1 ⟨rfl, hi⟩
  have hd1 := HD.out _ hi
  have kv1 := hd1.dev.dev.offC
  have fv1 := hd1.dev.dev.free 1
  have HA := Lib.hid (arm_M g b L c k true av pv al u 0 _ _ (hd1.turned true))
  have HI := Lib.hid hi.1
  clear hi hd1
  go_wp2_with fail
  refine HA.out.mono ?_
  rintro e w2 ⟨rfl, hd, ht⟩
  have HD2 := Lib.hid hd
  have HT2 := Lib.hid ht
  clear hd ht
  go_wp2
  go_end0
  refine ⟨rfl, HD2.out, ?_⟩
  have hs := HB2.out.2
  have t1 : Turns (fun j => j = g ∨ j = b) w w1 := (Turns.of_below (S := fun j => j = g ∨ j = b) HB2.out.1).trans HI.out (fun j hj e => by rcases e with e | e; exact .inr e; omega)
  have t2 : Turns (fun j => j = g ∨ j = b) w (w1.setCell ⟨g, 1, none⟩ (.bool true)) := t1.trans (S' := fun j => j = g) (Turns.set _ _ rfl) (fun _ _ e => .inl e)
  exact t2.trans HT2.out (fun _ _ e => .inl e)
set_option maxHeartbeats 1000000 in
theorem pending_L (g b L c k : Nat) (off : Bool) (av pv : Value) (al : List Value) (u : Int) (ws : List Wd) (w : World) (h : DevM w g b L c off av k al u pv ws) :
    Calls Try.prog 21 #[.pointer (some ⟨g, 0, none⟩)] w fun e w' => e = .returned (.int .i64 ((cnt ws (8 * L) : Nat) : Int)) ∧ Below w.heap.size w w' := by
  obtain ⟨V, hV⟩ : ∃ V, V = w.alloc (.cells #[.int .i64 0] 3) := ⟨_, rfl⟩
  have hb2 : Below w.heap.size w V := by rw [hV]; exact (Below.refl _ _).alloc (Nat.le_refl _) _
  have hd := h.next hb2
  have hsz : V.heap.size = w.heap.size + 1 := by rw [hV]; simp
  have hbl := h.mem.lt
  have hgl := h.dev.dev.lt
  have hlen := h.len
  have hqc : V.cell? ⟨w.heap.size, 0, none⟩ = some (.int .i64 ((cnt ws 0 : Nat) : Int)) := by rw [hV]; show _ = some (Value.int .i64 0); go_simp
  have hqf : V.frozen? ⟨w.heap.size, 0, none⟩ = false := by rw [hV]; go_simp
  have hT : 0 < L → TurnsW 53 [.pointer (some ⟨w.heap.size, 0, none⟩)] b 0 (L - 1) (PenI V b w.heap.size ws) := by
    intro hL0 la i W h1 h2 h3 hi
    obtain ⟨ht, hc⟩ := hi
    obtain ⟨x, hx⟩ : ∃ x, ws[8 * la + i]? = some x := ⟨_, List.getElem?_eq_getElem (by omega)⟩
    have hcl := cnt_le ws (8 * la + i)
    have hL1 := h.L1
    have hm : MemB W b LineT ws := hd.mem.same (ht.block b (by omega) (by intro e; omega))
    have hpe := hm.pend hx
    rw [show 18 * (8 * la + i) + 16 = la * 144 + i * 18 + 16 by omega] at hpe
    have hn := cnt_next hx
    cases hp : x.pend
    · rw [hp] at hpe hn
      refine (pending1_no b (la * 144 + i * 18) _ W hpe).mono ?_
      rintro e w1 ⟨rfl, rfl⟩
      exact ⟨rfl, ht, by rw [hn]; exact hc⟩
    · rw [hp] at hpe hn
      refine (pending1_yes b (la * 144 + i * 18) w.heap.size (cnt ws (8 * la + i)) W hpe hc.1 hc.2 (by omega)).mono ?_
      rintro e w1 ⟨rfl, rfl⟩
      refine ⟨rfl, ht.trans (S' := fun k => k = w.heap.size) (Turns.set _ _ rfl) (fun _ _ e => e), ?_, ?_⟩
      · rw [World.cell?_setCell_same _ _ _ hc.1, hn]; rfl
      · rw [World.frozen?_setCell]; exact hc.2
  have HAL := Lib.hid (all8_L g b L c 53 [.pointer (some ⟨w.heap.size, 0, none⟩)] (PenI V b w.heap.size ws) V off av pv u (fun _ _ => rfl) hd.dev.dev h.L1
    (fun m W hi => (World.cell?_of_block (hi.1.block g (by omega) (by intro e; omega))).trans hd.dev.dev.lines) hT ⟨Turns.of_below (Below.refl _ _), hqc, hqf⟩)
  have HB2 := Lib.hid hb2
  have HV := Lib.hid hV
  clear h hb2 hd hV hsz hbl hgl hlen hqc hqf hT
  go_enter Try.func21, Try.ntmps21
  go_wp2_with fail
  rw [← HV.out]
  refine HAL.out.mono ?_
  rintro e w1 ⟨rfl, hi⟩
  have hq := hi.2.1
  have HI := Lib.hid hi.1
  clear hi
  go_wp2
  go_ret
  exact ⟨rfl, HB2.out.trans (HI.out.below HB2.out.size (fun j e => by omega))⟩
set_option maxHeartbeats 2000000 in
theorem image_L (g b L c k : Nat) (off : Bool) (av pv : Value) (al : List Value) (u : Int) (ws : List Wd) (w : World) (h : DevM w g b L c off av k al u pv ws) :
    Calls Try.prog 19 #[.pointer (some ⟨g, 0, none⟩)] w (ImTo w ws) := by
  obtain ⟨V, hV⟩ : ∃ V, V = (w.alloc (.cells (zeros (64 * L)) 5)).alloc (.cells #[.slice (some ⟨w.heap.size, 0, none⟩) 0 (64 * L)] 28) := ⟨_, rfl⟩
  have hb2 : Below w.heap.size w V := by rw [hV]; exact ((Below.refl _ _).alloc (Nat.le_refl _) _).alloc (by simp) _
  have hd := h.next hb2
  have hsz : V.heap.size = w.heap.size + 1 + 1 := by rw [hV]; simp
  have hbl := h.mem.lt
  have hgl := h.dev.dev.lt
  have hlen := h.len
  have hL1 := h.L1
  have hI0 : ImI V w.heap.size (w.heap.size + 1) ws 0 V := by
    refine ⟨Below.refl _ _, .slice (some ⟨w.heap.size, 0, none⟩) 0 (64 * L), ?_, ?_⟩
    · have := heap_alloc_new (w.alloc (.cells (zeros (64 * L)) 5)) (.cells #[.slice (some ⟨w.heap.size, 0, none⟩) 0 (64 * L)] 28)
      rw [show (w.alloc (.cells (zeros (64 * L)) 5)).heap.size = w.heap.size + 1 by simp, ← hV] at this
      exact this
    · refine Own.blk (cur := zeros (64 * L)) (Nat.le_refl _) ?_ rfl (by omega) (by unfold maxLen; omega) (Array.size_replicate ..) rfl
      rw [hV]; exact blk_alloc (heap_alloc_new w _) _
  have hT : 0 < L → TurnsW 50 [.pointer (some ⟨w.heap.size + 1, 0, none⟩)] b 0 (L - 1) (ImI V w.heap.size (w.heap.size + 1) ws) := by
    intro hL0 la i W h1 h2 h3 hi
    obtain ⟨ht, hc⟩ := hi
    obtain ⟨x, hx⟩ : ∃ x, ws[8 * la + i]? = some x := ⟨_, List.getElem?_eq_getElem (by omega)⟩
    have hm : MemB W b LineT ws := hd.mem.same (ht.block b (by omega))
    have hl := lastsL_take hx
    have hll : (lastsL (ws.take (8 * la + i))).length < 100000 := by
      rw [lastsL_len (h.mem.1.take _), List.length_take]; omega
    have hw := word_bs hm hx (B := w.heap.size) (by omega)
    rw [show 18 * (8 * la + i) = la * 144 + i * 18 by omega] at hw
    refine (image1_any b (la * 144 + i * 18) w.heap.size (w.heap.size + 1) _ x.lasts W hc hw (Nat.le_trans (by omega) ht.size) (by omega) hll).mono ?_
    rintro e w1 ⟨rfl, ho, hb⟩
    exact ⟨rfl, ht.trans hb, by rw [hl]; exact ho⟩
  have HAL := Lib.hid (all8_L g b L c 50 [.pointer (some ⟨w.heap.size + 1, 0, none⟩)] (ImI V w.heap.size (w.heap.size + 1) ws) V off av pv u (fun _ _ => rfl) hd.dev.dev h.L1
    (fun m W hi => (World.cell?_of_block (hi.1.block g (by omega))).trans hd.dev.dev.lines) hT hI0)
  have HLN := Lib.hid (len8_any g L c (some ⟨b, 0, none⟩) off av pv u w h.dev.dev h.L1)
  have hmk : ∀ W : World, (Instr.makeSlice 28 (.int .i64 0) (.int .i64 (64 * (L : Int)))).run Try.prog W = .ok (.slice (some ⟨W.heap.size, 0, none⟩) 0 (64 * L)) (W.alloc (.cells (zeros (64 * L)) 5)) := fun W => by
    have h := make_cap 0 (64 * L) (by omega) (by omega) W
    rw [show (((64 * L : Nat)) : Int) = 64 * (L : Int) by omega] at h
    exact h
  have HB2 := Lib.hid hb2
  have HV := Lib.hid hV
  have HTK : Hid (lastsL (ws.take (8 * L)) = lastsL ws) := Lib.hid (by rw [List.take_of_length_le (by omega)])
  have HFIN : Hid (∀ W, Below w.heap.size w V → ImI V w.heap.size (w.heap.size + 1) ws (8 * L) W → ∃ v, W.heap[w.heap.size + 1]? = some (.cells #[v] 28 (0, 0)) ∧ ImTo w ws (.returned v) W) := Lib.hid (fun W hb hi => by
    obtain ⟨h1, v, h2, h3⟩ := hi
    rw [HTK.out] at h3
    exact ⟨v, h2, v, rfl, h3, hb.trans h1⟩)
  clear h hb2 hd hV hsz hbl hgl hlen hI0 hT hL1
  go_enter Try.func19, Try.ntmps19
  go_wp2_with fail
  refine HLN.out.mono ?_
  rintro e w0 ⟨rfl, rfl⟩
  go_upto_region 2 with (fail)
  clear hmk
  rw [← HV.out]
  go_wp2_with fail
  refine HAL.out.mono ?_
  rintro e w1 ⟨rfl, hi⟩
  obtain ⟨v, hv, ht⟩ := HFIN.out w1 HB2.out hi
  have hq : w1.cell? ⟨w.heap.size + 1, 0, none⟩ = some v := blk_cell hv 0
  have HT := Lib.hid ht
  clear hi hv ht
  go_wp2
  go_ret
  exact HT.out
end
section
open Go.RowKit Go
set_option linter.unusedVariables false
set_option linter.unusedSimpArgs false
set_option maxRecDepth 100000
/-- what a device has: its words, is the power off, how many acts, which ones, with which act the power goes, and what lasts then -/
structure DSt where
  ws : List Wd
  off : Bool
  k : Nat
  al : List Value
  u : Nat
  pl : List Nat
structure PD (W : World) (g b L c : Nat) (av pv : Value) (s : DSt) : Prop where
  m : DevM W g b L c s.off av s.k s.al (s.u : Int) pv s.ws
  p : Own W (g + 1) pv s.pl
  pb : ∀ v ∈ s.pl, v < 256
  one : ∀ x ∈ s.al, x.oneCell' = true
  u2 : s.u ≤ 9223372036854775807
/-- the device's blocks -/
def PS (g b : Nat) (av pv : Value) (j : Nat) : Prop := j = g ∨ j = b ∨ av.ownBlock = some j ∨ pv.ownBlock = some j
def PTo (w : World) (g b L c : Nat) (av pv : Value) (e0 : Ending) (s' : DSt) (e : Ending) (w' : World) : Prop :=
  e = e0 ∧ ∃ av' pv', PD w' g b L c av' pv' s' ∧ Turns (PS g b av pv) w w' ∧ ∀ j, PS g b av' pv' j → PS g b av pv j ∨ w.heap.size ≤ j
def DSt.gone (s : DSt) (L : Nat) (l : List Nat) : DSt := ⟨crashW l L s.ws, true, s.k, s.al, 0, []⟩
def DSt.done (s : DSt) (kd a n : Int) (ws : List Wd) : DSt := ⟨ws, s.off, s.k + 1, s.al ++ actV kd a n, s.u - 1, s.pl⟩
section
variable {W W' : World} {g b L c : Nat} {av pv : Value} {s : DSt}
theorem PD.next (h : PD W g b L c av pv s) (hb : Below W.heap.size W W') : PD W' g b L c av pv s := ⟨h.m.next hb, h.p.below hb, h.pb, h.one, h.u2⟩
theorem PD.apart (h : PD W g b L c av pv s) {j : Nat} (ha : av.ownBlock = some j) : pv.ownBlock ≠ some j := fun e => by
  obtain ⟨cs, h1⟩ := own_rowsJ h.m.dev.own j ha
  obtain ⟨cs2, h2⟩ := own_rowsJ h.p j e
  rw [h1] at h2
  have h4 := Option.some.inj h2
  injection h4 with _ h5 _
  exact absurd h5 (by decide)
theorem PD.pick (h : PD W g b L c av pv s) : ∃ A c', pv = .slice A s.pl.length c' ∧ BS W W.heap.size A s.pl.length c' s.pl ∧ Off s.pl.length A b := by
  obtain ⟨A, c', hv, hs⟩ := h.p.bs (fun i => by
    by_cases hi : i < s.pl.length
    · rw [List.getD_eq_getElem?_getD, List.getElem?_eq_getElem hi]; exact h.pb _ (List.getElem_mem hi)
    · rw [List.getD_eq_getElem?_getD, List.getElem?_eq_none (by omega)]; simp)
  refine ⟨A, c', hv, hs, fun hn ad e => ?_⟩
  obtain ⟨q, o, e2, _, _⟩ := hs.at_ hn
  rw [e2] at e
  injection e with e
  subst e
  have hlt := h.p.lt (g := q) (by rw [hv, e2]; rfl)
  have := h.m.bg
  show q ≠ b
  omega
/-- what an act leaves, told of the world ahead of the call -/
theorem PD.close (h : PD W g b L c av pv s) {W1 W3 : World} {av' pv' : Value} {s' : DSt} (hb : Below W.heap.size W W1) (ht : Turns (fun j => j = g ∨ j = b ∨ av.ownBlock = some j) W1 W3) (hd : DevM W3 g b L c s'.off av' s'.k s'.al (s'.u : Int) pv' s'.ws) (hp : pv' = pv ∧ s'.pl = s.pl ∨ pv' = .slice none 0 0 ∧ s'.pl = []) (h1 : ∀ x ∈ s'.al, x.oneCell' = true) (hu : s'.u ≤ 9223372036854775807) (ho : av'.ownBlock = av.ownBlock ∨ ∃ j, W.heap.size ≤ j ∧ av'.ownBlock = some j) (e0 : Ending) : PTo W g b L c av pv e0 s' e0 W3 := by
  refine ⟨rfl, av', pv', ?_, (Turns.of_below (S := PS g b av pv) hb).trans ht ?_, ?_⟩
  · rcases hp with ⟨e1, e2⟩ | ⟨e1, e2⟩
    · subst e1
      refine ⟨hd, ?_, by rw [e2]; exact h.pb, h1, hu⟩
      rw [e2]
      refine h.p.keep fun j hj => (ht.block j ?_ ?_).trans (hb.block j (h.p.lt hj).2)
      · exact Nat.lt_of_lt_of_le (h.p.lt hj).2 hb.size
      · have h2 := h.p.lt hj
        have h3 := h.m.bg
        rintro (q | q | q)
        · omega
        · omega
        · exact h.apart q hj
    · subst e1
      refine ⟨hd, ?_, (by rw [e2]; intro v hv; simp at hv), h1, hu⟩
      rw [e2]
      exact Own.nil _ _
  · rintro j _ (q | q | q)
    · exact .inl q
    · exact .inr (.inl q)
    · exact .inr (.inr (.inl q))
  · rintro j (q | q | q | q)
    · exact .inl (.inl q)
    · exact .inl (.inr (.inl q))
    · rcases ho with ho | ⟨i, hi, ho⟩
      · exact .inl (.inr (.inr (.inl (by rw [← ho]; exact q))))
      · rw [ho] at q; injection q with q; exact .inr (by omega)
    · rcases hp with ⟨e1, _⟩ | ⟨e1, _⟩
      · exact .inl (.inr (.inr (.inr (by rw [← e1]; exact q))))
      · rw [e1] at q; cases q
theorem actV_one {al : List Value} (h : ∀ x ∈ al, x.oneCell' = true) (kd a n : Int) : ∀ x ∈ al ++ actV kd a n, x.oneCell' = true := fun x hx => by
  rcases List.mem_append.1 hx with q | q
  · exact h x q
  · simp only [actV, List.mem_cons, List.not_mem_nil, or_false] at q
    rcases q with rfl | rfl | rfl <;> rfl
end
set_option maxHeartbeats 1000000 in
theorem goes_blow (g b L c : Nat) (av pv : Value) (s : DSt) (w : World) (h : PD w g b L c av pv s) (ho : s.off = false) (hu : s.u = 1) :
    Calls Try.prog 61 #[.pointer (some ⟨g, 0, none⟩)] w fun e w' => e = .returned (.bool true) ∧ DevM w' g b L c true av s.k s.al 0 (.slice none 0 0) (crashW s.pl L s.ws) ∧ Turns (fun j => j = g ∨ j = b) w w' := by
  obtain ⟨A, c', hv, hs, hf⟩ := h.pick
  have hm := h.m
  rw [ho, hu, show ((1 : Nat) : Int) = 1 from rfl] at hm
  have k3 := hm.dev.dev.until
  have f3 := hm.dev.dev.free 3
  have k4 := hm.dev.dev.picks
  have hbg := hm.bg
  subst hv
  have hm2 : DevM (w.setCell ⟨g, 3, none⟩ (.int .i64 0)) g b L c false av s.k s.al 0 (.slice A s.pl.length c') s.ws := hm.of (hm.dev.set_.2.1 0) (Below.heap_setCell _ _ _ _ (by show b ≠ g; omega))
  have hs2 : BS (w.setCell ⟨g, 3, none⟩ (.int .i64 0)) (w.setCell ⟨g, 3, none⟩ (.int .i64 0)).heap.size A s.pl.length c' s.pl := by
    refine BS.only hs (X := g) (fun hn ad e => ?_) (only_set (p := ⟨g, 3, none⟩) (World.grownBy.refl w _) (.inl rfl) _)
    obtain ⟨q, o, e2, _, _⟩ := hs.at_ hn
    rw [e2] at e
    injection e with e
    subst e
    have hlt := h.p.lt (g := q) (by rw [e2]; rfl)
    show q ≠ g
    omega
  have HC := Lib.hid (crash_L g b L c s.k s.pl.length c' A s.pl av _ s.al 0 s.ws _ hm2 hs2 hf)
  generalize s.pl.length = np at *
  clear h hm hm2 hs hs2 hf hu ho
  go_enter Try.func61, Try.ntmps61
  go_wp2_with fail
  refine HC.out.mono ?_
  rintro e w1 ⟨rfl, hd, ht⟩
  have HD := Lib.hid hd
  have HT := Lib.hid ht
  clear hd ht
  go_wp2
  go_ret
  exact ⟨rfl, HD.out, (Turns.set (S := fun j => j = g ∨ j = b) _ _ (.inl rfl)).trans (S' := fun j => j = g ∨ j = b) HT.out (fun _ _ q => q)⟩
set_option maxHeartbeats 1000000 in
theorem do_gone (g b L c : Nat) (av pv : Value) (s : DSt) (kd a n : Int) (fv : Value) (w : World) (h : PD w g b L c av pv s) (ho : s.off = false) (hu : s.u = 1) (hr : hasB L a n = true) :
    Calls Try.prog 37 #[.pointer (some ⟨g, 0, none⟩), .agg #[.int .i64 kd, .int .i64 a, .int .i64 n], fv] w fun e w' => e = .returned (.int .i64 8) ∧ DevM w' g b L c true av s.k s.al 0 (.slice none 0 0) (crashW s.pl L s.ws) ∧ Turns (fun j => j = g ∨ j = b) w w' := by
  have hb0 : Below w.heap.size w (w.alloc (.cells #[.int .i64 kd, .int .i64 a, .int .i64 n] ActT)) := (Below.refl w.heap.size w).alloc (Nat.le_refl _) _
  have hD := h.next hb0
  have HREF : Hid (∀ W, DevB W g (.slice (some ⟨b, 0, none⟩) L c) false av (s.u : Int) pv → Calls Try.prog 51 #[.pointer (some ⟨g, 0, none⟩), .int .i64 a, .int .i64 n] W fun e w' => e = .returned (.int .i64 0) ∧ W = w') := Lib.hid (fun W hW => by
    have := refuses_any g L c _ false av pv (s.u : Int) a n W hW h.m.L1
    have e : refS8 L false a n = 0 := by
      unfold refS8
      rw [if_neg (by decide), if_pos hr]
    rw [e] at this
    exact this)
  have HG := Lib.hid (goes_blow g b L c av pv s _ hD ho hu)
  have HD := Lib.hid hD.m.dev.dev
  rw [ho] at HD
  have HB := Lib.hid hb0
  clear h hD ho hu hr hb0
  go_enter Try.func37, Try.ntmps37
  go_wp2_with fail
  refine (HREF.out _ HD.out).mono ?_
  rintro e w1 ⟨rfl, rfl⟩
  go_wp2_with fail
  refine HG.out.mono ?_
  rintro e w1 ⟨rfl, hd, ht⟩
  have HM := Lib.hid hd
  have HT := Lib.hid ht
  clear hd ht
  go_wp2
  go_ret
  exact ⟨rfl, HM.out, (Turns.of_below (S := fun j => j = g ∨ j = b) HB.out).trans (S' := fun j => j = g ∨ j = b) HT.out (fun _ _ q => q)⟩
/-- what an act answers, and leaves -/
def actE (s : DSt) (L : Nat) (a n : Int) : Int := if s.off then 8 else if hasB L a n then (if s.u = 1 then 8 else 0) else 3
def actS (s : DSt) (L : Nat) (kd a n : Int) (ws : List Wd) : DSt := if s.off then s else if hasB L a n then (if s.u = 1 then s.gone L s.pl else s.done kd a n ws) else s
theorem lessU_nat (u : Nat) : lessU (u : Int) = ((u - 1 : Nat) : Int) := by
  unfold lessU
  split <;> omega
set_option maxHeartbeats 1000000 in
/-- any act: told of a world ahead (W), with the closure's boxes made (V) -/
theorem do_any (g b L c : Nat) (av pv : Value) (s : DSt) (kd a n : Int) (f : FuncId) (cp : Array Value) (ws : List Wd) (W V : World) (hf : EntersF f) (h : PD W g b L c av pv s) (hb : Below W.heap.size W V) (hk : s.k < 16384)
    (hc : s.off = false → hasB L a n = true → ∀ (av' : Value) (W' : World), DevK W' g (.slice (some ⟨b, 0, none⟩) L c) false av' (s.k + 1) (s.al ++ actV kd a n) ((s.u - 1 : Nat) : Int) pv → MemB W' b LineT s.ws → Turns (fun j => j = g ∨ av.ownBlock = some j) V W' →
      Calls Try.prog f cp W' fun e w' => e = .returned (.tuple #[]) ∧ W'.grownBy w' (some b) ∧ MemB w' b LineT ws) (hlen : ws.length = 8 * L) :
    Calls Try.prog 37 #[.pointer (some ⟨g, 0, none⟩), .agg #[.int .i64 kd, .int .i64 a, .int .i64 n], .func (Fn.func f) #[] cp] V (PTo W g b L c av pv (.returned (.int .i64 (actE s L a n))) (actS s L kd a n ws)) := by
  have hV := h.next hb
  have hsame : ∀ {W3 : World}, Below V.heap.size V W3 → ∀ e0, PTo W g b L c av pv e0 s e0 W3 := fun hb3 e0 =>
    h.close (hb.trans (hb3.mono hb.size)) (Turns.of_below (Below.refl _ _)) (hV.next hb3).m (.inl ⟨rfl, rfl⟩) h.one h.u2 (.inl rfl) e0
  unfold actE actS
  cases ho : s.off
  · cases hr : hasB L a n
    · have hq : refS8 L s.off a n = 3 := by unfold refS8; rw [ho, hr]; rfl
      refine (do_ref g L c _ s.off av pv (s.u : Int) kd a n _ V hV.m.dev.dev h.m.L1 (by rw [hq]; decide)).mono ?_
      rintro e w1 ⟨rfl, hb1⟩
      rw [hq]
      exact hsame hb1 _
    · by_cases hu : s.u = 1
      · refine (do_gone g b L c av pv s kd a n _ V hV ho hu hr).mono ?_
        rintro e w1 ⟨rfl, hd, ht⟩
        simp only [Bool.false_eq_true, if_false, if_true, if_pos hu]
        exact h.close (s' := s.gone L s.pl) hb (ht.mono (fun j _ q => q.imp id .inl)) hd (.inr ⟨rfl, rfl⟩) h.one (by show (0 : Nat) ≤ _; omega) (.inl rfl) _
      · simp only [Bool.false_eq_true, if_false, if_true, if_neg hu]
        have hK := hV.m.dev
        rw [ho] at hK
        have hlt := hV.m.dev.own.lt
        have hu3 := h.u2
        refine (doG_any g s.k L c _ av pv s.al (s.u : Int) kd a n f cp (fun w' => PTo W g b L c av pv (.returned (.int .i64 0)) (s.done kd a n ws) (.returned (.int .i64 0)) w') V hf hK h.m.L1 hk (by omega) (by omega) hr ?_).mono ?_
        · intro av' W' hdk ht h3
          have hm : MemB W' b LineT s.ws := hV.m.mem.same (ht.block b hV.m.mem.lt (by
            have h5 := hV.m.bg
            rintro (q | q)
            · omega
            · have := (hlt b q).1; omega))
          have hdk2 := hdk
          rw [lessU_nat] at hdk2
          refine (hc ho hr av' W' hdk2 hm ht).mono ?_
          rintro e w1 ⟨he, hg1, hm1⟩
          refine ⟨he, h.close (s' := s.done kd a n ws) hb ?_ ⟨by show DevK w1 g _ s.off _ _ _ _ _; rw [ho]; exact hdk2.memory h.m.bg hg1, hm1, hlen, h.m.bg, h.m.L1⟩ (.inl ⟨rfl, rfl⟩) (actV_one h.one _ _ _) (by show s.u - 1 ≤ _; omega) (h3.imp id fun ⟨j, q, r⟩ => ⟨j, Nat.le_trans hb.size q, r⟩) _⟩
          exact (ht.mono (fun j _ q => q.imp id .inr)).trans (S' := fun j => j = b) (Turns.of_grown hg1 (fun j e => by injection e with e; exact e.symm)) (fun j _ q => .inr (.inl q))
        · rintro e w1 ⟨rfl, h4⟩
          exact h4
  · have hq : refS8 L s.off a n = 8 := by unfold refS8; rw [ho]; rfl
    refine (do_ref g L c _ s.off av pv (s.u : Int) kd a n _ V hV.m.dev.dev h.m.L1 (by rw [hq]; decide)).mono ?_
    rintro e w1 ⟨rfl, hb1⟩
    rw [hq]
    exact hsame hb1 _
end
section
open Go.RowKit Go
set_option linter.unusedVariables false
set_option linter.unusedSimpArgs false
set_option maxRecDepth 100000
/-- the call gives the acts, in a row of its own -/
def AcOwn (w : World) (k : Nat) (al : List Value) (e : Ending) (w' : World) : Prop := ∃ v, e = .returned v ∧ w'.ownsRow w.heap.size ActT 3 v k al ∧ Below w.heap.size w w'
set_option maxHeartbeats 2000000 in
theorem clone_A (B k : Nat) (av : Value) (al : List Value) (w : World) (h : w.ownsRow B ActT 3 av k al) (hk9 : k < 100000) (hone : ∀ u ∈ al, u.oneCell' = true) :
    Calls Try.prog 54 #[av] w (AcOwn w k al) := by
  obtain ⟨hl, h2⟩ := h
  rcases h2 with ⟨rfl, h0⟩ | ⟨ga, cap, cur, rfl, hg, hh, hn, hm, hs, ht⟩
  · have hq := eql_nilA
    subst h0
    obtain rfl : al = [] := List.eq_nil_of_length_eq_zero (by omega)
    go_enter Try.func54, Try.ntmps54
    go_wp2
    go_ret
    exact ⟨_, rfl, World.ownsRow_nil _ _ _ _, Below.refl _ _⟩
  have hlt : ga < w.heap.size := blk_lt hh
  obtain ⟨i0, hi, hz0, hz1, hz2⟩ := info_parts info_act
  have HX : Hid ((w.alloc (.cells #[] ActT)).ownsRow w.heap.size ActT 3 (.slice (some ⟨w.heap.size, 0, none⟩) 0 0) 0 []) := Lib.hid ⟨rfl, .inr ⟨w.heap.size, 0, #[], rfl, Nat.le_refl _, heap_alloc_new _ _, Nat.le_refl _, by unfold maxLen; omega, rfl, rfl⟩⟩
  have HAL : Hid (Below w.heap.size w (w.alloc (.cells #[] ActT))) := Lib.hid ((Below.refl _ _).alloc (Nat.le_refl _) _)
  have HH : Hid ((w.alloc (.cells #[] ActT)).heap[ga]? = some (.cells cur ActT (0, 0))) := Lib.hid (blk_alloc hh _)
  have HT : Hid (∀ j u, al[j]? = some u → cur[j]? = some u) := Lib.hid (fun j u hj => by
    have hj3 : j < k * 3 := by have := (List.getElem?_eq_some_iff.mp hj).1; omega
    rw [← ht, List.getElem?_take_of_lt hj3] at hj
    simpa using hj)
  have HLN := Lib.hid hl
  have HONE := Lib.hid hone
  have HI := Lib.hid hi
  have HZ := Lib.hid (And.intro hz0 (And.intro hz1 hz2))
  have hq := eql_nilA
  clear hl hh hn hm hs ht hone hi hz0 hz1 hz2
  go_enter Try.func54, Try.ntmps54
  go_wp2_with (at_builtin; refine wpList_plain rfl fun K0 hK => ?_; refine wp_append_own _ (.tmp 5) (.tmp 6) 47 rfl w.heap.size ActT i0 (.agg #[.int .i64 0, .int .i64 0, .int .i64 0]) 3 24 Try.underlying47 HI.out HZ.out.1 HZ.out.2.1 HZ.out.2.2 rfl (by decide) (.slice (some ⟨w.heap.size, 0, none⟩) 0 0) 0 [] rfl HX.out ⟨ga, 0, none⟩ k cap al rfl HLN.out (fun j u hj => by rw [Go.WideShapes.add_plain, Nat.zero_add, blk_cell HH.out j]; exact HT.out j u hj) HONE.out (by unfold maxLen; omega) (by omega) HAL.out.size ?_; intro v9 w9 ho9 hg9 _; obtain ⟨A9, c9, e9⟩ : ∃ A c, v9 = .slice A (0 + k) c := rowJ ho9; rw [Nat.zero_add] at e9; subst e9; have HF : Hid (AcOwn w k al (.returned (.slice A9 k c9)) w9) := Lib.hid ⟨_, rfl, by rw [Nat.zero_add, List.nil_append] at ho9; exact ho9, HAL.out.trans ((Below.refl _ _).grown hg9 HAL.out.size (fun i hi => (World.ownsRow.lt HX.out i hi).1))⟩; clear ho9 hg9; refine hK _ _ ?_)
  go_ret
  exact HF.out
theorem acts_P (g b L c : Nat) (av pv : Value) (s : DSt) (w : World) (h : PD w g b L c av pv s) (hk9 : s.k < 100000) :
    Calls Try.prog 22 #[.pointer (some ⟨g, 0, none⟩)] w (AcOwn w s.k s.al) := by
  have HC := Lib.hid (clone_A (g + 1) s.k av s.al w h.m.dev.own hk9 h.one)
  have c2 : w.cell? ⟨g, 2, none⟩ = some av := blk_cell h.m.dev.dev 2
  clear h
  go_enter Try.func22, Try.ntmps22
  go_wp2_with fail
  refine HC.out.mono ?_
  rintro e w1 ⟨v, rfl, ho, hb⟩
  have HB := Lib.hid hb
  have HO := Lib.hid ho
  obtain ⟨A, c9, rfl⟩ := rowJ ho
  clear hb ho
  go_wp2
  go_ret
  exact ⟨_, rfl, HO.out, HB.out⟩
theorem store_wrap (g : Nat) (a : Int) (B : Option Addr) (n nc : Nat) (z : Int) (R : World → Prop) (w : World) (h : Calls Try.prog 37 #[.pointer (some ⟨g, 0, none⟩), .agg #[.int .i64 1, .int .i64 a, .int .i64 (n : Int)], .func (Fn.func 38) #[] #[.pointer (some ⟨w.heap.size, 0, none⟩), .pointer (some ⟨w.heap.size + 1, 0, none⟩), .pointer (some ⟨w.heap.size + 1 + 1, 0, none⟩)]] (stW w g a (.slice B n nc)) fun e w' => e = .returned (.int .i64 z) ∧ R w') :
    Calls Try.prog 13 #[.pointer (some ⟨g, 0, none⟩), .int .i64 a, .slice B n nc] w fun e w' => e = .returned (.int .i64 z) ∧ R w' := by
  have HD := Lib.hid h
  clear h
  go_enter Try.func13, Try.ntmps13
  go_wp2_with fail
  refine HD.out.mono ?_
  rintro e w1 ⟨rfl, hR⟩
  have HR := Lib.hid hR
  clear hR
  go_wp2
  go_ret
  exact ⟨rfl, HR.out⟩
theorem flush_wrap (g : Nat) (a n : Int) (z : Int) (R : World → Prop) (w : World) (h : Calls Try.prog 37 #[.pointer (some ⟨g, 0, none⟩), .agg #[.int .i64 2, .int .i64 a, .int .i64 n], .func (Fn.func 41) #[] #[.pointer (some ⟨w.heap.size, 0, none⟩), .pointer (some ⟨w.heap.size + 1, 0, none⟩), .pointer (some ⟨w.heap.size + 1 + 1, 0, none⟩)]] (flW w g a n) fun e w' => e = .returned (.int .i64 z) ∧ R w') :
    Calls Try.prog 14 #[.pointer (some ⟨g, 0, none⟩), .int .i64 a, .int .i64 n] w fun e w' => e = .returned (.int .i64 z) ∧ R w' := by
  have HD := Lib.hid h
  clear h
  go_enter Try.func14, Try.ntmps14
  go_wp2_with fail
  refine HD.out.mono ?_
  rintro e w1 ⟨rfl, hR⟩
  have HR := Lib.hid hR
  clear hR
  go_wp2
  go_ret
  exact ⟨rfl, HR.out⟩
theorem fence_wrap (g : Nat)  (z : Int) (R : World → Prop) (w : World) (h : Calls Try.prog 37 #[.pointer (some ⟨g, 0, none⟩), .agg #[.int .i64 3, .int .i64 0, .int .i64 0], .func (Fn.func 44) #[] #[.pointer (some ⟨w.heap.size, 0, none⟩)]] (w.alloc (.cells #[.pointer (some ⟨g, 0, none⟩)] 23)) fun e w' => e = .returned (.int .i64 z) ∧ R w') :
    Calls Try.prog 15 #[.pointer (some ⟨g, 0, none⟩)] w fun e w' => e = .returned (.int .i64 z) ∧ R w' := by
  have HD := Lib.hid h
  clear h
  go_enter Try.func15, Try.ntmps15
  go_wp2_with fail
  refine HD.out.mono ?_
  rintro e w1 ⟨rfl, hR⟩
  have HR := Lib.hid hR
  clear hR
  go_wp2
  go_ret
  exact ⟨rfl, HR.out⟩
theorem do4_wrap (g : Nat)  (z : Int) (R : World → Prop) (w : World) (h : Calls Try.prog 37 #[.pointer (some ⟨g, 0, none⟩), .agg #[.int .i64 4, .int .i64 0, .int .i64 0], .func (Fn.func 57) #[] #[]] w fun e w' => e = .returned (.int .i64 z) ∧ R w') :
    Calls Try.prog 30 #[.pointer (some ⟨g, 0, none⟩)] w fun e w' => e = .returned (.int .i64 z) ∧ R w' := by
  have HD := Lib.hid h
  clear h
  go_enter Try.func30, Try.ntmps30
  go_wp2_with fail
  refine HD.out.mono ?_
  rintro e w1 ⟨rfl, hR⟩
  have HR := Lib.hid hR
  clear hR
  go_wp2
  go_ret
  exact ⟨rfl, HR.out⟩
theorem flush1_zero (p0 p1 p2 g : Nat) (at_ : Int) (w : World) (h0 : w.cell? ⟨p0, 0, none⟩ = some (.pointer (some ⟨g, 0, none⟩))) (h1 : w.cell? ⟨p1, 0, none⟩ = some (.int .i64 at_)) (h2 : w.cell? ⟨p2, 0, none⟩ = some (.int .i64 0)) :
    Calls Try.prog 41 #[.pointer (some ⟨p0, 0, none⟩), .pointer (some ⟨p1, 0, none⟩), .pointer (some ⟨p2, 0, none⟩)] w fun e w' => e = .returned (.tuple #[]) ∧ w' = w := by
  have HP := Lib.hid (each_zero g at_ (.func (Fn.func 43) #[] #[]) w)
  go_enter Try.func41, Try.ntmps41
  go_wp2_with fail
  refine HP.out.mono ?_
  rintro e w1 ⟨rfl, rfl⟩
  go_wp2
  go_end0
  exact ⟨rfl, rfl⟩
/-- what a flush makes of the words -/
def flushW (at_ n : Nat) (ws : List Wd) : List Wd := if n = 0 then ws else turnW (fun _ => Wd.fl) (8 * (at_ / 64)) (8 * ((at_ + n - 1) / 64 + 1)) ws
theorem flushW_len (at_ n : Nat) (ws : List Wd) : (flushW at_ n ws).length = ws.length := by
  unfold flushW
  split
  · rfl
  · exact turnW_len ..
/-- where a slice that is stored may not lie -/
def FarP (n : Nat) (A : Option Addr) (g b : Nat) (av pv : Value) : Prop := 0 < n → ∀ ad, A = some ad → ¬ PS g b av pv ad.block
theorem hasB_nat {L : Nat} {a n : Int} (h : hasB L a n = true) : a = (a.toNat : Int) ∧ n = (n.toNat : Int) ∧ a.toNat + n.toNat ≤ 64 * L := by
  have h1 := of_decide_eq_true h
  omega
theorem store_P (g b L c n c9 : Nat) (at_ : Int) (A : Option Addr) (l : List Nat) (av pv : Value) (s : DSt) (w : World) (h : PD w g b L c av pv s) (hk : s.k < 16384) (hb : BS w w.heap.size A n c9 l) (hf : FarP n A g b av pv) :
    Calls Try.prog 13 #[.pointer (some ⟨g, 0, none⟩), .int .i64 at_, .slice A n c9] w (PTo w g b L c av pv (.returned (.int .i64 (actE s L at_ (n : Int)))) (actS s L 1 at_ (n : Int) (putW Wd.st at_.toNat l s.ws))) := by
  have hbl : Below w.heap.size w (stW w g at_ (.slice A n c9)) := by
    unfold stW
    exact (((Below.refl w.heap.size w).alloc (Nat.le_refl _) _).alloc (by simp) _).alloc (by simp; omega) _
  refine (store_wrap g at_ A n c9 _ (fun w1 => PTo w g b L c av pv (.returned (.int .i64 (actE s L at_ (n : Int)))) (actS s L 1 at_ (n : Int) (putW Wd.st at_.toNat l s.ws)) (.returned (.int .i64 (actE s L at_ (n : Int)))) w1) w ((do_any g b L c av pv s 1 at_ (n : Int) _ _ (putW Wd.st at_.toNat l s.ws) w _ (fun _ _ => rfl) h hbl hk ?_ (by rw [putW_len]; exact h.m.len)).mono fun e w1 q => ⟨q.1, rfl, q.2⟩)).mono fun e w1 q => ⟨q.1, q.2.2⟩
  intro ho hr av' W' hdk hm ht
  have hf3 : Far3 n A g b av := fun h0 ad e => ⟨fun q => hf h0 ad e (.inl q), fun q => hf h0 ad e (.inr (.inl q)), fun q => hf h0 ad e (.inr (.inr (.inl q)))⟩
  have hbs := bs_turns hb hf3 hbl ht
  have hlt := h.m.dev.own.lt
  have hgl := h.m.dev.dev.lt
  have hsz : (stW w g at_ (.slice A n c9)).heap.size = w.heap.size + 1 + 1 + 1 := by unfold stW; simp
  have hcell : ∀ i, i < 3 → W'.cell? ⟨w.heap.size + i, 0, none⟩ = (stW w g at_ (.slice A n c9)).cell? ⟨w.heap.size + i, 0, none⟩ := fun i hi =>
    World.cell?_of_block (ht.block (w.heap.size + i) (by omega) (by
      rintro (q | q)
      · omega
      · have := (hlt _ q).2; omega))
  have HE := Lib.hid (hasB_nat hr)
  have c0 : W'.cell? ⟨w.heap.size, 0, none⟩ = some (.pointer (some ⟨g, 0, none⟩)) := (hcell 0 (by omega)).trans (by unfold stW; go_simp)
  have c1 : W'.cell? ⟨w.heap.size + 1, 0, none⟩ = some (.int .i64 (at_.toNat : Int)) := by rw [← HE.out.1]; exact (hcell 1 (by omega)).trans (by unfold stW; go_simp)
  have c2 : W'.cell? ⟨w.heap.size + 1 + 1, 0, none⟩ = some (.slice A n c9) := (hcell 2 (by omega)).trans (by unfold stW; go_simp)
  exact store1_any _ _ _ g b L c at_.toNat n c9 A l s.ws W' c0 c1 c2 (by have := HE.out; omega) h.m.L1 hdk.dev.lines hdk.dev.lt (by have := h.m.bg; omega) h.m.len hm hbs (fun h0 ad e => (hf3 h0 ad e).2.1)
theorem flush_P (g b L c : Nat) (at_ n : Int) (av pv : Value) (s : DSt) (w : World) (h : PD w g b L c av pv s) (hk : s.k < 16384) :
    Calls Try.prog 14 #[.pointer (some ⟨g, 0, none⟩), .int .i64 at_, .int .i64 n] w (PTo w g b L c av pv (.returned (.int .i64 (actE s L at_ n))) (actS s L 2 at_ n (flushW at_.toNat n.toNat s.ws))) := by
  have hbl : Below w.heap.size w (flW w g at_ n) := by
    unfold flW
    exact (((Below.refl w.heap.size w).alloc (Nat.le_refl _) _).alloc (by simp) _).alloc (by simp; omega) _
  refine (flush_wrap g at_ n _ (fun w1 => PTo w g b L c av pv (.returned (.int .i64 (actE s L at_ n))) (actS s L 2 at_ n (flushW at_.toNat n.toNat s.ws)) (.returned (.int .i64 (actE s L at_ n))) w1) w ((do_any g b L c av pv s 2 at_ n _ _ (flushW at_.toNat n.toNat s.ws) w _ (fun _ _ => rfl) h hbl hk ?_ (by rw [flushW_len]; exact h.m.len)).mono fun e w1 q => ⟨q.1, rfl, q.2⟩)).mono fun e w1 q => ⟨q.1, q.2.2⟩
  intro ho hr av' W' hdk hm ht
  have hlt := h.m.dev.own.lt
  have hgl := h.m.dev.dev.lt
  have hsz : (flW w g at_ n).heap.size = w.heap.size + 1 + 1 + 1 := by unfold flW; simp
  have hcell : ∀ i, i < 3 → W'.cell? ⟨w.heap.size + i, 0, none⟩ = (flW w g at_ n).cell? ⟨w.heap.size + i, 0, none⟩ := fun i hi =>
    World.cell?_of_block (ht.block (w.heap.size + i) (by omega) (by
      rintro (q | q)
      · omega
      · have := (hlt _ q).2; omega))
  have HE := Lib.hid (hasB_nat hr)
  have c0 : W'.cell? ⟨w.heap.size, 0, none⟩ = some (.pointer (some ⟨g, 0, none⟩)) := (hcell 0 (by omega)).trans (by unfold flW; go_simp)
  have c1 : W'.cell? ⟨w.heap.size + 1, 0, none⟩ = some (.int .i64 (at_.toNat : Int)) := by rw [← HE.out.1]; exact (hcell 1 (by omega)).trans (by unfold flW; go_simp)
  have c2 : W'.cell? ⟨w.heap.size + 1 + 1, 0, none⟩ = some (.int .i64 (n.toNat : Int)) := by rw [← HE.out.2.1]; exact (hcell 2 (by omega)).trans (by unfold flW; go_simp)
  unfold flushW
  by_cases h0 : n.toNat = 0
  · rw [if_pos h0]
    rw [h0] at c2
    refine (flush1_zero _ _ _ g _ W' c0 c1 c2).mono ?_
    rintro e w1 ⟨rfl, rfl⟩
    exact ⟨rfl, World.grownBy.refl _ _, hm⟩
  · rw [if_neg h0]
    refine (flush1_any _ _ _ g b L c at_.toNat n.toNat s.ws W' c0 c1 c2 (by omega) HE.out.2.2 h.m.L1 hdk.dev.lines hdk.dev.lt (by have := h.m.bg; omega) h.m.len hm).mono ?_
    rintro e w1 ⟨rfl, h1, h2⟩
    exact ⟨rfl, grown_turns h1, h2⟩
theorem fence_P (g b L c : Nat) (av pv : Value) (s : DSt) (w : World) (h : PD w g b L c av pv s) (hk : s.k < 16384) :
    Calls Try.prog 15 #[.pointer (some ⟨g, 0, none⟩)] w (PTo w g b L c av pv (.returned (.int .i64 (actE s L 0 0))) (actS s L 3 0 0 (turnW (fun _ => Wd.fe) 0 (8 * L) s.ws))) := by
  have hbl : Below w.heap.size w (w.alloc (.cells #[.pointer (some ⟨g, 0, none⟩)] 23)) := (Below.refl w.heap.size w).alloc (Nat.le_refl _) _
  refine (fence_wrap g _ (fun w1 => PTo w g b L c av pv (.returned (.int .i64 (actE s L 0 0))) (actS s L 3 0 0 (turnW (fun _ => Wd.fe) 0 (8 * L) s.ws)) (.returned (.int .i64 (actE s L 0 0))) w1) w ((do_any g b L c av pv s 3 0 0 _ _ (turnW (fun _ => Wd.fe) 0 (8 * L) s.ws) w _ (fun _ _ => rfl) h hbl hk ?_ (by rw [turnW_len]; exact h.m.len)).mono fun e w1 q => ⟨q.1, rfl, q.2⟩)).mono fun e w1 q => ⟨q.1, q.2.2⟩
  intro ho hr av' W' hdk hm ht
  have hlt := h.m.dev.own.lt
  have hgl := h.m.dev.dev.lt
  have hsz : (w.alloc (.cells #[.pointer (some ⟨g, 0, none⟩)] 23)).heap.size = w.heap.size + 1 := by simp
  have c0 : W'.cell? ⟨w.heap.size, 0, none⟩ = some (.pointer (some ⟨g, 0, none⟩)) := (World.cell?_of_block (ht.block w.heap.size (by omega) (by
      rintro (q | q)
      · omega
      · have := (hlt _ q).2; omega))).trans (by go_simp)
  refine (fence1_L _ g b L c _ _ _ _ s.ws W' c0 h.m.L1 hdk.dev (by have := h.m.bg; omega) h.m.len hm).mono ?_
  rintro e w1 ⟨rfl, h1, h2⟩
  exact ⟨rfl, grown_turns h1, h2⟩
theorem do4_P (g b L c : Nat) (av pv : Value) (s : DSt) (w : World) (h : PD w g b L c av pv s) (hk : s.k < 16384) :
    Calls Try.prog 30 #[.pointer (some ⟨g, 0, none⟩)] w (PTo w g b L c av pv (.returned (.int .i64 (actE s L 0 0))) (actS s L 4 0 0 s.ws)) := by
  refine (do4_wrap g _ (fun w1 => PTo w g b L c av pv (.returned (.int .i64 (actE s L 0 0))) (actS s L 4 0 0 s.ws) (.returned (.int .i64 (actE s L 0 0))) w1) w ((do_any g b L c av pv s 4 0 0 _ _ s.ws w w (fun _ _ => rfl) h (Below.refl _ _) hk ?_ h.m.len).mono fun e w1 q => ⟨q.1, rfl, q.2⟩)).mono fun e w1 q => ⟨q.1, q.2.2⟩
  intro ho hr av' W' hdk hm ht
  refine (do1_any W').mono ?_
  rintro e w1 ⟨rfl, rfl⟩
  exact ⟨rfl, World.grownBy.refl _ _, hm⟩
end
section
open Go.RowKit Go
set_option linter.unusedVariables false
set_option linter.unusedSimpArgs false
set_option maxRecDepth 100000
def DSt.crash (s : DSt) (L : Nat) (l : List Nat) : DSt := if s.off then s else s.gone L l
def DSt.on (s : DSt) : DSt := ⟨s.ws, false, s.k, s.al, 0, []⟩
theorem crash_P (g b L c n c9 : Nat) (A : Option Addr) (l : List Nat) (av pv : Value) (s : DSt) (w : World) (h : PD w g b L c av pv s) (hb : BS w w.heap.size A n c9 l) (ho : Off n A b) :
    Calls Try.prog 18 #[.pointer (some ⟨g, 0, none⟩), .slice A n c9] w (PTo w g b L c av pv (.returned (.tuple #[])) (s.crash L l)) := by
  have hm := h.m
  unfold DSt.crash
  cases hof : s.off
  · rw [hof] at hm
    refine (crash_L g b L c s.k n c9 A l av pv s.al _ s.ws w hm hb ho).mono ?_
    rintro e w1 ⟨rfl, hd, ht⟩
    exact h.close (s' := s.gone L l) (Below.refl _ _) (ht.mono fun j _ q => q.imp id .inl) hd (.inr ⟨rfl, rfl⟩) h.one (Nat.zero_le _) (.inl rfl) _
  · rw [hof] at hm
    refine (crash_off_M g b L c s.k n c9 A av pv s.al _ s.ws w hm).mono ?_
    rintro e w1 ⟨rfl, hd, ht⟩
    rw [← hof] at hd
    exact h.close (s' := s) (Below.refl _ _) (ht.mono fun j _ q => .inl q) hd (.inl ⟨rfl, rfl⟩) h.one h.u2 (.inl rfl) _
theorem on_P (g b L c : Nat) (av pv : Value) (s : DSt) (w : World) (h : PD w g b L c av pv s) :
    Calls Try.prog 12 #[.pointer (some ⟨g, 0, none⟩)] w (PTo w g b L c av pv (.returned (.tuple #[])) s.on) := by
  refine (on_M g b L c s.k s.off av pv s.al _ s.ws w h.m).mono ?_
  rintro e w1 ⟨rfl, hd, ht⟩
  exact h.close (s' := s.on) (Below.refl _ _) (ht.mono fun j _ q => .inl q) hd (.inr ⟨rfl, rfl⟩) h.one (Nat.zero_le _) (.inl rfl) _
theorem eql_nilB (W : World) (a : Option Addr) (n c : Nat) : (binOp .eql 28 (.slice a n c) (.slice none 0 0)).run Try.prog W = .ok (.bool a.isNone) W := by
  simp [binOp, run_equal_slice_nil W 28 5 a n c Try.underlying28]
/-- the call gives a copy of its own -/
def ClTo (w : World) (l : List Nat) (e : Ending) (w' : World) : Prop := ∃ v, e = .returned v ∧ Own w' w.heap.size v l ∧ Below w.heap.size w w'
set_option maxHeartbeats 1000000 in
theorem bclone_P (A : Option Addr) (n c : Nat) (l : List Nat) (w : World) (hs : BS w w.heap.size A n c l) (hn : n < 1000000) :
    Calls Try.prog 58 #[.slice A n c] w (ClTo w l) := by
  have hq := eql_nilB
  rcases A with _ | ad
  · obtain rfl : l = [] := by
      rcases Nat.eq_zero_or_pos n with h0 | h0
      · exact List.eq_nil_of_length_eq_zero (by rw [hs.len]; exact h0)
      · obtain ⟨b, o, e, _⟩ := hs.at_ h0; cases e
    clear hs
    go_enter Try.func58, Try.ntmps58
    go_wp2
    go_ret
    exact ⟨_, rfl, Own.nil _ _, Below.refl _ _⟩
  · have HX : Hid (Own (w.alloc (.cells #[] 5)) w.heap.size (.slice (some ⟨w.heap.size, 0, none⟩) 0 0) []) := Lib.hid ⟨rfl, .inr ⟨w.heap.size, 0, #[], rfl, Nat.le_refl _, heap_alloc_new _ _, Nat.le_refl _, by unfold maxLen; omega, rfl, rfl⟩⟩
    have HAL : Hid (Below w.heap.size w (w.alloc (.cells #[] 5))) := Lib.hid ((Below.refl _ _).alloc (Nat.le_refl _) _)
    have HS : Hid (BS (w.alloc (.cells #[] 5)) w.heap.size (some ad) n c l) := Lib.hid (hs.below HAL.out)
    have HL := Lib.hid hs.len
    clear hs
    go_enter Try.func58, Try.ntmps58
    go_wp2_with (at_builtin; refine wpList_plain rfl fun K0 hK => ?_; refine step_appsG _ (.tmp 5) (.tmp 6) rfl w.heap.size _ [] rfl HX.out _ _ n c l rfl HS.out (fun e => by cases e) (by simp; omega) HAL.out.size ?_; intro v9 w9 ho9 hb9 _; rw [List.nil_append] at ho9; have HF : Hid (ClTo w l (.returned v9) w9) := Lib.hid ⟨_, rfl, ho9, HAL.out.trans hb9⟩; obtain ⟨A9, c9, e9⟩ := own_form ho9; rw [HL.out] at e9; subst e9; clear ho9 hb9; refine hK _ _ ?_)
    go_ret
    exact HF.out
/-- behind an Arm -/
def DSt.arm (s : DSt) (a : Int) (l : List Nat) : DSt := ⟨s.ws, s.off, s.k, s.al, a.toNat, if a < 1 then [] else l⟩
theorem PD.armed {W W' : World} {g b L c : Nat} {av pv pv' : Value} {s : DSt} (h : PD W g b L c av pv s) (u : Nat) (hu : u ≤ 9223372036854775807) (l : List Nat) (hl : ∀ v ∈ l, v < 256) (hb : Below W.heap.size W W') (ho : Own W' W.heap.size pv' l) (e0 : Ending) :
    PTo W g b L c av pv e0 ⟨s.ws, s.off, s.k, s.al, u, l⟩ e0 ((W'.setCell ⟨g, 3, none⟩ (.int .i64 (u : Int))).setCell ⟨g, 4, none⟩ pv') := by
  have h1 := h.next hb
  have hbg := h.m.bg
  have hg := h.m.dev.dev.lt
  have t1 : Turns (fun j => j = g) W' ((W'.setCell ⟨g, 3, none⟩ (.int .i64 (u : Int))).setCell ⟨g, 4, none⟩ pv') := turns_g 3 4 _ _
  refine ⟨rfl, av, pv', ⟨h1.m.of ((h1.m.dev.set_.2.1 _).set_.2.2 _) ((Below.heap_setCell _ _ _ _ (by show b ≠ g; omega)).trans (Below.heap_setCell _ _ _ _ (by show b ≠ g; omega))), ?_, hl, h.one, hu⟩, (Turns.of_below (S := PS g b av pv) hb).trans t1 (fun j _ q => .inl q), ?_⟩
  · obtain ⟨k1, k2⟩ := ho
    refine ⟨k1, ?_⟩
    rcases k2 with k2 | ⟨q, cap, cur, hv, hq, hh, hr⟩
    · exact .inl k2
    · exact .inr ⟨q, cap, cur, hv, by omega, (t1.block q (blk_lt hh) (by omega)).trans hh, hr⟩
  · rintro j (q | q | q | q)
    · exact .inl (.inl q)
    · exact .inl (.inr (.inl q))
    · exact .inl (.inr (.inr (.inl q)))
    · exact .inr (ho.lt q).1
set_option maxHeartbeats 1000000 in
theorem arm_P (g b L c n c9 : Nat) (a : Int) (ha9 : a ≤ 9223372036854775807) (A : Option Addr) (l : List Nat) (av pv : Value) (s : DSt) (w : World) (h : PD w g b L c av pv s) (hb : BS w w.heap.size A n c9 l) (hn : n < 1000000) :
    Calls Try.prog 33 #[.pointer (some ⟨g, 0, none⟩), .int .i64 a, .slice A n c9] w (PTo w g b L c av pv (.returned (.tuple #[])) (s.arm a l)) := by
  have hl : ∀ v ∈ l, v < 256 := fun v hv => by
    obtain ⟨i, hi⟩ := List.getElem?_of_mem hv
    have := hb.byte i
    rw [List.getD_eq_getElem?_getD, hi] at this
    exact this
  unfold DSt.arm
  by_cases ha : a < 1
  · have HC := Lib.hid (clone_nil w)
    have HF := Lib.hid (h.armed 0 (by omega) [] (by simp) (Below.refl _ _) (Own.nil _ _) (.returned (.tuple #[])))
    have e0 : a.toNat = 0 := by omega
    rw [if_pos ha, e0]
    have k3 := h.m.dev.dev.until
    have k4 := h.m.dev.dev.picks
    have f3 := h.m.dev.dev.free 3
    have f4 := h.m.dev.dev.free 4
    clear h hb hl e0
    go_enter Try.func33, Try.ntmps33
    go_wp2_with fail
    refine HC.out.mono ?_
    rintro e w1 ⟨rfl, rfl⟩
    go_wp2
    go_end0
    exact HF.out
  · have HC := Lib.hid (bclone_P A n c9 l w hb hn)
    obtain ⟨u, rfl⟩ : ∃ u : Nat, a = (u : Int) := ⟨a.toNat, by omega⟩
    rw [if_neg ha, Int.toNat_natCast]
    have HF := Lib.hid (fun (w1 : World) (v : Value) (hb1 : Below w.heap.size w w1) (ho1 : Own w1 w.heap.size v l) => h.armed u (by omega) l hl hb1 ho1 (.returned (.tuple #[])))
    have HD := Lib.hid h.m.dev.dev
    clear h hb hl
    go_enter Try.func33, Try.ntmps33
    go_wp2_with fail
    refine HC.out.mono ?_
    rintro e w1 ⟨v, rfl, ho1, hb1⟩
    have hd1 := HD.out.next hb1
    have k3 := hd1.until
    have k4 := hd1.picks
    have f3 := hd1.free 3
    have f4 := hd1.free 4
    have HG := Lib.hid (HF.out w1 v hb1 ho1)
    obtain ⟨A9, c9', rfl⟩ := own_form ho1
    generalize l.length = m9 at *
    clear hd1 hb1 ho1
    go_wp2
    go_end0
    exact HG.out
def DSt.tamper (s : DSt) (L : Nat) (at_ : Int) (n : Nat) (l : List Nat) : DSt := ⟨if hasB L at_ (n : Int) then putW Wd.tam at_.toNat l s.ws else s.ws, s.off, s.k, s.al, s.u, s.pl⟩
theorem tamper_P (g b L c n c9 : Nat) (at_ : Int) (A : Option Addr) (l : List Nat) (av pv : Value) (s : DSt) (w : World) (h : PD w g b L c av pv s) (hb : BS w w.heap.size A n c9 l) (ho : Off n A b) :
    Calls Try.prog 35 #[.pointer (some ⟨g, 0, none⟩), .int .i64 at_, .slice A n c9] w (PTo w g b L c av pv (.returned (.bool (hasB L at_ (n : Int)))) (s.tamper L at_ n l)) := by
  have HH := Lib.hid (has_any g L c _ s.off av pv _ at_ (n : Int) w h.m.dev.dev h.m.L1)
  unfold DSt.tamper
  cases hr : hasB L at_ (n : Int)
  · rw [hr] at HH
    have HF := Lib.hid (h.close (s' := s) (Below.refl _ _) (Turns.of_below (Below.refl _ _)) h.m (.inl ⟨rfl, rfl⟩) h.one h.u2 (.inl rfl) (.returned (.bool false)))
    clear h hb ho hr
    go_enter Try.func35, Try.ntmps35
    go_wp2_with fail
    refine HH.out.mono ?_
    rintro e w1 ⟨rfl, rfl⟩
    go_wp2
    go_ret
    exact HF.out
  · rw [hr] at HH
    have e1 := (hasB_nat hr).1
    have e3 := (hasB_nat hr).2.2
    obtain ⟨m, hm⟩ : ∃ m, m = at_.toNat := ⟨_, rfl⟩
    rw [← hm] at e1 e3 ⊢
    subst e1
    have HP := Lib.hid (put_m g b L c m n c9 A l 60 Wd.tam LineT s.ws w (fun _ _ => rfl) (by omega) h.m.L1 h.m.dev.dev.lines h.m.dev.dev.lt (by have := h.m.bg; omega) h.m.len h.m.mem hb ho (tamper_act b LineT))
    have HF := Lib.hid (fun (w1 : World) (hg : w.grownBy w1 (some b)) (h2 : MemB w1 b LineT (putW Wd.tam m l s.ws)) => h.close (s' := ⟨putW Wd.tam m l s.ws, s.off, s.k, s.al, s.u, s.pl⟩) (Below.refl _ _) (Turns.of_grown (S := fun j => j = g ∨ j = b ∨ av.ownBlock = some j) hg (fun j e => by injection e with e; exact .inr (.inl e.symm))) ⟨h.m.dev.memory h.m.bg hg, h2, by rw [putW_len]; exact h.m.len, h.m.bg, h.m.L1⟩ (.inl ⟨rfl, rfl⟩) h.one h.u2 (.inl rfl) (.returned (.bool true)))
    clear h hb ho hr hm e3
    go_enter Try.func35, Try.ntmps35
    go_wp2_with fail
    refine HH.out.mono ?_
    rintro e w1 ⟨rfl, rfl⟩
    go_wp2_with fail
    refine HP.out.mono ?_
    rintro e w1 ⟨rfl, h1, h2⟩
    have HG := Lib.hid (HF.out w1 h1 h2)
    clear h1 h2
    go_wp2
    go_ret
    exact HG.out
end
section
open Go.RowKit Go
set_option linter.unusedVariables false
set_option linter.unusedSimpArgs false
set_option maxRecDepth 100000
/-- what is read -/
def ldL (s : DSt) (L : Nat) (at_ n : Int) : List Nat := if refS8 L s.off at_ n = 0 then ((nowsL s.ws).drop at_.toNat).take n.toNat else []
/-- the call gives bytes of its own, and an error -/
def LdP (w : World) (l : List Nat) (z : Int) (e : Ending) (w' : World) : Prop := ∃ v, e = .returned (.tuple #[v, .int .i64 z]) ∧ Own w' w.heap.size v l ∧ Below w.heap.size w w'
/-- the row while it is filled -/
def rowK (T : List Nat) (n k : Nat) : List Value := bvals (T.take k) ++ List.replicate (n - k) (Value.int .u8 0)
theorem rowK_zero (T : List Nat) (n : Nat) : (rowK T n 0).toArray = zeros n := by
  unfold rowK zeros bvals
  simp
theorem rowK_full (T : List Nat) (n : Nat) (h : T.length = n) : rowK T n n = bvals T := by
  unfold rowK
  rw [List.take_of_length_le (by omega), Nat.sub_self]
  simp
theorem rowK_len (T : List Nat) (n k : Nat) (h : T.length = n) (hk : k ≤ n) : (rowK T n k).length = n := by
  unfold rowK
  rw [List.length_append, bvals_len, List.length_take, List.length_replicate]
  omega
theorem rowK_next (T : List Nat) (n k m : Nat) (h : T.length = n) (hk : k + m ≤ n) : splice (rowK T n k) k (bvals ((T.drop k).take m)) = rowK T n (k + m) := by
  have hl : (bvals ((T.drop k).take m)).length = m := by rw [bvals_len, List.length_take, List.length_drop]; omega
  have h1 : (bvals (T.take k)).length = k := by rw [bvals_len, List.length_take]; omega
  unfold splice
  rw [hl]
  unfold rowK
  have h2 : (bvals (T.take k)).drop (k + m) = [] := List.drop_of_length_le (by omega)
  rw [List.take_append_of_le_length (by omega), List.take_of_length_le (by omega), List.drop_append, h2, h1, List.nil_append, List.drop_replicate, ← List.append_assoc]
  congr 1
  · rw [List.take_add]
    unfold bvals
    rw [List.map_append]
  · congr 1
    omega
theorem nows_seg {ws : List Wd} (h : OkM ws) {i f m : Nat} {x : Wd} (hx : ws[i]? = some x) (hf : f + m ≤ 8) : ((nowsL ws).drop (8 * i + f)).take m = (x.now.drop f).take m := by
  refine List.ext_getElem? fun j => ?_
  by_cases hj : j < m
  · rw [List.getElem?_take_of_lt hj, List.getElem?_take_of_lt hj, List.getElem?_drop, List.getElem?_drop, show 8 * i + f + j = 8 * i + (f + j) by omega]
    have := flat8 Wd.now ws (fun y hy => (h y hy).n) i (f + j) (by omega)
    rw [hx] at this
    exact this
  · rw [List.getElem?_take_eq_none (by omega), List.getElem?_take_eq_none (by omega)]
/-- behind some rounds -/
def LdI (w : World) (T : List Nat) (at_ n : Nat) (iv : Value) (W : World) : Prop := ∃ k : Nat, iv = .int .i64 (k : Int) ∧ k ≤ n ∧ (k = 0 ∨ (at_ + k) % 8 = 0 ∨ k = n) ∧ Below w.heap.size w W ∧ W.heap[w.heap.size]? = some (.cells (rowK T n k).toArray 5 (0, 0))
theorem run_fromN (q n k d : Nat) (hd : n - k = d) (hk : k < n) (W : World) :
    (Instr.slice 28 (.slice (some ⟨q, 0, none⟩) n n) (some (.int .i64 (k : Int))) none none).run Try.prog W = .ok (.slice (some ⟨q, k, none⟩) d d) W := by
  have h := run_cut 28 5 Try.underlying28 (show (Try.prog.info? 5).map (·.size) = some 1 by kernel_rfl) (some ⟨q, 0, none⟩) n n k (by omega) W
  have e : cutA (some ⟨q, 0, none⟩) n k = some ⟨q, k, none⟩ := by
    unfold cutA
    rw [if_neg (by omega)]
    simp [Go.WideShapes.add_plain]
  rw [e, hd] at h
  exact h
set_option maxHeartbeats 2000000 in
theorem loadYes (g b L c at_ n : Nat) (off : Bool) (av pv : Value) (k9 : Nat) (al : List Value) (u : Int) (ws : List Wd) (w : World) (h : DevM w g b L c off av k9 al u pv ws) (hr : refS8 L off (at_ : Int) (n : Int) = 0) :
    Calls Try.prog 20 #[.pointer (some ⟨g, 0, none⟩), .int .i64 (at_ : Int), .int .i64 (n : Int)] w (LdP w (((nowsL ws).drop at_).take n) 0) := by
  have hrg : at_ + n ≤ 64 * L := by
    unfold refS8 at hr
    cases off
    · rw [if_neg (by decide)] at hr
      by_cases hb : hasB L (at_ : Int) (n : Int) = true
      · have := of_decide_eq_true hb; omega
      · rw [if_neg hb] at hr; cases hr
    · rw [if_pos rfl] at hr; cases hr
  have HRF : Hid (Calls Try.prog 51 #[.pointer (some ⟨g, 0, none⟩), .int .i64 (at_ : Int), .int .i64 (n : Int)] w fun e w' => e = .returned (.int .i64 0) ∧ w = w') := Lib.hid (by
    have := refuses_any g L c (some ⟨b, 0, none⟩) off av pv u (at_ : Int) (n : Int) w h.dev.dev h.L1
    rw [hr] at this
    exact this)
  have hL1 := h.L1
  have hmk : ∀ W : World, (Instr.makeSlice 28 (.int .i64 (n : Int)) (.int .i64 (n : Int))).run Try.prog W = .ok (.slice (some ⟨W.heap.size, 0, none⟩) n n) (W.alloc (.cells (zeros n) 5)) := fun W => make_bytes n (by omega) W
  have HWD : Hid (∀ j, j < 64 * L → ∀ W, Below w.heap.size w W → Calls Try.prog 52 #[.pointer (some ⟨g, 0, none⟩), .int .i64 (j : Int)] W fun e w' => e = .returned (.pointer (some ⟨b, 18 * (j / 8), none⟩)) ∧ w' = W) := Lib.hid (fun j hj W hW => by
    have := word_at g b L c j W ((hW.cell (p := ⟨g, 0, none⟩) h.dev.dev.lt).trans h.dev.dev.lines) hj h.L1
    rwa [show j / 64 * 144 + j % 64 / 8 * 18 = 18 * (j / 8) by omega] at this)
  have HM : Hid (∀ W, Below w.heap.size w W → MemB W b LineT ws) := Lib.hid (fun W hW => h.mem.same (hW.block b h.mem.lt))
  have HOK := Lib.hid (And.intro h.mem.1 h.len)
  have hbl := h.mem.lt
  obtain ⟨T, hT⟩ : ∃ T, T = ((nowsL ws).drop at_).take n := ⟨_, rfl⟩
  have hTl : T.length = n := by rw [hT, List.length_take, List.length_drop, nowsL_len h.mem.1, h.len]; omega
  rw [← hT]
  have HT := Lib.hid (And.intro hT hTl)
  have HBL := Lib.hid hbl
  have HRG := Lib.hid hrg
  have hn9 : n ≤ 65536 := by omega
  have ha9 : at_ ≤ 65536 := by omega
  clear h hr hT hTl hbl
  go_enter Try.func20, Try.ntmps20
  go_wp2_with fail
  refine HRF.out.mono ?_
  rintro e w0 ⟨rfl, rfl⟩
  have HR : Hid (LdI w T at_ n (.int .i64 0) (w.alloc (.cells (zeros n) 5))) := Lib.hid ⟨0, rfl, by omega, .inl rfl, (Below.refl _ _).alloc (Nat.le_refl _) _, by rw [rowK_zero]; exact heap_alloc_new _ _⟩
  clear HRF
  go_wp2_with fail
  go_loopw [10] (fun iv wr => LdI w T at_ n iv wr) (fun iv _ => (n - (intOf iv).toNat))
  case atStart => exact HR.out
  case round =>
    clear HR hmk
    obtain ⟨k, rfl, hk, hk8, hb, hq⟩ := hrel
    have HB := Lib.hid hb
    have HQ := Lib.hid hq
    have HK8 := Lib.hid hk8
    by_cases hlt : k < n
    · have hlti : (k : Int) < (n : Int) := by omega
      obtain ⟨a2, ha2⟩ : ∃ a2, a2 = at_ + k := ⟨_, rfl⟩
      obtain ⟨i, hi⟩ : ∃ i, i = a2 / 8 := ⟨_, rfl⟩
      obtain ⟨f, hf⟩ : ∃ f, f = a2 % 8 := ⟨_, rfl⟩
      obtain ⟨d, hd⟩ : ∃ d, n - k = d := ⟨_, rfl⟩
      obtain ⟨e8, he8⟩ : ∃ e8, 8 - f = e8 := ⟨_, rfl⟩
      obtain ⟨m, hm⟩ : ∃ m, m = min d e8 := ⟨_, rfl⟩
      obtain ⟨o, ho⟩ : ∃ o, o = 18 * i := ⟨_, rfl⟩
      obtain ⟨k2, hk2⟩ : ∃ k2, k2 = k + m := ⟨_, rfl⟩
      have hwa : IntKind.i64.wrap ((at_ : Int) + (k : Int)) = (a2 : Int) := by rw [show (at_ : Int) + (k : Int) = (a2 : Int) by omega]; exact IntWalk.i64_in _ ⟨by omega, by omega⟩
      have hwk : IntKind.i64.wrap ((k : Int) + (m : Int)) = (k2 : Int) := by rw [show (k : Int) + (m : Int) = (k2 : Int) by omega]; exact IntWalk.i64_in _ ⟨by omega, by omega⟩
      have hrm : (a2 : Int).tmod 8 = (f : Int) := by rw [Int.tmod_eq_emod_of_nonneg (by omega)]; omega
      have hwf : IntKind.i64.wrap (f : Int) = (f : Int) := IntWalk.i64_in _ ⟨by omega, by omega⟩
      have HWW : Hid (Calls Try.prog 52 #[.pointer (some ⟨g, 0, none⟩), .int .i64 (a2 : Int)] wr.drew fun e w' => e = .returned (.pointer (some ⟨b, o, none⟩)) ∧ w' = wr.drew) := Lib.hid (by rw [ho, hi]; exact HWD.out a2 (by have := HRG.out; omega) wr.drew hb.drew)
      have hcut : ∀ W : World, (Instr.sliceAt 72 (.pointer (some ⟨b, o + 8, none⟩)) (some (.int .i64 (f : Int))) none none).run Try.prog W = .ok (.slice (some ⟨b, o + 8 + f, none⟩) e8 e8) W := fun W => by rw [← he8]; exact cut8 b (o + 8) f (by omega) W
      have hs2 : ∀ W : World, (Instr.slice 28 (.slice (some ⟨w.heap.size, 0, none⟩) n n) (some (.int .i64 (k : Int))) none none).run Try.prog W = .ok (.slice (some ⟨w.heap.size, k, none⟩) d d) W := fun W => run_fromN w.heap.size n k d hd hlt W
      obtain ⟨x, hx⟩ : ∃ x, ws[i]? = some x := ⟨_, List.getElem?_eq_getElem (by have := HOK.out.2; have := HRG.out; omega)⟩
      obtain ⟨sg, hsg⟩ : ∃ sg, sg = (x.now.drop f).take m := ⟨_, rfl⟩
      have hxn := (HOK.out.1 x (List.mem_of_getElem? hx)).n
      have hsl : sg.length = m := by rw [hsg, List.length_take, List.length_drop, hxn]; omega
      have hTs : (T.drop k).take m = sg := by
        rw [hsg, HT.out.1, ← nows_seg HOK.out.1 hx (by omega), show 8 * i + f = at_ + k by omega, List.drop_take, List.take_take, List.drop_drop]
        congr 1
        omega
      have HSP : Hid (splice (rowK T n k) k (bvals sg) = rowK T n k2) := Lib.hid (by rw [← hTs, hk2]; exact rowK_next T n k m HT.out.2 (by omega))
      have HML : Hid ((bvals sg).length = m) := Lib.hid (by rw [bvals_len]; exact hsl)
      have HCL : Hid ((bvals sg).length = Nat.min e8 d) := Lib.hid (by rw [bvals_len, hsl, hm]; exact Nat.min_comm _ _)
      have HFT : Hid (k + (bvals sg).length ≤ (rowK T n k).length) := Lib.hid (by rw [bvals_len, hsl, rowK_len T n k HT.out.2 hk]; omega)
      have HSG : Hid (∀ j v, (bvals sg)[j]? = some v → wr.drew.cell? ((⟨b, o + 8 + f, none⟩ : Addr).add j) = some v) := Lib.hid (fun j v hj => by
        have hjm : j < m := by
          rcases Nat.lt_or_ge j m with h | h
          · exact h
          · rw [List.getElem?_eq_none (by rw [bvals_len, hsl]; exact h)] at hj; cases hj
        rw [Go.WideShapes.add_plain]
        have hc := (HM.out wr.drew hb.drew).now hx (f + j) (by omega)
        rw [show o + 8 + f + j = 18 * i + 8 + (f + j) by omega, hc, ← hj]
        unfold bvals
        rw [List.getElem?_map, hsg, List.getElem?_take_of_lt hjm, List.getElem?_drop, List.getElem?_eq_getElem (by omega)]
        simp [List.getD, List.getElem?_eq_getElem (show f + j < x.now.length by omega)])
      have HE : Hid (k2 ≤ n ∧ (k2 = 0 ∨ (at_ + k2) % 8 = 0 ∨ k2 = n) ∧ k < k2) := Lib.hid (by omega)
      have hqs := blk_lt hq
      clear hb hq hk8 ha2 hi hf hd he8 hm ho hk2 hsg hsl hTs hxn hx
      go_upto_region 7 with (fail)
      refine wp_region_F (S := (fun w' => Below w.heap.size w w')) [] (by kernel_rfl) (HB.out.drew) (fun hHeld => ?_)
      refine wpAnyF_take (i := 0) (oi := _) (v := ?_) rfl (by kernel_rfl) (by kernel_rfl) (by kernel_rfl) (by kernel_rfl) (fun _ _ _ h => h) (Or.inl ⟨by rfl, ?_⟩) (by assumption) ?_
      rotate_left 1
      · intro w hSw
        (try dsimp only at hSw)
        (first | (go_simp; done) | (go_simp; with_reducible rfl))
      (try simp only [Act.put, List.getElem_toArray, List.getElem_cons_succ, List.getElem_cons_zero, List.setIfInBounds_toArray, List.set_cons_zero, List.set_cons_succ])
      refine wpAnyF_take (i := 1) (oi := _) (v := ?_) rfl (by kernel_rfl) (by kernel_rfl) (by kernel_rfl) (by kernel_rfl) (fun _ _ _ h => h) (Or.inl ⟨by rfl, ?_⟩) (by assumption) ?_
      rotate_left 1
      · intro w hSw
        (try dsimp only at hSw)
        (first | (go_simp; done) | (go_simp; with_reducible rfl))
      (try simp only [Act.put, List.getElem_toArray, List.getElem_cons_succ, List.getElem_cons_zero, List.setIfInBounds_toArray, List.set_cons_zero, List.set_cons_succ])
      refine wpAnyF_take (i := 2) (oi := _) (v := ?_) rfl (by kernel_rfl) (by kernel_rfl) (by kernel_rfl) (by kernel_rfl) (fun _ _ _ h => h) (Or.inl ⟨by rfl, ?_⟩) (by assumption) ?_
      rotate_left 1
      · intro w hSw
        (try dsimp only at hSw)
        (first | (go_simp; done) | (go_simp; with_reducible rfl))
      (try simp only [Act.put, List.getElem_toArray, List.getElem_cons_succ, List.getElem_cons_zero, List.setIfInBounds_toArray, List.set_cons_zero, List.set_cons_succ])
      refine wpAnyF_take (i := 3) (oi := _) (v := ?_) rfl (by kernel_rfl) (by kernel_rfl) (by kernel_rfl) (by kernel_rfl) (fun _ _ _ h => h) (Or.inl ⟨by rfl, ?_⟩) (by assumption) ?_
      rotate_left 1
      · intro w hSw
        (try dsimp only at hSw)
        (first | (go_simp; done) | (go_simp; with_reducible rfl))
      (try simp only [Act.put, List.getElem_toArray, List.getElem_cons_succ, List.getElem_cons_zero, List.setIfInBounds_toArray, List.set_cons_zero, List.set_cons_succ])
      refine wpAnyF_take (i := 4) (oi := _) (v := ?_) rfl (by kernel_rfl) (by kernel_rfl) (by kernel_rfl) (by kernel_rfl) (fun _ _ _ h => h) (Or.inl ⟨by rfl, ?_⟩) (by assumption) ?_
      rotate_left 1
      · intro w hSw
        (try dsimp only at hSw)
        (first | (go_simp; done) | (go_simp; with_reducible rfl))
      (try simp only [Act.put, List.getElem_toArray, List.getElem_cons_succ, List.getElem_cons_zero, List.setIfInBounds_toArray, List.set_cons_zero, List.set_cons_succ])
      refine wpAnyF_take (i := 5) (oi := _) (v := ?_) rfl (by kernel_rfl) (by kernel_rfl) (by kernel_rfl) (by kernel_rfl) (fun _ _ _ h => h) (Or.inl ⟨by rfl, ?_⟩) (by assumption) ?_
      rotate_left 1
      · intro w hSw
        (try dsimp only at hSw)
        (first | (go_simp; done) | (go_simp; with_reducible rfl))
      (try simp only [Act.put, List.getElem_toArray, List.getElem_cons_succ, List.getElem_cons_zero, List.setIfInBounds_toArray, List.set_cons_zero, List.set_cons_succ])
      refine wpAnyF_take (i := 6) (oi := _) (v := ?_) rfl (by kernel_rfl) (by kernel_rfl) (by kernel_rfl) (by kernel_rfl) (fun _ _ _ h => h) (Or.inl ⟨by rfl, ?_⟩) (by assumption) ?_
      rotate_left 1
      · intro w hSw
        (try dsimp only at hSw)
        (first | (go_simp; done) | (go_simp; with_reducible rfl))
      (try simp only [Act.put, List.getElem_toArray, List.getElem_cons_succ, List.getElem_cons_zero, List.setIfInBounds_toArray, List.set_cons_zero, List.set_cons_succ])
      refine wpAnyF_take (i := 7) (oi := _) (v := ?_) rfl (by kernel_rfl) (by kernel_rfl) (by kernel_rfl) (by kernel_rfl) (fun _ _ _ h => h) (Or.inl ⟨by rfl, ?_⟩) (by assumption) ?_
      rotate_left 1
      · intro w hSw
        (try dsimp only at hSw)
        (first | (go_simp; done) | (go_simp; with_reducible rfl))
      (try simp only [Act.put, List.getElem_toArray, List.getElem_cons_succ, List.getElem_cons_zero, List.setIfInBounds_toArray, List.set_cons_zero, List.set_cons_succ])
      refine wpAnyF_take (i := 11) (oi := _) (v := ?_) rfl (by kernel_rfl) (by kernel_rfl) (by kernel_rfl) (by kernel_rfl) (fun _ _ _ h => h) (Or.inl ⟨by rfl, ?_⟩) (by assumption) ?_
      rotate_left 1
      · intro w hSw
        (try dsimp only at hSw)
        (first | (go_simp; done) | (go_simp; with_reducible rfl))
      (try simp only [Act.put, List.getElem_toArray, List.getElem_cons_succ, List.getElem_cons_zero, List.setIfInBounds_toArray, List.set_cons_zero, List.set_cons_succ])
      refine wpAnyF_take (i := 12) (oi := _) (v := ?_) rfl (by kernel_rfl) (by kernel_rfl) (by kernel_rfl) (by kernel_rfl) (fun _ _ _ h => h) (Or.inl ⟨by rfl, ?_⟩) (by assumption) ?_
      rotate_left 1
      · intro w hSw
        (try dsimp only at hSw)
        (first | (go_simp; done) | (go_simp; with_reducible rfl))
      (try simp only [Act.put, List.getElem_toArray, List.getElem_cons_succ, List.getElem_cons_zero, List.setIfInBounds_toArray, List.set_cons_zero, List.set_cons_succ])
      refine wpAnyF_take (i := 13) (oi := _) (v := ?_) rfl (by kernel_rfl) (by kernel_rfl) (by kernel_rfl) (by kernel_rfl) (fun _ _ _ h => h) (Or.inl ⟨by rfl, ?_⟩) (by assumption) ?_
      rotate_left 1
      · intro w hSw
        (try dsimp only at hSw)
        (first | (go_simp; done) | (go_simp; with_reducible rfl))
      (try simp only [Act.put, List.getElem_toArray, List.getElem_cons_succ, List.getElem_cons_zero, List.setIfInBounds_toArray, List.set_cons_zero, List.set_cons_succ])
      refine wpAnyF_take (i := 14) (oi := _) (v := ?_) rfl (by kernel_rfl) (by kernel_rfl) (by kernel_rfl) (by kernel_rfl) (fun _ _ _ h => h) (Or.inl ⟨by rfl, ?_⟩) (by assumption) ?_
      rotate_left 1
      · intro w hSw
        (try dsimp only at hSw)
        (first | (go_simp; done) | (go_simp; with_reducible rfl))
      (try simp only [Act.put, List.getElem_toArray, List.getElem_cons_succ, List.getElem_cons_zero, List.setIfInBounds_toArray, List.set_cons_zero, List.set_cons_succ])
      refine wpAnyF_ready (rs := [8]) (by kernel_rfl) (by simp) ?_
      refine AllReadyF.cons (o := _) rfl (fun K hK => ?_) AllReadyF.nil
      go_simp
      refine HWW.out.mono ?_
      rintro e w2 ⟨rfl, rfl⟩
      refine hK.out _ _ (HB.out.drew) (fun hHeld8 => ?_)
      clear hK K
      (try simp only [Act.put, List.getElem_toArray, List.getElem_cons_succ, List.getElem_cons_zero, List.setIfInBounds_toArray, List.set_cons_zero, List.set_cons_succ])
      refine wpAnyF_take (i := 9) (oi := _) (v := ?_) rfl (by kernel_rfl) (by kernel_rfl) (by kernel_rfl) (by kernel_rfl) (fun _ _ _ h => h) (Or.inl ⟨by rfl, ?_⟩) (by assumption) ?_
      rotate_left 1
      · intro w hSw
        (try dsimp only at hSw)
        (first | (go_simp; done) | (go_simp; with_reducible rfl))
      (try simp only [Act.put, List.getElem_toArray, List.getElem_cons_succ, List.getElem_cons_zero, List.setIfInBounds_toArray, List.set_cons_zero, List.set_cons_succ])
      refine wpAnyF_take (i := 10) (oi := _) (v := ?_) rfl (by kernel_rfl) (by kernel_rfl) (by kernel_rfl) (by kernel_rfl) (fun _ _ _ h => h) (Or.inl ⟨by rfl, ?_⟩) (by assumption) ?_
      rotate_left 1
      · intro w hSw
        (try dsimp only at hSw)
        (first | (go_simp; done) | (go_simp; with_reducible rfl))
      (try simp only [Act.put, List.getElem_toArray, List.getElem_cons_succ, List.getElem_cons_zero, List.setIfInBounds_toArray, List.set_cons_zero, List.set_cons_succ])
      refine wpAnyF_take (i := 15) (oi := _) (v := ?_) rfl (by kernel_rfl) (by kernel_rfl) (by kernel_rfl) (by kernel_rfl) (fun _ _ _ h => h) (Or.inl ⟨by rfl, ?_⟩) (by assumption) ?_
      rotate_left 1
      · intro w hSw
        (try dsimp only at hSw)
        (first | (go_simp; done) | (go_simp; with_reducible rfl))
      (try simp only [Act.put, List.getElem_toArray, List.getElem_cons_succ, List.getElem_cons_zero, List.setIfInBounds_toArray, List.set_cons_zero, List.set_cons_succ])
      refine wpAnyF_ready (rs := [16]) (by kernel_rfl) (by simp) ?_
      refine AllReadyF.cons (o := _) rfl (fun K hK => ?_) AllReadyF.nil
      refine step_copy_splice rfl (.tmp 26) (.tmp 38) 28 28 rfl 5 Try.underlying28 (by kernel_rfl) (some ⟨w.heap.size, k, none⟩) (some ⟨b, o + 8 + f, none⟩) d d e8 e8 rfl rfl w.heap.size k (rowK T n k) 5 HQ.out (bvals sg) HCL.out (fun h0 => ⟨rfl, _, rfl, HSG.out⟩) HFT.out (bvals_one _) w.heap.size w (Below.drew HB.out) (Nat.le_refl _) ?_
      intro w3 hq3 hb3
      rw [HSP.out] at hq3
      have HQ3 := Lib.hid hq3.out
      have HB3 := Lib.hid hb3
      clear hq3 hb3
      rw [show goInt (bvals sg).length = Value.int .i64 (m : Int) from by rw [HML.out]; rfl]
      refine hK.out _ _ (HB3.out) (fun hHeld16 => ?_)
      clear hK K
      (try simp only [Act.put, List.getElem_toArray, List.getElem_cons_succ, List.getElem_cons_zero, List.setIfInBounds_toArray, List.set_cons_zero, List.set_cons_succ])
      refine wpAnyF_take (i := 17) (oi := _) (v := ?_) rfl (by kernel_rfl) (by kernel_rfl) (by kernel_rfl) (by kernel_rfl) (fun _ _ _ h => h) (Or.inl ⟨by rfl, ?_⟩) (by assumption) ?_
      rotate_left 1
      · intro w hSw
        (try dsimp only at hSw)
        (first | (go_simp; done) | (go_simp; with_reducible rfl))
      (try simp only [Act.put, List.getElem_toArray, List.getElem_cons_succ, List.getElem_cons_zero, List.setIfInBounds_toArray, List.set_cons_zero, List.set_cons_succ])
      refine wpAnyF_take (i := 18) (oi := _) (v := ?_) rfl (by kernel_rfl) (by kernel_rfl) (by kernel_rfl) (by kernel_rfl) (fun _ _ _ h => h) (Or.inl ⟨by rfl, ?_⟩) (by assumption) ?_
      rotate_left 1
      · intro w hSw
        (try dsimp only at hSw)
        (first | (go_simp; done) | (go_simp; with_reducible rfl))
      (try simp only [Act.put, List.getElem_toArray, List.getElem_cons_succ, List.getElem_cons_zero, List.setIfInBounds_toArray, List.set_cons_zero, List.set_cons_succ])
      refine wpAnyF_done (by kernel_rfl) ?_ _
      have HG : Hid (LdI w T at_ n (.int .i64 (k2 : Int)) w3) := Lib.hid ⟨k2, rfl, HE.out.1, HE.out.2.1, HB3.out, HQ3.out⟩
      go_roundw
      case rel => exact ⟨_, _, _, _, _, _, _, _, _, _, _, _, _, _, _, _, _, _, _, _, _, _, HG.out, rfl⟩
      case measure => have := HE.out.2.2; simp [intOf]; omega
    · have hlti : ¬ (k : Int) < (n : Int) := by omega
      obtain rfl : k = n := by omega
      have HF : Hid (LdP w T 0 (.returned (.tuple #[.slice (some ⟨w.heap.size, 0, none⟩) k k, .int .i64 0])) wr) := Lib.hid ⟨_, rfl, by rw [rowK_full T k HT.out.2] at hq; exact Own.blk (cur := (bvals T).toArray) (Nat.le_refl _) hq HT.out.2 (Nat.le_refl _) (by unfold maxLen; omega) (by simp [bvals_len, HT.out.2]) (by rw [List.take_of_length_le (by simp [bvals_len, HT.out.2])]), hb⟩
      clear hb hq hk8
      go_wp2
      exact bodyPost_ret (v := .tuple #[.slice (some ⟨w.heap.size, 0, none⟩) k k, .int .i64 0]) (by simp [results, Try.results20, go_sem]) rfl HF.out
theorem load_no (g b L c : Nat) (at_ n : Int) (off : Bool) (av pv : Value) (k9 : Nat) (al : List Value) (u : Int) (ws : List Wd) (w : World) (h : DevM w g b L c off av k9 al u pv ws) (hr : refS8 L off at_ n ≠ 0) :
    Calls Try.prog 20 #[.pointer (some ⟨g, 0, none⟩), .int .i64 at_, .int .i64 n] w (LdP w [] (refS8 L off at_ n)) := by
  have HRF := Lib.hid (refuses_any g L c (some ⟨b, 0, none⟩) off av pv u at_ n w h.dev.dev h.L1)
  generalize refS8 L off at_ n = q at *
  have hq : ((q : Int) != 0) = true := by rw [bne_iff_ne]; exact hr
  clear h hr
  go_enter Try.func20, Try.ntmps20
  go_wp2_with fail
  refine HRF.out.mono ?_
  rintro e w0 ⟨rfl, rfl⟩
  go_wp2
  exact bodyPost_ret (v := .tuple #[.slice none 0 0, .int .i64 q]) (by simp [results, Try.results20, go_sem]) rfl ⟨_, rfl, Own.nil _ _, Below.refl _ _⟩
theorem load_P (g b L c : Nat) (at_ n : Int) (av pv : Value) (s : DSt) (w : World) (h : PD w g b L c av pv s) :
    Calls Try.prog 20 #[.pointer (some ⟨g, 0, none⟩), .int .i64 at_, .int .i64 n] w (LdP w (ldL s L at_ n) (refS8 L s.off at_ n)) := by
  unfold ldL
  by_cases hr : refS8 L s.off at_ n = 0
  · rw [if_pos hr, hr]
    have hb : hasB L at_ n = true := by
      unfold refS8 at hr
      cases hb : hasB L at_ n
      · rw [hb] at hr
        cases ho : s.off <;> rw [ho] at hr <;> simp at hr
      · rfl
    have h1 := (hasB_nat hb).1
    have h2 := (hasB_nat hb).2.1
    obtain ⟨a, ha⟩ : ∃ a, a = at_.toNat := ⟨_, rfl⟩
    obtain ⟨m, hm⟩ : ∃ m, m = n.toNat := ⟨_, rfl⟩
    rw [← ha] at h1 ⊢
    rw [← hm] at h2 ⊢
    subst h1 h2
    exact loadYes g b L c a m s.off av pv s.k s.al _ s.ws w h.m hr
  · rw [if_neg hr]
    exact load_no g b L c at_ n s.off av pv s.k s.al _ s.ws w h.m hr
end
end Go.Proofs.Ythigknolpdohoaa
