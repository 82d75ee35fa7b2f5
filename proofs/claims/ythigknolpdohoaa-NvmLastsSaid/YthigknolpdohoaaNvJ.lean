/-
  A device's image.
-/
import Derived.Test.YthigknolpdohoaaNvO
import Derived.Test.YthigknolpdohoaaOwn
import Derived.Test.YthigknolpdohoaaCut
import Derived.Test.YthigknolpdohoaaHeldF
import Derived.Deep.AppendLies
import Derived.Great.Ranges
import Derived.Deep.RegionHeld3
import Derived.Deep.Cut
namespace Go.Proofs.Ythigknolpdohoaa
open Go.RowKit Go
set_option linter.unusedVariables false
set_option linter.unusedSimpArgs false
set_option maxRecDepth 100000
theorem step_appsG {K0 : Act → World → Prop} {o : Oper} {a : Act} {Q : Exit → Act → World → Prop} (W : World) (s x : Operand)
    (ho : o.op = .call { callee := .builtin .append, args := #[s, x], argTypes := #[28, 28] })
    (B : Nat) (v : Value) (l : List Nat) (hs : a.eval s = v) (hown : Own W B v l)
    (B' : Nat) (A : Option Addr) (m c : Nat) (l' : List Nat) (hx : a.eval x = .slice A m c) (hr : BS W B' A m c l') (hA : A = none → c = 0) (hn : l.length + m < 1000000000) (hB : B ≤ W.heap.size)
    (h : ∀ v' w', Own w' B v' (l ++ l') → Below B W w' → W.grownBy w' v.ownBlock → K0 (a.put o.dst v') w') : Oper.wp Try.prog o a W K0 Q := by
  obtain ⟨i0, hi, hz0, hz1, hz2⟩ := info_parts info_u8
  have hm := hr.len
  rcases A with _ | ad
  · have h0 := hA rfl
    have h1 := hr.cap
    have hm0 : m = 0 := by omega
    subst hm0 h0
    obtain rfl := List.length_eq_zero_iff.mp hm
    have hrun := run_append_owned_none (P := Try.prog) (w := W) B 28 o.type 5 i0 1 Try.underlying28 hi v l.length (bvals l) hown
    unfold Oper.wp
    simp [execOp, ho, resolve, invoke, builtin, hs, hx, hrun, Result.andThen]
    exact h v W (by rw [List.append_nil]; exact hown) (Below.refl _ _) (World.grownBy.refl W _)
  · refine wp_append_own _ s x 28 ho B 5 i0 (.int .u8 0) 1 1 Try.underlying28 hi hz0 hz1 hz2 rfl (by decide) v l.length (bvals l) hs hown ad m c
      (bvals l') hx (by rw [bvals_len, hm, Nat.mul_one]) ?_ (bvals_one l') (by unfold maxLen; omega) (by omega) hB ?_
    · intro j u hj
      have hjl : j < l'.length := by
        rcases Nat.lt_or_ge j l'.length with h | h
        · exact h
        · rw [List.getElem?_eq_none (by rw [bvals_len]; exact h)] at hj; cases hj
      obtain ⟨b, o, e, _, hc⟩ := hr.at_ (by omega)
      obtain rfl : ad = ⟨b, o, none⟩ := Option.some.inj e
      have h2 := hc j (by omega)
      rw [Go.WideShapes.add_plain, h2, ← hj]
      simp [bvals, List.getElem?_eq_getElem hjl, List.getD]
    · intro v' w1 hown' hg _
      refine h v' w1 ?_ ((Below.refl B W).grown hg hB (fun k hk => (World.ownsRow.lt hown k hk).1)) hg
      have e : bvals (l ++ l') = bvals l ++ bvals l' := by simp [bvals]
      unfold Own
      rw [e, List.length_append, hm]
      exact hown'

theorem own_rowsJ {w : World} {B s n : Nat} {v : Value} {e : TypeId} {vs : List Value} (h : w.ownsRow B e s v n vs) : ∀ g, v.ownBlock = some g → ∃ cs, w.heap[g]? = some (.cells cs e (0, 0)) := by
  intro g hg
  obtain ⟨_, k⟩ := h
  rcases k with ⟨rfl, _⟩ | ⟨g2, cap, cur, rfl, _, hh, _⟩
  · cases hg
  · have e2 : g2 = g := Option.some.inj (show (some g2 : Option Nat) = some g from hg)
    subst e2
    exact ⟨cur, hh⟩
theorem own_form {w : World} {B : Nat} {v : Value} {l : List Nat} (h : Own w B v l) : ∃ A c, v = .slice A l.length c := by
  obtain ⟨_, k⟩ := h
  rcases k with ⟨rfl, h0⟩ | ⟨g, cap, cur, rfl, _⟩
  · exact ⟨none, 0, by rw [h0]⟩
  · exact ⟨_, _, rfl⟩
/-- block qq holds the slice v, a row of the call's own that reads as l -/
def ImO (W : World) (B qq : Nat) (l : List Nat) : Prop := ∃ v, W.heap[qq]? = some (.cells #[v] 28 (0, 0)) ∧ Own W B v l
theorem arr8 (b o : Nat) (w : World) : (Instr.sliceAt 72 (.pointer (some ⟨b, o, none⟩)) none none none).run Try.prog w = .ok (.slice (some ⟨b, o, none⟩) 8 8) w :=
  run_whole_arr _ 5 8 Try.underlying72 (by kernel_rfl) b o w
set_option maxHeartbeats 2000000 in
theorem image1_any (b o B qq : Nat) (l x : List Nat) (W : World) (hi : ImO W B qq l) (hx : BS W B (some ⟨b, o, none⟩) 8 8 x) (hB : B ≤ W.heap.size) (hqq : B ≤ qq) (hl : l.length < 100000) :
    Calls Try.prog 50 #[.pointer (some ⟨b, o, none⟩), .pointer (some ⟨qq, 0, none⟩)] W fun e w' => e = .returned (.tuple #[]) ∧ ImO w' B qq (l ++ x) ∧ Below B W w' := by
  obtain ⟨v, hq, ho⟩ := hi
  have c0 : W.cell? ⟨qq, 0, none⟩ = some v := blk_cell hq 0
  have f0 : W.frozen? ⟨qq, 0, none⟩ = false := blk_free hq 0
  have HQ := Lib.hid hq
  have HO := Lib.hid ho
  have HX := Lib.hid hx
  have HL := Lib.hid (show l.length + 8 < 1000000000 by omega)
  have h8 := arr8 b o
  have HTY : Hid (∀ (U : World) (u : Value) (m : List Nat), U.heap[qq]? = some (.cells #[v] 28 (0, 0)) → Own U B u m → ∀ g, u.ownBlock = some g → g ≠ qq) := Lib.hid (fun U u m h1 h2 g hg e => by
    obtain ⟨cs, h3⟩ := own_rowsJ h2 g hg
    rw [e, h1] at h3
    have h4 := Option.some.inj h3
    injection h4 with _ h5 _
    exact absurd h5 (by decide))
  have hltq : qq < W.heap.size := blk_lt hq
  clear hq ho hx
  go_enter Try.func50, Try.ntmps50
  go_upto_region 0 with (fail)
  refine wp_region_F (S := (fun w' => w'.cell? ⟨qq, 0, none⟩ = some v)) [6] (by kernel_rfl) (c0) (fun hHeld => ?_)
  refine wpAnyF_take (i := 0) (oi := _) (v := ?_) rfl (by kernel_rfl) (by kernel_rfl) (by kernel_rfl) (by kernel_rfl) (fun _ _ _ h => h) (Or.inl ⟨by rfl, ?_⟩) (by assumption) ?_
  rotate_left 1
  · intro w hSw
    (try dsimp only at hSw)
    (first | (go_simp; done) | (go_simp; with_reducible rfl))
  (try simp only [Act.put, List.getElem_toArray, List.getElem_cons_succ, List.getElem_cons_zero, List.setIfInBounds_toArray, List.set_cons_zero, List.set_cons_succ])
  refine wpAnyF_take (i := 1) (oi := _) (v := ?_) rfl (by kernel_rfl) (by kernel_rfl) (by kernel_rfl) (by kernel_rfl) (fun _ _ _ h => h) (Or.inl ⟨by rfl, ?_⟩) (by assumption) ?_
  rotate_left 1
  · intro w hSw
    (try dsimp only at hSw)
    (first | (go_simp; done) | (go_simp; with_reducible rfl))
  (try simp only [Act.put, List.getElem_toArray, List.getElem_cons_succ, List.getElem_cons_zero, List.setIfInBounds_toArray, List.set_cons_zero, List.set_cons_succ])
  refine wpAnyF_take (i := 2) (oi := _) (v := ?_) rfl (by kernel_rfl) (by kernel_rfl) (by kernel_rfl) (by kernel_rfl) (fun _ _ _ h => h) (Or.inl ⟨by rfl, ?_⟩) (by assumption) ?_
  rotate_left 1
  · intro w hSw
    (try dsimp only at hSw)
    (first | (go_simp; done) | (go_simp; with_reducible rfl))
  (try simp only [Act.put, List.getElem_toArray, List.getElem_cons_succ, List.getElem_cons_zero, List.setIfInBounds_toArray, List.set_cons_zero, List.set_cons_succ])
  refine wpAnyF_take (i := 3) (oi := _) (v := ?_) rfl (by kernel_rfl) (by kernel_rfl) (by kernel_rfl) (by kernel_rfl) (fun _ _ _ h => h) (Or.inl ⟨by rfl, ?_⟩) (by assumption) ?_
  rotate_left 1
  · intro w hSw
    (try dsimp only at hSw)
    (first | (go_simp; done) | (go_simp; with_reducible rfl))
  (try simp only [Act.put, List.getElem_toArray, List.getElem_cons_succ, List.getElem_cons_zero, List.setIfInBounds_toArray, List.set_cons_zero, List.set_cons_succ])
  refine wpAnyF_take (i := 4) (oi := _) (v := ?_) rfl (by kernel_rfl) (by kernel_rfl) (by kernel_rfl) (by kernel_rfl) (fun _ _ _ h => h) (Or.inl ⟨by rfl, ?_⟩) (by assumption) ?_
  rotate_left 1
  · intro w hSw
    (try dsimp only at hSw)
    (first | (go_simp; done) | (go_simp; with_reducible rfl))
  (try simp only [Act.put, List.getElem_toArray, List.getElem_cons_succ, List.getElem_cons_zero, List.setIfInBounds_toArray, List.set_cons_zero, List.set_cons_succ])
  refine wpAnyF_ready (rs := [5]) (by kernel_rfl) (by simp) ?_
  refine AllReadyF.cons (o := _) rfl (fun K hK => ?_) AllReadyF.nil
  rw [if_pos (by kernel_rfl)]
  refine step_appsG _ (.tmp 3) (.tmp 7) rfl B v l rfl (show Own W.drew B v l from HO.out) B (some ⟨b, o, none⟩) 8 8 x rfl HX.out.dr (fun e => by cases e) HL.out hB ?_
  intro v5 w5 ho5 hb5 hg5
  have HQ5 : Hid (w5.heap[qq]? = some (.cells #[v] 28 (0, 0))) := Lib.hid ((hg5.block qq hltq (fun e => HTY.out W v l HQ.out HO.out qq e.symm rfl)).trans HQ.out)
  have HO5 := Lib.hid ho5
  have HB5 : Hid (Below B W w5) := Lib.hid ((Below.refl B W).drew.trans hb5)
  obtain ⟨A5, n5c, hf5⟩ := own_form ho5
  obtain ⟨m5, hm5⟩ : ∃ m5, (l ++ x).length = m5 := ⟨_, rfl⟩
  rw [hm5] at hf5
  subst hf5
  have c5 : w5.cell? ⟨qq, 0, none⟩ = some v := blk_cell HQ5.out 0
  have f5 : w5.frozen? ⟨qq, 0, none⟩ = false := blk_free HQ5.out 0
  clear ho5 hb5 hg5 hm5
  refine hK.out _ _ (c5) (fun hHeld5 => ?_)
  clear hK K
  (try simp only [Act.put, List.getElem_toArray, List.getElem_cons_succ, List.getElem_cons_zero, List.setIfInBounds_toArray, List.set_cons_zero, List.set_cons_succ])
  have HF : Hid (ImO (w5.setCell ⟨qq, 0, none⟩ (.slice A5 m5 n5c)) B qq (l ++ x) ∧ Below B W (w5.setCell ⟨qq, 0, none⟩ (.slice A5 m5 n5c))) := Lib.hid ⟨⟨_, by have h := blk_set HQ5.out 0 (.slice A5 m5 n5c); simpa using h, HO5.out.keep (fun g hg => Below.heap_setCell _ ⟨qq, 0, none⟩ _ g (HTY.out w5 (.slice A5 m5 n5c) (l ++ x) HQ5.out HO5.out g hg))⟩, HB5.out.setCell (p := ⟨qq, 0, none⟩) hqq _⟩
  refine wpAnyF_ready (rs := [6]) (by kernel_rfl) (by simp) ?_
  refine AllReadyF.last (o := _) rfl (by rfl) (fun K hK => ?_) AllReadyF.nil
  go_simp
  refine hK.out _ _ ?_
  clear hK K
  (try simp only [Act.put, List.getElem_toArray, List.getElem_cons_succ, List.getElem_cons_zero, List.setIfInBounds_toArray, List.set_cons_zero, List.set_cons_succ])
  refine wpAnyF_done (by kernel_rfl) ?_ _
  go_wp2
  go_end0
  exact ⟨rfl, HF.out⟩
def lastsL (ws : List Wd) : List Nat := ws.flatMap Wd.lasts
theorem lastsL_take {ws : List Wd} {m : Nat} {x : Wd} (h : ws[m]? = some x) : lastsL (ws.take (m + 1)) = lastsL (ws.take m) ++ x.lasts := by
  unfold lastsL
  have hm : m < ws.length := (List.getElem?_eq_some_iff.mp h).1
  rw [List.take_succ_eq_append_getElem hm, List.flatMap_append]
  rw [List.getElem?_eq_getElem hm] at h
  rw [Option.some.inj h]
  simp
theorem lastsL_len : ∀ {ws : List Wd}, OkM ws → (lastsL ws).length = 8 * ws.length
  | [], _ => rfl
  | x :: r, h => by
    have h1 := lastsL_len (ws := r) (fun y hy => h y (List.mem_cons_of_mem _ hy))
    have h2 := (h x (List.mem_cons_self ..)).l
    have e : lastsL (x :: r) = x.lasts ++ lastsL r := by simp [lastsL]
    rw [e, List.length_append, h1, h2, List.length_cons]
    omega
def ImI (V : World) (B qq : Nat) (ws : List Wd) (m : Nat) (W : World) : Prop := Below B V W ∧ ImO W B qq (lastsL (ws.take m))
theorem word_bs {W : World} {b : Nat} {ws : List Wd} (h : MemB W b LineT ws) {m : Nat} {x : Wd} (hx : ws[m]? = some x) {B : Nat} (hB : b < B) : BS W B (some ⟨b, 18 * m, none⟩) 8 8 x.lasts := by
  have hok := h.1 x (wd_mem hx)
  refine ⟨hok.l, Nat.le_refl _, by omega, fun i => ?_, fun _ => ⟨b, 18 * m, rfl, hB, fun i hi => h.last hx i hi⟩⟩
  by_cases hi : i < x.lasts.length
  · rw [List.getD_eq_getElem?_getD, List.getElem?_eq_getElem hi]; exact hok.lb _ (List.getElem_mem hi)
  · rw [List.getD_eq_getElem?_getD, List.getElem?_eq_none (by omega)]; simp
/-- the call gives all bytes as they last -/
def ImTo (w : World) (ws : List Wd) (e : Ending) (w' : World) : Prop := ∃ v, e = .returned v ∧ Own w' w.heap.size v (lastsL ws) ∧ Below w.heap.size w w'
set_option maxHeartbeats 2000000 in
theorem image_M (g b L c k : Nat) (off : Bool) (av pv : Value) (al : List Value) (u : Int) (ws : List Wd) (w : World) (h : DevM w g b L c off av k al u pv ws) (hL0 : 0 < L) :
    Calls Try.prog 19 #[.pointer (some ⟨g, 0, none⟩)] w (ImTo w ws) := by
  obtain ⟨V, hV⟩ : ∃ V, V = (w.alloc (.cells (zeros (64 * L)) 5)).alloc (.cells #[.slice (some ⟨w.heap.size, 0, none⟩) 0 (64 * L)] 28) := ⟨_, rfl⟩
  have hb2 : Below w.heap.size w V := by rw [hV]; exact ((Below.refl _ _).alloc (Nat.le_refl _) _).alloc (by simp) _
  have hd := h.next hb2
  have hsz : V.heap.size = w.heap.size + 1 + 1 := by rw [hV]; simp
  have hbl := h.mem.lt
  have hgl := h.dev.dev.lt
  have hlen := h.len
  have hL1 := h.L1
  have hI0 : ImI V w.heap.size (w.heap.size + 1) ws 0 V := by
    refine ⟨Below.refl _ _, .slice (some ⟨w.heap.size, 0, none⟩) 0 (64 * L), ?_, ?_⟩
    · have := heap_alloc_new (w.alloc (.cells (zeros (64 * L)) 5)) (.cells #[.slice (some ⟨w.heap.size, 0, none⟩) 0 (64 * L)] 28)
      rw [show (w.alloc (.cells (zeros (64 * L)) 5)).heap.size = w.heap.size + 1 by simp, ← hV] at this
      exact this
    · refine Own.blk (cur := zeros (64 * L)) (Nat.le_refl _) ?_ rfl (by omega) (by unfold maxLen; omega) (Array.size_replicate ..) rfl
      rw [hV]; exact blk_alloc (heap_alloc_new w _) _
  have hT : TurnsW 50 [.pointer (some ⟨w.heap.size + 1, 0, none⟩)] b 0 (L - 1) (ImI V w.heap.size (w.heap.size + 1) ws) := by
    intro la i W h1 h2 h3 hi
    obtain ⟨ht, hc⟩ := hi
    obtain ⟨x, hx⟩ : ∃ x, ws[8 * la + i]? = some x := ⟨_, List.getElem?_eq_getElem (by omega)⟩
    have hm : MemB W b LineT ws := hd.mem.same (ht.block b (by omega))
    have hl := lastsL_take hx
    have hll : (lastsL (ws.take (8 * la + i))).length < 100000 := by
      rw [lastsL_len (h.mem.1.take _), List.length_take]; omega
    have hw := word_bs hm hx (B := w.heap.size) (by omega)
    rw [show 18 * (8 * la + i) = la * 144 + i * 18 by omega] at hw
    refine (image1_any b (la * 144 + i * 18) w.heap.size (w.heap.size + 1) _ x.lasts W hc hw (Nat.le_trans (by omega) ht.size) (by omega) hll).mono ?_
    rintro e w1 ⟨rfl, ho, hb⟩
    exact ⟨rfl, ht.trans hb, by rw [hl]; exact ho⟩
  have HAL := Lib.hid (all8_any g b L c 50 [.pointer (some ⟨w.heap.size + 1, 0, none⟩)] (ImI V w.heap.size (w.heap.size + 1) ws) V off av pv u (fun _ _ => rfl) hd.dev.dev hL0 h.L1
    (fun m W hi => (World.cell?_of_block (hi.1.block g (by omega))).trans hd.dev.dev.lines) hT hI0)
  have HLN := Lib.hid (len8_any g L c (some ⟨b, 0, none⟩) off av pv u w h.dev.dev h.L1)
  have hmk : ∀ W : World, (Instr.makeSlice 28 (.int .i64 0) (.int .i64 (64 * (L : Int)))).run Try.prog W = .ok (.slice (some ⟨W.heap.size, 0, none⟩) 0 (64 * L)) (W.alloc (.cells (zeros (64 * L)) 5)) := fun W => by
    have h := make_cap 0 (64 * L) (by omega) (by omega) W
    rw [show (((64 * L : Nat)) : Int) = 64 * (L : Int) by omega] at h
    exact h
  have HB2 := Lib.hid hb2
  have HV := Lib.hid hV
  have HTK : Hid (lastsL (ws.take (8 * L)) = lastsL ws) := Lib.hid (by rw [List.take_of_length_le (by omega)])
  have HFIN : Hid (∀ W, Below w.heap.size w V → ImI V w.heap.size (w.heap.size + 1) ws (8 * L) W → ∃ v, W.heap[w.heap.size + 1]? = some (.cells #[v] 28 (0, 0)) ∧ ImTo w ws (.returned v) W) := Lib.hid (fun W hb hi => by
    obtain ⟨h1, v, h2, h3⟩ := hi
    rw [HTK.out] at h3
    exact ⟨v, h2, v, rfl, h3, hb.trans h1⟩)
  clear h hb2 hd hV hsz hbl hgl hlen hI0 hT hL1
  go_enter Try.func19, Try.ntmps19
  go_wp2_with fail
  refine HLN.out.mono ?_
  rintro e w0 ⟨rfl, rfl⟩
  go_upto_region 2 with (fail)
  clear hmk
  rw [← HV.out]
  go_wp2_with fail
  refine HAL.out.mono ?_
  rintro e w1 ⟨rfl, hi⟩
  obtain ⟨v, hv, ht⟩ := HFIN.out w1 HB2.out hi
  have hq : w1.cell? ⟨w.heap.size + 1, 0, none⟩ = some v := blk_cell hv 0
  have HT := Lib.hid ht
  clear hi hv ht
  go_wp2
  go_ret
  exact HT.out
end Go.Proofs.Ythigknolpdohoaa
