/-
  meet of package book.
-/
import Derived.Test.YtoclelpmampikaaGreatBkD
namespace Go.Proofs.YtoclelpmampikaaGreat
open Go.RowKit Go
set_option linter.unusedVariables false
set_option linter.unusedSimpArgs false
def MeetTo (w : World) (b g : Nat) (S : Nat → Prop) (T sh : List (List Nat)) (t : List Nat) (e : Ending) (w' : World) : Prop :=
  e = .returned (.tuple #[]) ∧ Turns S w w' ∧ IsBook w' b g (fun k => S k ∨ (w.heap.size ≤ k ∧ k < w'.heap.size)) (bkT T t) (bkS T sh t)
theorem Turns.dr {S : Nat → Prop} {w W : World} (h : Turns S w W) : Turns S w W.drew := ⟨h.os, h.tape, h.output, h.size, h.block⟩
theorem TR.val {w : World} {S : Nat → Prop} {L : List (List Nat)} {v : Value} (h : TR w S v L) : ∃ A c, v = .slice A L.length c ∧ (0 < L.length → ∃ gg, A = some ⟨gg, 0, none⟩ ∧ gg < w.heap.size ∧ L.length ≤ c ∧ ∃ x, w.cell? ⟨gg, 0, none⟩ = some x ∧ TI w S (L.getD 0 []) x) := by
  by_cases h0 : L.length = 0
  · obtain rfl := List.length_eq_zero_iff.mp h0
    obtain ⟨A, c, rfl⟩ := h.empty
    exact ⟨A, c, rfl, fun q => by simp at q⟩
  · obtain ⟨gg, cap, e, hc, hg, hat⟩ := h.at_ (by omega)
    exact ⟨_, cap, e, fun _ => ⟨gg, rfl, hg, hc, hat 0 (by omega)⟩⟩
theorem meet_there {w W : World} {b g : Nat} {S : Nat → Prop} {T sh : List (List Nat)} {t : List Nat} (h : IsBook w b g S T sh) (hb : Below w.heap.size w W) (ht : t ∈ T) : MeetTo w b g S T sh t (.returned (.tuple #[])) W := by
  refine ⟨rfl, Turns.of_below hb, ?_⟩
  unfold bkT bkS
  rw [if_pos ht, if_pos ht]
  exact h.after hb
theorem meet_full {w W : World} {b g bm : Nat} {S S5 : Nat → Prop} {T sh sh5 : List (List Nat)} {t : List Nat} {f : List Nat → Value} {vs : Value} (h : BkSt W b g S5 T sh5 bm f vs) (hb : Turns S w W) (hn : w.heap.size ≤ W.heap.size) (hS : ∀ k, S k → S5 k) (hS2 : ∀ k, S5 k → S k ∨ w.heap.size ≤ k) (ht : ¬ t ∈ T) (hT : ¬ T.length < 16384) (hs : bkS T sh t = sh5) (hsz : ∀ k, S k → k < w.heap.size) :
    MeetTo w b g S T sh t (.returned (.tuple #[])) W := by
  refine ⟨rfl, hb, ?_⟩
  rw [hs]
  unfold bkT
  rw [if_neg ht, if_neg hT]
  exact ⟨bm, f, vs, h.more (fun k hk => (hS2 k hk).imp id fun q => ⟨q, h.sub k hk⟩) fun k hk => hk.elim (fun q => Nat.lt_of_lt_of_le (hsz k q) hn) fun q => q.2⟩
theorem meet_put {w W W' : World} {b g bm : Nat} {S S5 : Nat → Prop} {T sh sh5 : List (List Nat)} {t : List Nat} {f : List Nat → Value} {vs : Value} (hz : ∀ k, S5 k → k < W.heap.size) (h : BkSt W' b g (fun k => S5 k ∨ (W.heap.size ≤ k ∧ k < W'.heap.size)) (T ++ [t]) sh5 bm f vs) (h5 : Turns S5 W W') (hb : Turns S w W) (hn : w.heap.size ≤ W.heap.size) (hS : ∀ k, S k → S5 k) (hS2 : ∀ k, S5 k → S k ∨ w.heap.size ≤ k) (ht : ¬ t ∈ T) (hT : T.length < 16384) (hs : bkS T sh t = sh5) (hsz : ∀ k, S k → k < w.heap.size) :
    MeetTo w b g S T sh t (.returned (.tuple #[])) W' := by
  have hzz := h5.size
  refine ⟨rfl, hb.trans h5 fun j hj hj2 => (hS2 j hj2).elim id fun q => absurd q (by omega), ?_⟩
  rw [hs]
  unfold bkT
  rw [if_neg ht, if_pos hT]
  exact ⟨bm, f, vs, h.more (fun k hk => by
    rcases hk with hk | hk
    · exact (hS2 k hk).imp id fun q => ⟨q, by have := hz k hk; omega⟩
    · exact .inr ⟨by omega, hk.2⟩) fun k hk => hk.elim (fun q => by have := hsz k q; omega) fun q => q.2⟩
set_option maxRecDepth 100000 in
set_option maxHeartbeats 4000000 in
theorem meet_any (b g : Nat) (S : Nat → Prop) (T sh : List (List Nat)) (t : List Nat) (V : Value) (u : World) (h : IsBook u b g S T sh) (ht : TI u S t V) (htl : t.length ≤ 1000000) :
    Calls Tryz.prog 62 #[.pointer (some ⟨b, 0, none⟩), dV (Sha.sum t), V] u (MeetTo u b g S T sh t) := by
  have hB0 := h
  obtain ⟨bm, f, vs, h⟩ := h
  obtain ⟨A, c, rfl, hV⟩ := ht.bs
  have hs := bk_dig t
  obtain ⟨dl, hdl⟩ : ∃ dl : List Value, dl = (rowV (bF (Sha.sum t)) 32).toList := ⟨_, rfl⟩
  have hdV : dV (Sha.sum t) = .agg dl.toArray := by rw [hdl]; simp [dV]
  have hdn : dl.length = 32 := by rw [hdl]; simp [rowV_size]
  obtain ⟨Af, cf, hfv, hf0⟩ := (h.rows _ hs).val
  obtain ⟨Av, cv, hvs, hv0⟩ := h.shown.val
  have hk6 : (atD T (Sha.sum t)).length ≤ 16384 := Nat.le_trans (atD_len _ _) h.len
  have hTl := h.len
  obtain ⟨W1, hW1⟩ : ∃ W1, W1 = (u.alloc (.cells dl.toArray 34)).alloc (.cells #[.slice A t.length c] 89) := ⟨_, rfl⟩
  have hb1 : Below u.heap.size u W1 := by rw [hW1]; exact ((Below.refl _ _).alloc (Nat.le_refl _) _).alloc (by simp) _
  have hz1 : W1.heap.size = u.heap.size + 2 := by rw [hW1]; simp
  have hd1 : W1.heap[u.heap.size]? = some (.cells dl.toArray 34 (0, 0)) := by rw [hW1]; exact blk_alloc (heap_alloc_new u _) _
  have hx1 : W1.heap[u.heap.size + 1]? = some (.cells #[.slice A t.length c] 89 (0, 0)) := by
    have h9 := heap_alloc_new (u.alloc (.cells dl.toArray 34)) (.cells #[.slice A t.length c] 89)
    rw [show (u.alloc (.cells dl.toArray 34)).heap.size = u.heap.size + 1 by simp, ← hW1] at h9
    exact h9
  have hsub : ∀ k, S k → k < u.heap.size := fun k hk => h.sub k hk
  have h1 : BkSt W1 b g S T sh bm f vs := h.keep (fun j hj => hb1.block j (h.sub j hj)) (fun _ hj => hj) (fun k hk => by have := hsub k hk; omega)
  have ht1 : TI W1 S t (.slice A t.length c) := ht.keep (fun j hj _ => hb1.block j hj) (fun _ hj => hj)
  have HI : Hid ((Tryz.prog.info? 34).map (·.size) = some dl.length) := Lib.hid (by rw [hdn]; kernel_rfl)
  have HLK : Hid ((Instr.lookup 74 (.map (some bm)) (.agg dl.toArray) false).run Tryz.prog W1.drew = .ok (.slice Af (atD T (Sha.sum t)).length cf) W1.drew) := Lib.hid (by rw [← hdV, ← hfv]; exact h1.dr.map.look hs)
  obtain ⟨q0, q1, q2, q3, qf⟩ := h1.cells
  have HRG : Hid (W1.drew.rangeAt u.heap.size 0 dl) := Lib.hid (by
    refine fun j v hv => ?_
    rw [Nat.zero_add]
    have h9 : W1.drew.cell? ⟨u.heap.size, j, none⟩ = _ := blk_cell (w := W1.drew) hd1 j
    rw [h9]; simpa using hv)
  have HTX : Hid (W1.cell? ⟨u.heap.size + 1, 0, none⟩ = some (.slice A t.length c)) := Lib.hid (blk_cell hx1 0)
  have HCT : Hid (Calls Tryz.prog 77 #[.slice Af (atD T (Sha.sum t)).length cf, .func (Fn.func 78) #[] #[.pointer (some ⟨u.heap.size + 1, 0, none⟩)]] W1.drew fun e w' => e = .returned (.bool (decide (t ∈ atD T (Sha.sum t)))) ∧ W1.drew = w') := Lib.hid (by
    have h9 := bk_contains (f (Sha.sum t)) S (atD T (Sha.sum t)) (u.heap.size + 1) A t.length c W1.drew.heap.size t W1.drew (h1.dr.rows _ hs) (by omega) (by obtain ⟨A9, c9, e9, z9⟩ := (ht1.keep (w' := W1.drew) (S' := S) (fun _ _ _ => rfl) (fun _ hj => hj)).bs; injection e9 with e1 _ e3; subst e1; subst e3; exact z9) HTX.out
    rw [hfv] at h9; exact h9)
  have HTHERE : Hid (t ∈ T → ∀ W, Below u.heap.size u W → MeetTo u b g S T sh t (.returned (.tuple #[])) W) := Lib.hid fun hin W hW => meet_there hB0 hW hin
  have HB1 := Lib.hid hb1
  have HDN : Hid (t ∈ T → decide (t ∈ atD T (Sha.sum t)) = true) := Lib.hid fun q => decide_eq_true (mem_atD.mpr q)
  have HDM : Hid (¬ t ∈ T → decide (t ∈ atD T (Sha.sum t)) = false) := Lib.hid fun q => decide_eq_false (fun z => q (mem_atD.mp z))
  have HS0 : Hid (¬ t ∈ T → ((atD T (Sha.sum t)).length = 0 ∨ sh.length ≠ 0) → bkS T sh t = sh) := Lib.hid (by
    intro q z
    unfold bkS
    rw [if_neg q, if_neg]
    rintro ⟨z1, z2⟩
    rcases z with z | z
    · exact z1 (List.length_eq_zero_iff.mp z)
    · exact z (by rw [z2]; rfl))
  have HS1 : Hid (¬ t ∈ T → ((atD T (Sha.sum t)).length ≠ 0 ∧ sh.length = 0) → bkS T sh t = [(atD T (Sha.sum t)).getD 0 [], t]) := Lib.hid (by
    intro q z
    unfold bkS
    rw [if_neg q, if_pos]
    exact ⟨fun e => z.1 (by rw [e]; rfl), List.length_eq_zero_iff.mp z.2⟩)
  have hshn : sh.length = 0 → Av = none := fun z => by
    have z2 := h.shown0 (List.length_eq_zero_iff.mp z)
    rw [hvs] at z2
    unfold nilS at z2
    injection z2
  have hshs : sh.length ≠ 0 → ∃ av, Av = some av := fun z => by
    obtain ⟨gg, e, _⟩ := hv0 (by omega)
    exact ⟨_, e⟩
  have HF0 : Hid (0 < (atD T (Sha.sum t)).length → ∃ gg, Af = some ⟨gg, 0, none⟩ ∧ gg < u.heap.size ∧ (atD T (Sha.sum t)).length ≤ cf ∧ ∃ x, u.cell? ⟨gg, 0, none⟩ = some x ∧ TI u S ((atD T (Sha.sum t)).getD 0 []) x) := Lib.hid hf0
  have hTA : ∀ (W : World) (S5 : Nat → Prop) (sh5 : List (List Nat)) (vs5 : Value) (ty : TypeId), BkSt W b g S5 T sh5 bm f vs5 → TI W S5 t (.slice A t.length c) → T.length < 16384 →
    ∃ v' w1 w2, (Builtin.append_ #[75, 75] ty #[.slice Af (atD T (Sha.sum t)).length cf, .slice (some ⟨W.heap.size, 0, none⟩) 1 1]).run Tryz.prog (W.alloc (.cells #[.slice A t.length c] 89)) = .ok v' w1 ∧
      (Instr.mapUpdate 74 (.map (some bm)) (.agg dl.toArray) v').run Tryz.prog w1 = .ok () w2 ∧
      (∀ k, k < W.heap.size → ¬ S5 k → w1.heap[k]? = W.heap[k]? ∧ w2.heap[k]? = W.heap[k]?) ∧ w1.heap[b]? = W.heap[b]? ∧ w2.heap[b]? = W.heap[b]? ∧
      Turns S5 W (w2.setCell ⟨b, 2, none⟩ (.int .i64 ((T.length + 1 : Nat) : Int))) ∧
      ∃ f5, BkSt (w2.setCell ⟨b, 2, none⟩ (.int .i64 ((T.length + 1 : Nat) : Int))) b g (fun k => S5 k ∨ (W.heap.size ≤ k ∧ k < (w2.setCell ⟨b, 2, none⟩ (.int .i64 ((T.length + 1 : Nat) : Int))).heap.size)) (T ++ [t]) sh5 bm f5 vs5 := fun W S5 sh5 vs5 ty z1 z2 z3 => by
    obtain ⟨v', w1, w2, y1, y2, y3, y4, y5, y6, y7⟩ := z1.tail z2 z3 ty
    rw [hfv] at y1
    rw [hdV] at y2
    exact ⟨v', w1, w2, y1, y2, y3, y4, y5, y6, _, y7⟩
  have HTA := Lib.hid hTA
  have H1 := Lib.hid h1
  have HT1 := Lib.hid ht1
  have HW1 := Lib.hid hW1
  have HSB := Lib.hid hsub
  have HX1 := Lib.hid hx1
  have HD1 := Lib.hid hd1
  have hbn : b < u.heap.size := hsub b h.sb
  have HQE := Lib.hid bk_eql_row
  have hTin : (T.length : Int) ≤ 16384 := by omega
  have HH0 : Hid (BkSt u b g S T sh bm f vs) := Lib.hid h
  have HT0 : Hid (TI u S t (.slice A t.length c)) := Lib.hid ht
  rw [hdV]
  clear hB0 h ht hV hs hdl hdV hfv hf0 hv0 hW1 hb1 hd1 hx1 h1 ht1 hTA hsub
  obtain ⟨k, hk⟩ : ∃ k, k = (atD T (Sha.sum t)).length := ⟨_, rfl⟩
  obtain ⟨m, hm⟩ : ∃ m, m = t.length := ⟨_, rfl⟩
  obtain ⟨q, hq⟩ : ∃ q, q = T.length := ⟨_, rfl⟩
  obtain ⟨s, hs⟩ : ∃ s, s = sh.length := ⟨_, rfl⟩
  rw [← hk] at HLK HCT HS0 HS1 HF0 HTA hk6
  rw [← hm] at HTX HX1 HT1 HTA HT0 htl HW1 ⊢
  rw [← hq] at q2 hTin hTl HTA
  rw [← hs] at HS0 HS1 hshn hshs hvs
  have HQ := Lib.hid hq
  have HK := Lib.hid hk
  clear hk hm hq hs
  subst hvs
  have hTX := HTX.out
  go_enter Tryz.func62, Tryz.ntmps62
  go_wp2_with fail
  rw [← HW1.out]
  refine wp_region_F (S := (fun w' => w'.cell? ⟨b, 1, none⟩ = some (.map (some bm)) ∧ w'.rangeAt u.heap.size 0 dl ∧ (Instr.lookup 74 (.map (some bm)) (.agg dl.toArray) false).run Tryz.prog w' = .ok (.slice Af k cf) w')) [] (by kernel_rfl) (⟨q1, HRG.out, HLK.out⟩) (fun hHeld => ?_)
  refine wpAnyF_take (i := 0) (oi := _) (v := ?_) rfl (by kernel_rfl) (by kernel_rfl) (by kernel_rfl) (by kernel_rfl) (fun _ _ _ h => h) (Or.inl ⟨by rfl, ?_⟩) (by assumption) ?_
  rotate_left 1
  · intro w hSw
    (try dsimp only at hSw)
    (first | (go_simp; done) | (go_simp; with_reducible rfl))
  (try simp only [Act.put, List.getElem_toArray, List.getElem_cons_succ, List.getElem_cons_zero, List.setIfInBounds_toArray, List.set_cons_zero, List.set_cons_succ])
  refine wpAnyF_take (i := 1) (oi := _) (v := ?_) rfl (by kernel_rfl) (by kernel_rfl) (by kernel_rfl) (by kernel_rfl) (fun _ _ _ h => h) (Or.inl ⟨by rfl, ?_⟩) (by assumption) ?_
  rotate_left 1
  · intro w hSw
    (try dsimp only at hSw)
    (first | (go_simp; done) | (go_simp; with_reducible rfl))
  (try simp only [Act.put, List.getElem_toArray, List.getElem_cons_succ, List.getElem_cons_zero, List.setIfInBounds_toArray, List.set_cons_zero, List.set_cons_succ])
  refine wpAnyF_take (i := 2) (oi := _) (v := ?_) rfl (by kernel_rfl) (by kernel_rfl) (by kernel_rfl) (by kernel_rfl) (fun _ _ _ h => h) (Or.inl ⟨by rfl, ?_⟩) (by assumption) ?_
  rotate_left 1
  · intro w hSw
    (try dsimp only at hSw)
    (first | (go_simp; done) | (go_simp; with_reducible rfl))
  (try simp only [Act.put, List.getElem_toArray, List.getElem_cons_succ, List.getElem_cons_zero, List.setIfInBounds_toArray, List.set_cons_zero, List.set_cons_succ])
  refine wpAnyF_take (i := 3) (oi := _) (v := ?_) rfl (by kernel_rfl) (by kernel_rfl) (by kernel_rfl) (by kernel_rfl) (fun _ _ _ h => h) (Or.inl ⟨by rfl, ?_⟩) (by assumption) ?_
  rotate_left 1
  · intro w hSw
    (try dsimp only at hSw)
    (first | (go_simp; done) | (go_simp; with_reducible rfl))
  (try simp only [Act.put, List.getElem_toArray, List.getElem_cons_succ, List.getElem_cons_zero, List.setIfInBounds_toArray, List.set_cons_zero, List.set_cons_succ])
  refine wpAnyF_take (i := 4) (oi := _) (v := (.agg dl.toArray)) rfl (by kernel_rfl) (by kernel_rfl) (by kernel_rfl) (by kernel_rfl) (fun _ _ _ h => h) (Or.inl ⟨by rfl, ?_⟩) (by assumption) ?_
  · intro w hSw
    (try dsimp only at hSw)
    exact exec_row 34 (.tmp 4) (by rfl) _ 0 (by rfl) dl _ hSw.2.1 Tryz.underlying34 (by rfl) HI.out
  (try simp only [Act.put, List.getElem_toArray, List.getElem_cons_succ, List.getElem_cons_zero, List.setIfInBounds_toArray, List.set_cons_zero, List.set_cons_succ])
  refine wpAnyF_take (i := 5) (oi := _) (v := (.slice Af k cf)) rfl (by kernel_rfl) (by kernel_rfl) (by kernel_rfl) (by kernel_rfl) (fun _ _ _ h => h) (Or.inl ⟨by rfl, ?_⟩) (by assumption) ?_
  · intro w hSw
    (try dsimp only at hSw)
    exact exec_look 74 (.tmp 10) (.tmp 11) (by rfl) _ _ _ (by rfl) (by rfl) hSw.2.2
  (try simp only [Act.put, List.getElem_toArray, List.getElem_cons_succ, List.getElem_cons_zero, List.setIfInBounds_toArray, List.set_cons_zero, List.set_cons_succ])
  refine wpAnyF_take (i := 6) (oi := _) (v := ?_) rfl (by kernel_rfl) (by kernel_rfl) (by kernel_rfl) (by kernel_rfl) (fun _ _ _ h => h) (Or.inl ⟨by rfl, ?_⟩) (by assumption) ?_
  rotate_left 1
  · intro w hSw
    (try dsimp only at hSw)
    (first | (go_simp; done) | (go_simp; with_reducible rfl))
  (try simp only [Act.put, List.getElem_toArray, List.getElem_cons_succ, List.getElem_cons_zero, List.setIfInBounds_toArray, List.set_cons_zero, List.set_cons_succ])
  refine wpAnyF_done (by kernel_rfl) ?_ _
  obtain ⟨W2, hW2⟩ : ∃ W2, W2 = W1.drew := ⟨_, rfl⟩
  rw [← hW2]
  rw [← hW2] at HCT
  have p1 : W2.cell? ⟨b, 1, none⟩ = some (.map (some bm)) := by rw [hW2]; exact q1
  have p2 : W2.cell? ⟨b, 2, none⟩ = some (.int .i64 (q : Int)) := by rw [hW2]; exact q2
  have p3 : W2.cell? ⟨b, 3, none⟩ = some (.slice Av s cv) := by rw [hW2]; exact q3
  have pf : ∀ i, W2.frozen? ⟨b, i, none⟩ = false := by rw [hW2]; exact qf
  have pX : W2.cell? ⟨u.heap.size + 1, 0, none⟩ = some (.slice A m c) := by rw [hW2]; exact HTX.out
  have H2 : Hid (BkSt W2 b g S T sh bm f (.slice Av s cv)) := Lib.hid (by rw [hW2]; exact H1.out.dr)
  have HT2 : Hid (TI W2 S t (.slice A m c)) := Lib.hid (by rw [hW2]; exact HT1.out.keep (w' := W1.drew) (S' := S) (fun _ _ _ => rfl) (fun _ hj => hj))
  have HZ2 : Hid (W2.heap.size = u.heap.size + 2) := Lib.hid (by rw [hW2]; exact hz1)
  have HB2 : Hid (Below u.heap.size u W2) := Lib.hid (by rw [hW2]; exact HB1.out.drew)
  have HX2 : Hid (W2.heap[u.heap.size + 1]? = some (.cells #[.slice A m c] 89 (0, 0))) := Lib.hid (by rw [hW2]; exact HX1.out)
  have HD2 : Hid (W2.heap[u.heap.size]? = some (.cells dl.toArray 34 (0, 0))) := Lib.hid (by rw [hW2]; exact HD1.out)
  clear hHeld hW2 q0 q1 q2 q3 qf hTX HLK HRG HTX H1 HT1 hz1 HB1 HX1 HD1
  go_wp2_with fail
  refine HCT.out.mono ?_
  rintro e w2 ⟨rfl, rfl⟩
  have hQE := HQE.out
  by_cases hin : t ∈ T
  · rw [HDN.out hin]
    have HF := Lib.hid (HTHERE.out hin W2 HB2.out)
    clear hin
    go_wp2
    refine bodyPost_ret (results_none rfl _ _ _) rfl ?_
    exact HF.out
  · rw [HDM.out hin]
    have HIN := Lib.hid hin
    clear hin HDN HDM HTHERE
    by_cases hk0 : k = 0
    · subst hk0
      have HC : Hid (0 = 0 ∨ s ≠ 0) := Lib.hid (.inl rfl)
      have hl0 : u.heap.size < W2.heap.size := by have := HZ2.out; omega
      have hl1 : u.heap.size + 1 < W2.heap.size := by have := HZ2.out; omega
      have hn0 : ¬ S u.heap.size := fun z => by have := HSB.out _ z; omega
      have hn1 : ¬ S (u.heap.size + 1) := fun z => by have := HSB.out _ z; omega
      by_cases hT : q < 16384
      · have hTi : (q : Int) < 16384 := by omega
        have hKS : ∀ w' : World, w'.heap[b]? = W2.heap[b]? → w'.heap[u.heap.size]? = W2.heap[u.heap.size]? → w'.heap[u.heap.size + 1]? = W2.heap[u.heap.size + 1]? → (w'.cell? ⟨b, 1, none⟩ = some (.map (some bm)) ∧ w'.cell? ⟨u.heap.size + 1, 0, none⟩ = some (.slice A m c) ∧ w'.rangeAt u.heap.size 0 dl) := fun w' a1 a2 a3 => by
          refine ⟨(World.cell?_of_block (a := ⟨b, 1, none⟩) a1).trans p1, blk_cell (a3.trans HX2.out) 0, fun j v hv => ?_⟩
          rw [Nat.zero_add]
          have h9 : w'.cell? ⟨u.heap.size, j, none⟩ = _ := blk_cell (a2.trans HD2.out) j
          rw [h9]; simpa using hv
        have KS := Lib.hid hKS
        obtain ⟨v', w1, w2, y1, y2, y3, y4, y5, y6, f5, y7⟩ := HTA.out W2.drew (S) sh (.slice Av s cv) 75 (H2.out).dr (HT2.out) hT
        have hlb : b < W2.heap.size := (H2.out).sub b (H2.out).sb
        have HS8 : Hid (w1.cell? ⟨b, 1, none⟩ = some (.map (some bm)) ∧ w1.cell? ⟨u.heap.size + 1, 0, none⟩ = some (.slice A m c) ∧ w1.rangeAt u.heap.size 0 dl) := Lib.hid (KS.out w1 y4 ((y3 u.heap.size hl0 hn0).1) ((y3 (u.heap.size + 1) hl1 hn1).1))
        have HS9 : Hid (w2.cell? ⟨b, 1, none⟩ = some (.map (some bm)) ∧ w2.cell? ⟨u.heap.size + 1, 0, none⟩ = some (.slice A m c) ∧ w2.rangeAt u.heap.size 0 dl) := Lib.hid (KS.out w2 y5 ((y3 u.heap.size hl0 hn0).2) ((y3 (u.heap.size + 1) hl1 hn1).2))
        have d2 : w2.cell? ⟨b, 2, none⟩ = some (.int .i64 (q : Int)) := (World.cell?_of_block (a := ⟨b, 2, none⟩) y5).trans p2
        have df : w2.frozen? ⟨b, 2, none⟩ = false := (World.frozen?_of_block (a := ⟨b, 2, none⟩) y5).trans (pf 2)
        have HS7 : Hid (((W2.alloc (.cells #[.slice A m c] 89)).drew).cell? ⟨b, 1, none⟩ = some (.map (some bm)) ∧ ((W2.alloc (.cells #[.slice A m c] 89)).drew).cell? ⟨u.heap.size + 1, 0, none⟩ = some (.slice A m c) ∧ ((W2.alloc (.cells #[.slice A m c] 89)).drew).rangeAt u.heap.size 0 dl) := Lib.hid (KS.out _ (Below.heap_alloc W2 _ b hlb) (Below.heap_alloc W2 _ _ hl0) (Below.heap_alloc W2 _ _ hl1))
        have HF : Hid (MeetTo u b g S T sh t (.returned (.tuple #[])) (w2.setCell ⟨b, 2, none⟩ (.int .i64 ((q : Int) + 1)))) := Lib.hid (by
          have e1 : ((q + 1 : Nat) : Int) = (q : Int) + 1 := by omega
          rw [e1] at y6 y7
          exact meet_put (W := W2.drew) (S5 := S) (fun z hz => (H2.out).sub z hz) y7 y6 (Turns.dr (Turns.of_below HB2.out)) (HB2.out.size) (fun z hz => hz) (fun z hz => .inl hz) HIN.out (by rw [← HQ.out]; exact hT) (HS0.out HIN.out (HC.out)) (fun z hz => HSB.out z hz))
        have Y1 : Hid ((Builtin.append_ #[75, 75] 75 #[.slice Af 0 cf, .slice (some ⟨W2.heap.size, 0, none⟩) 1 1]).run Tryz.prog ((W2.alloc (.cells #[.slice A m c] 89)).drew) = .ok v' w1) := Lib.hid y1
        have Y2 := Lib.hid y2
        clear y1 y2 y3 y4 y5 y6 y7 hT hlb hKS HTA
        go_wp2_with fail
        refine wp_region_F (S := (fun w' => w'.cell? ⟨b, 1, none⟩ = some (.map (some bm)) ∧ w'.cell? ⟨u.heap.size + 1, 0, none⟩ = some (.slice A m c) ∧ w'.rangeAt u.heap.size 0 dl)) [] (by kernel_rfl) (KS.out _ rfl rfl rfl) (fun hHeld => ?_)
        refine wpAnyF_take (i := 0) (oi := _) (v := ?_) rfl (by kernel_rfl) (by kernel_rfl) (by kernel_rfl) (by kernel_rfl) (fun _ _ _ h => h) (Or.inl ⟨by rfl, ?_⟩) (by assumption) ?_
        rotate_left 1
        · intro w hSw
          (try dsimp only at hSw)
          (first | (go_simp; done) | (go_simp; with_reducible rfl))
        (try simp only [Act.put, List.getElem_toArray, List.getElem_cons_succ, List.getElem_cons_zero, List.setIfInBounds_toArray, List.set_cons_zero, List.set_cons_succ])
        refine wpAnyF_take (i := 1) (oi := _) (v := ?_) rfl (by kernel_rfl) (by kernel_rfl) (by kernel_rfl) (by kernel_rfl) (fun _ _ _ h => h) (Or.inl ⟨by rfl, ?_⟩) (by assumption) ?_
        rotate_left 1
        · intro w hSw
          (try dsimp only at hSw)
          (first | (go_simp; done) | (go_simp; with_reducible rfl))
        (try simp only [Act.put, List.getElem_toArray, List.getElem_cons_succ, List.getElem_cons_zero, List.setIfInBounds_toArray, List.set_cons_zero, List.set_cons_succ])
        refine wpAnyF_take (i := 2) (oi := _) (v := ?_) rfl (by kernel_rfl) (by kernel_rfl) (by kernel_rfl) (by kernel_rfl) (fun _ _ _ h => h) (Or.inl ⟨by rfl, ?_⟩) (by assumption) ?_
        rotate_left 1
        · intro w hSw
          (try dsimp only at hSw)
          (first | (go_simp; done) | (go_simp; with_reducible rfl))
        (try simp only [Act.put, List.getElem_toArray, List.getElem_cons_succ, List.getElem_cons_zero, List.setIfInBounds_toArray, List.set_cons_zero, List.set_cons_succ])
        refine wpAnyF_take (i := 3) (oi := _) (v := ?_) rfl (by kernel_rfl) (by kernel_rfl) (by kernel_rfl) (by kernel_rfl) (fun _ _ _ h => h) (Or.inl ⟨by rfl, ?_⟩) (by assumption) ?_
        rotate_left 1
        · intro w hSw
          (try dsimp only at hSw)
          (first | (go_simp; done) | (go_simp; with_reducible rfl))
        (try simp only [Act.put, List.getElem_toArray, List.getElem_cons_succ, List.getElem_cons_zero, List.setIfInBounds_toArray, List.set_cons_zero, List.set_cons_succ])
        refine wpAnyF_take (i := 4) (oi := _) (v := (.agg dl.toArray)) rfl (by kernel_rfl) (by kernel_rfl) (by kernel_rfl) (by kernel_rfl) (fun _ _ _ h => h) (Or.inl ⟨by rfl, ?_⟩) (by assumption) ?_
        · intro w hSw
          (try dsimp only at hSw)
          exact exec_row 34 (.tmp 4) (by rfl) _ 0 (by rfl) dl _ hSw.2.2 Tryz.underlying34 (by rfl) HI.out
        (try simp only [Act.put, List.getElem_toArray, List.getElem_cons_succ, List.getElem_cons_zero, List.setIfInBounds_toArray, List.set_cons_zero, List.set_cons_succ])
        refine wpAnyF_take (i := 5) (oi := _) (v := ?_) rfl (by kernel_rfl) (by kernel_rfl) (by kernel_rfl) (by kernel_rfl) (fun _ _ _ h => h) (Or.inl ⟨by rfl, ?_⟩) (by assumption) ?_
        rotate_left 1
        · intro w hSw
          (try dsimp only at hSw)
          (first | (go_simp; done) | (go_simp; with_reducible rfl))
        (try simp only [Act.put, List.getElem_toArray, List.getElem_cons_succ, List.getElem_cons_zero, List.setIfInBounds_toArray, List.set_cons_zero, List.set_cons_succ])
        refine wpAnyF_take (i := 6) (oi := _) (v := ?_) rfl (by kernel_rfl) (by kernel_rfl) (by kernel_rfl) (by kernel_rfl) (fun _ _ _ h => h) (Or.inl ⟨by rfl, ?_⟩) (by assumption) ?_
        rotate_left 1
        · intro w hSw
          (try dsimp only at hSw)
          (first | (go_simp; done) | (go_simp; with_reducible rfl))
        (try simp only [Act.put, List.getElem_toArray, List.getElem_cons_succ, List.getElem_cons_zero, List.setIfInBounds_toArray, List.set_cons_zero, List.set_cons_succ])
        refine wpAnyF_ready (rs := [7]) (by kernel_rfl) (by simp) ?_
        refine AllReadyF.cons (o := _) rfl (fun K hK => ?_) AllReadyF.nil
        go_simp
        refine hK.out _ _ (HS7.out) (fun hHeld7 => ?_)
        clear hK K
        (try simp only [Act.put, List.getElem_toArray, List.getElem_cons_succ, List.getElem_cons_zero, List.setIfInBounds_toArray, List.set_cons_zero, List.set_cons_succ])
        refine wpAnyF_ready (rs := [8]) (by kernel_rfl) (by simp) ?_
        refine AllReadyF.cons (o := _) rfl (fun K hK => ?_) AllReadyF.nil
        rw [if_pos (by kernel_rfl)]
        refine step_apd _ 75 75 (.tmp 44) (.tmp 46) rfl (by rfl) (.slice Af 0 cf) (.slice (some ⟨W2.heap.size, 0, none⟩) 1 1) v' w1 (by rfl) (by rfl) Y1.out ?_
        refine hK.out _ _ (HS8.out) (fun hHeld8 => ?_)
        clear hK K
        (try simp only [Act.put, List.getElem_toArray, List.getElem_cons_succ, List.getElem_cons_zero, List.setIfInBounds_toArray, List.set_cons_zero, List.set_cons_succ])
        refine wpAnyF_ready (rs := [9]) (by kernel_rfl) (by simp) ?_
        refine AllReadyF.cons (o := _) rfl (fun K hK => ?_) AllReadyF.nil
        rw [if_pos (by kernel_rfl)]
        refine step_put _ 74 (.tmp 42) (.tmp 43) (.tmp 47) rfl _ _ _ w2 rfl rfl rfl Y2.out ?_
        refine hK.out _ _ (HS9.out) (fun hHeld9 => ?_)
        clear hK K
        (try simp only [Act.put, List.getElem_toArray, List.getElem_cons_succ, List.getElem_cons_zero, List.setIfInBounds_toArray, List.set_cons_zero, List.set_cons_succ])
        refine wpAnyF_done (by kernel_rfl) ?_ _
        clear hHeld hHeld7 hHeld8 hHeld9
        go_wp2
        go_end0
        exact HF.out
      · have hTi : (16384 : Int) ≤ (q : Int) := by omega
        have HF : Hid (MeetTo u b g S T sh t (.returned (.tuple #[])) W2) := Lib.hid (meet_full (S5 := S) (H2.out) (Turns.of_below HB2.out) (HB2.out.size) (fun z hz => hz) (fun z hz => .inl hz) HIN.out (by rw [← HQ.out]; exact hT) (HS0.out HIN.out (HC.out)) (fun z hz => HSB.out z hz))
        clear hT HTA
        go_wp2
        go_end0
        exact HF.out
    · have hkp : (0 : Int) < (k : Int) := by omega
      by_cases hs0 : s = 0
      · obtain rfl := hshn hs0
        have HC := Lib.hid (HS1.out HIN.out ⟨hk0, hs0⟩)
        obtain ⟨gg, rfl, hgg, hkc, X, hX1, hX2⟩ := HF0.out (by omega)
        obtain ⟨mx, hmx⟩ : ∃ mx, mx = ((atD T (Sha.sum t)).getD 0 []).length := ⟨_, rfl⟩
        obtain ⟨AX, cX, rfl, _⟩ := hX2.bs
        rw [← hmx] at hX1 hX2
        clear hmx
        have hshE : sh = [] := by
          have h9 := H2.out.shown.val
          obtain ⟨A9, c9, e9, _⟩ := h9
          injection e9 with _ e8 _
          exact List.length_eq_zero_iff.mp (by omega)
        have hX3 : W2.cell? ⟨gg, 0, none⟩ = some (.slice AX mx cX) := (HB2.out.cell (p := ⟨gg, 0, none⟩) hgg).trans hX1
        have HX4 : Hid (TI W2 S ((atD T (Sha.sum t)).getD 0 []) (.slice AX mx cX)) := Lib.hid (hX2.keep (fun j hj _ => HB2.out.block j hj) (fun _ hj => hj))
        have hgg2 : gg < W2.heap.size := Nat.lt_of_lt_of_le hgg HB2.out.size
        have hbn2 : b < W2.heap.size := Nat.lt_of_lt_of_le hbn HB2.out.size
        obtain ⟨W4, hW4⟩ : ∃ W4, W4 = (W2.alloc (.cells #[.slice AX mx cX, .slice A m c] 89)).drew := ⟨_, rfl⟩
        obtain ⟨W5, hW5⟩ : ∃ W5, W5 = W4.setCell ⟨b, 3, none⟩ (.slice (some ⟨W2.heap.size, 0, none⟩) 2 2) := ⟨_, rfl⟩
        subst hshE
        have h5 : BkSt W5 b g (fun z => S z ∨ z = W2.heap.size) T [(atD T (Sha.sum t)).getD 0 [], t] bm f (.slice (some ⟨W2.heap.size, 0, none⟩) 2 2) := by
          have h8 := H2.out
          rw [hW5, hW4]
          have h9 : BkSt W2.drew b g S T [] bm f (.slice none s cv) := h8.dr
          exact h9.show_ (HX4.out.keep (w' := W2.drew) (S' := S) (fun _ _ _ => rfl) (fun _ hj => hj)) (HT2.out.keep (w' := W2.drew) (S' := S) (fun _ _ _ => rfl) (fun _ hj => hj))
        have hG4 : W2.grownBy W4 (some b) := by rw [hW4]; exact only_drew (only_alloc (World.grownBy.refl W2 (some b)) _)
        have hG : W2.grownBy W5 (some b) := by rw [hW5]; exact only_set (p := ⟨b, 3, none⟩) hG4 (.inl rfl) _
        have ht5 : TI W5 (fun z => S z ∨ z = W2.heap.size) t (.slice A m c) := HT2.out.grown hG (fun g9 cs e => by
          obtain rfl := Option.some.inj e
          intro e9
          rw [H2.out.blk] at e9
          have e2 := Option.some.inj e9
          injection e2 with _ e3 _
          exact absurd e3 (by decide)) (fun j hj => .inl hj)
        have H5 := Lib.hid h5
        have HT5 := Lib.hid ht5
        have HTN : Hid (Turns S u W5) := Lib.hid ((Turns.of_below HB2.out).trans (Turns.of_grown hG (S := S) fun j hj => by obtain rfl := Option.some.inj hj; exact H2.out.sb) fun _ _ hj => hj)
        have HLE : Hid (u.heap.size ≤ W5.heap.size) := Lib.hid (Nat.le_trans HB2.out.size hG.size)
        have HSU : Hid (∀ z, (S z ∨ z = W2.heap.size) → S z ∨ u.heap.size ≤ z) := Lib.hid fun z hz => hz.imp id fun q => by have := HB2.out.size; omega
        have hnb0 : u.heap.size ≠ b := by omega
        have hnb1 : u.heap.size + 1 ≠ b := by omega
        have hz2 := HZ2.out
        have HD5 : Hid (W5.heap[u.heap.size]? = some (.cells dl.toArray 34 (0, 0))) := Lib.hid ((hG.block _ (by omega) (fun e => hnb0 (Option.some.inj e))).trans HD2.out)
        have HX5 : Hid (W5.heap[u.heap.size + 1]? = some (.cells #[.slice A m c] 89 (0, 0))) := Lib.hid ((hG.block _ (by omega) (fun e => hnb1 (Option.some.inj e))).trans HX2.out)
        obtain ⟨r0, r1, r2, r3, rf⟩ := h5.cells
        rw [← HQ.out] at r2
        have HL0 : Hid (u.heap.size < W5.heap.size) := Lib.hid (Nat.lt_of_lt_of_le (by omega) hG.size)
        have HL1 : Hid (u.heap.size + 1 < W5.heap.size) := Lib.hid (Nat.lt_of_lt_of_le (by omega) hG.size)
        have HN0 : Hid (¬ (S u.heap.size ∨ u.heap.size = W2.heap.size)) := Lib.hid fun z => by
          rcases z with z | z
          · have := HSB.out _ z; omega
          · omega
        have HN1 : Hid (¬ (S (u.heap.size + 1) ∨ u.heap.size + 1 = W2.heap.size)) := Lib.hid fun z => by
          rcases z with z | z
          · have := HSB.out _ z; omega
          · omega
        have HW4 := Lib.hid hW4
        have HW5 := Lib.hid hW5
        have HK4 : Hid (∀ w' : World, w'.heap[gg]? = W2.heap[gg]? → w'.heap[u.heap.size + 1]? = W2.heap[u.heap.size + 1]? → (w'.cell? ⟨gg, 0, none⟩ = some (.slice AX mx cX) ∧ w'.cell? ⟨u.heap.size + 1, 0, none⟩ = some (.slice A m c))) := Lib.hid fun w' a1 a2 => ⟨(World.cell?_of_block (a := ⟨gg, 0, none⟩) a1).trans hX3, blk_cell (a2.trans HX2.out) 0⟩
        have hggb : gg ≠ b := by
          intro e
          subst e
          have e9 := blk_cell H2.out.blk 0
          rw [hX3] at e9
          cases e9
        have HS45 : Hid (W4.cell? ⟨gg, 0, none⟩ = some (.slice AX mx cX) ∧ W4.cell? ⟨u.heap.size + 1, 0, none⟩ = some (.slice A m c)) := Lib.hid (HK4.out W4 (by rw [hW4]; exact Below.heap_alloc W2 _ gg hgg2) (by rw [hW4]; exact Below.heap_alloc W2 _ _ (by omega)))
        have HS48 : Hid (W5.cell? ⟨gg, 0, none⟩ = some (.slice AX mx cX) ∧ W5.cell? ⟨u.heap.size + 1, 0, none⟩ = some (.slice A m c)) := Lib.hid (HK4.out W5 (hG.block _ hgg2 (fun e => hggb (Option.some.inj e))) (hG.block _ (by omega) (fun e => hnb1 (Option.some.inj e))))
        have e3 : W4.cell? ⟨b, 3, none⟩ = some (.slice none s cv) := (World.cell?_of_block (a := ⟨b, 3, none⟩) (by rw [hW4]; exact Below.heap_alloc W2 _ b hbn2)).trans p3
        have f3 : W4.frozen? ⟨b, 3, none⟩ = false := (World.frozen?_of_block (a := ⟨b, 3, none⟩) (by rw [hW4]; exact Below.heap_alloc W2 _ b hbn2)).trans (pf 3)
        have HHE := Lib.hid (show W2.drew.heap.size = W2.heap.size from rfl)
        clear h5 ht5 hG4 hG hW4 hW5 hz2 hX1 hX2 hgg hs0
        go_wp2_with fail
        refine wp_region_F (S := (fun w' => w'.cell? ⟨gg, 0, none⟩ = some (.slice AX mx cX) ∧ w'.cell? ⟨u.heap.size + 1, 0, none⟩ = some (.slice A m c))) [] (by kernel_rfl) (HK4.out W2.drew rfl rfl) (fun hHeld => ?_)
        refine wpAnyF_take (i := 0) (oi := _) (v := ?_) rfl (by kernel_rfl) (by kernel_rfl) (by kernel_rfl) (by kernel_rfl) (fun _ _ _ h => h) (Or.inl ⟨by rfl, ?_⟩) (by assumption) ?_
        rotate_left 1
        · intro w hSw
          (try dsimp only at hSw)
          (first | (go_simp; done) | (go_simp; with_reducible rfl))
        (try simp only [Act.put, List.getElem_toArray, List.getElem_cons_succ, List.getElem_cons_zero, List.setIfInBounds_toArray, List.set_cons_zero, List.set_cons_succ])
        refine wpAnyF_take (i := 1) (oi := _) (v := ?_) rfl (by kernel_rfl) (by kernel_rfl) (by kernel_rfl) (by kernel_rfl) (fun _ _ _ h => h) (Or.inl ⟨by rfl, ?_⟩) (by assumption) ?_
        rotate_left 1
        · intro w hSw
          (try dsimp only at hSw)
          (first | (go_simp; done) | (go_simp; with_reducible rfl))
        (try simp only [Act.put, List.getElem_toArray, List.getElem_cons_succ, List.getElem_cons_zero, List.setIfInBounds_toArray, List.set_cons_zero, List.set_cons_succ])
        refine wpAnyF_take (i := 2) (oi := _) (v := ?_) rfl (by kernel_rfl) (by kernel_rfl) (by kernel_rfl) (by kernel_rfl) (fun _ _ _ h => h) (Or.inl ⟨by rfl, ?_⟩) (by assumption) ?_
        rotate_left 1
        · intro w hSw
          (try dsimp only at hSw)
          (first | (go_simp; done) | (go_simp; with_reducible rfl))
        (try simp only [Act.put, List.getElem_toArray, List.getElem_cons_succ, List.getElem_cons_zero, List.setIfInBounds_toArray, List.set_cons_zero, List.set_cons_succ])
        refine wpAnyF_take (i := 3) (oi := _) (v := ?_) rfl (by kernel_rfl) (by kernel_rfl) (by kernel_rfl) (by kernel_rfl) (fun _ _ _ h => h) (Or.inl ⟨by rfl, ?_⟩) (by assumption) ?_
        rotate_left 1
        · intro w hSw
          (try dsimp only at hSw)
          (first | (go_simp; done) | (go_simp; with_reducible rfl))
        (try simp only [Act.put, List.getElem_toArray, List.getElem_cons_succ, List.getElem_cons_zero, List.setIfInBounds_toArray, List.set_cons_zero, List.set_cons_succ])
        refine wpAnyF_take (i := 4) (oi := _) (v := ?_) rfl (by kernel_rfl) (by kernel_rfl) (by kernel_rfl) (by kernel_rfl) (fun _ _ _ h => h) (Or.inl ⟨by rfl, ?_⟩) (by assumption) ?_
        rotate_left 1
        · intro w hSw
          (try dsimp only at hSw)
          (first | (go_simp; done) | (go_simp; with_reducible rfl))
        (try simp only [Act.put, List.getElem_toArray, List.getElem_cons_succ, List.getElem_cons_zero, List.setIfInBounds_toArray, List.set_cons_zero, List.set_cons_succ])
        refine wpAnyF_ready (rs := [5]) (by kernel_rfl) (by simp) ?_
        refine AllReadyF.cons (o := _) rfl (fun K hK => ?_) AllReadyF.nil
        go_simp
        rw [← HW4.out]
        refine hK.out _ _ (HS45.out) (fun hHeld5 => ?_)
        clear hK K
        (try simp only [Act.put, List.getElem_toArray, List.getElem_cons_succ, List.getElem_cons_zero, List.setIfInBounds_toArray, List.set_cons_zero, List.set_cons_succ])
        refine wpAnyF_take (i := 6) (oi := _) (v := ?_) rfl (by kernel_rfl) (by kernel_rfl) (by kernel_rfl) (by kernel_rfl) (fun _ _ _ h => h) (Or.inl ⟨by rfl, ?_⟩) (by assumption) ?_
        rotate_left 1
        · intro w hSw
          (try dsimp only at hSw)
          (first | (go_simp; done) | (go_simp; with_reducible rfl))
        (try simp only [Act.put, List.getElem_toArray, List.getElem_cons_succ, List.getElem_cons_zero, List.setIfInBounds_toArray, List.set_cons_zero, List.set_cons_succ])
        refine wpAnyF_take (i := 7) (oi := _) (v := ?_) rfl (by kernel_rfl) (by kernel_rfl) (by kernel_rfl) (by kernel_rfl) (fun _ _ _ h => h) (Or.inl ⟨by rfl, ?_⟩) (by assumption) ?_
        rotate_left 1
        · intro w hSw
          (try dsimp only at hSw)
          (first | (go_simp; done) | (go_simp; with_reducible rfl))
        (try simp only [Act.put, List.getElem_toArray, List.getElem_cons_succ, List.getElem_cons_zero, List.setIfInBounds_toArray, List.set_cons_zero, List.set_cons_succ])
        refine wpAnyF_ready (rs := [8]) (by kernel_rfl) (by simp) ?_
        refine AllReadyF.cons (o := _) rfl (fun K hK => ?_) AllReadyF.nil
        go_simp
        rw [← HW5.out]
        refine hK.out _ _ (HS48.out) (fun hHeld8 => ?_)
        clear hK K
        (try simp only [Act.put, List.getElem_toArray, List.getElem_cons_succ, List.getElem_cons_zero, List.setIfInBounds_toArray, List.set_cons_zero, List.set_cons_succ])
        refine wpAnyF_done (by kernel_rfl) ?_ _
        clear hHeld hHeld5 hHeld8 p1 p2 p3 pf pX hX3 f3 e3 HS45 HS48 HK4 HW4 HW5 H2 HT2 HB2 HX2 HD2 HX4 hgg2 hbn2
        have p1 := r1
        have p2 := r2
        have pf := rf
        have hl0 := HL0.out
        have hl1 := HL1.out
        have HX2 := HX5
        have HD2 := HD5
        by_cases hT : q < 16384
        · have hTi : (q : Int) < 16384 := by omega
          have hKS : ∀ w' : World, w'.heap[b]? = W5.heap[b]? → w'.heap[u.heap.size]? = W5.heap[u.heap.size]? → w'.heap[u.heap.size + 1]? = W5.heap[u.heap.size + 1]? → (w'.cell? ⟨b, 1, none⟩ = some (.map (some bm)) ∧ w'.cell? ⟨u.heap.size + 1, 0, none⟩ = some (.slice A m c) ∧ w'.rangeAt u.heap.size 0 dl) := fun w' a1 a2 a3 => by
            refine ⟨(World.cell?_of_block (a := ⟨b, 1, none⟩) a1).trans p1, blk_cell (a3.trans HX2.out) 0, fun j v hv => ?_⟩
            rw [Nat.zero_add]
            have h9 : w'.cell? ⟨u.heap.size, j, none⟩ = _ := blk_cell (a2.trans HD2.out) j
            rw [h9]; simpa using hv
          have KS := Lib.hid hKS
          obtain ⟨v', w1, w2, y1, y2, y3, y4, y5, y6, f5, y7⟩ := HTA.out W5.drew (fun z => S z ∨ z = W2.heap.size) [(atD T (Sha.sum t)).getD 0 [], t] (.slice (some ⟨W2.heap.size, 0, none⟩) 2 2) 75 (H5.out).dr (HT5.out) hT
          have hlb : b < W5.heap.size := (H5.out).sub b (H5.out).sb
          have HS8 : Hid (w1.cell? ⟨b, 1, none⟩ = some (.map (some bm)) ∧ w1.cell? ⟨u.heap.size + 1, 0, none⟩ = some (.slice A m c) ∧ w1.rangeAt u.heap.size 0 dl) := Lib.hid (KS.out w1 y4 ((y3 u.heap.size hl0 HN0.out).1) ((y3 (u.heap.size + 1) hl1 HN1.out).1))
          have HS9 : Hid (w2.cell? ⟨b, 1, none⟩ = some (.map (some bm)) ∧ w2.cell? ⟨u.heap.size + 1, 0, none⟩ = some (.slice A m c) ∧ w2.rangeAt u.heap.size 0 dl) := Lib.hid (KS.out w2 y5 ((y3 u.heap.size hl0 HN0.out).2) ((y3 (u.heap.size + 1) hl1 HN1.out).2))
          have d2 : w2.cell? ⟨b, 2, none⟩ = some (.int .i64 (q : Int)) := (World.cell?_of_block (a := ⟨b, 2, none⟩) y5).trans p2
          have df : w2.frozen? ⟨b, 2, none⟩ = false := (World.frozen?_of_block (a := ⟨b, 2, none⟩) y5).trans (pf 2)
          have HS7 : Hid (((W5.alloc (.cells #[.slice A m c] 89)).drew).cell? ⟨b, 1, none⟩ = some (.map (some bm)) ∧ ((W5.alloc (.cells #[.slice A m c] 89)).drew).cell? ⟨u.heap.size + 1, 0, none⟩ = some (.slice A m c) ∧ ((W5.alloc (.cells #[.slice A m c] 89)).drew).rangeAt u.heap.size 0 dl) := Lib.hid (KS.out _ (Below.heap_alloc W5 _ b hlb) (Below.heap_alloc W5 _ _ hl0) (Below.heap_alloc W5 _ _ hl1))
          have HF : Hid (MeetTo u b g S T [] t (.returned (.tuple #[])) (w2.setCell ⟨b, 2, none⟩ (.int .i64 ((q : Int) + 1)))) := Lib.hid (by
            have e1 : ((q + 1 : Nat) : Int) = (q : Int) + 1 := by omega
            rw [e1] at y6 y7
            exact meet_put (W := W5.drew) (S5 := fun z => S z ∨ z = W2.heap.size) (fun z hz => (H5.out).sub z hz) y7 y6 (Turns.dr (HTN.out)) (HLE.out) (fun z hz => .inl hz) HSU.out HIN.out (by rw [← HQ.out]; exact hT) (HC.out) (fun z hz => HSB.out z hz))
          have Y1 : Hid ((Builtin.append_ #[75, 75] 75 #[.slice (some ⟨gg, 0, none⟩) k cf, .slice (some ⟨W5.heap.size, 0, none⟩) 1 1]).run Tryz.prog ((W5.alloc (.cells #[.slice A m c] 89)).drew) = .ok v' w1) := Lib.hid y1
          have Y2 := Lib.hid y2
          clear y1 y2 y3 y4 y5 y6 y7 hT hlb hKS HTA
          go_wp2_with fail
          refine wp_region_F (S := (fun w' => w'.cell? ⟨b, 1, none⟩ = some (.map (some bm)) ∧ w'.cell? ⟨u.heap.size + 1, 0, none⟩ = some (.slice A m c) ∧ w'.rangeAt u.heap.size 0 dl)) [] (by kernel_rfl) (KS.out _ rfl rfl rfl) (fun hHeld => ?_)
          refine wpAnyF_take (i := 0) (oi := _) (v := ?_) rfl (by kernel_rfl) (by kernel_rfl) (by kernel_rfl) (by kernel_rfl) (fun _ _ _ h => h) (Or.inl ⟨by rfl, ?_⟩) (by assumption) ?_
          rotate_left 1
          · intro w hSw
            (try dsimp only at hSw)
            (first | (go_simp; done) | (go_simp; with_reducible rfl))
          (try simp only [Act.put, List.getElem_toArray, List.getElem_cons_succ, List.getElem_cons_zero, List.setIfInBounds_toArray, List.set_cons_zero, List.set_cons_succ])
          refine wpAnyF_take (i := 1) (oi := _) (v := ?_) rfl (by kernel_rfl) (by kernel_rfl) (by kernel_rfl) (by kernel_rfl) (fun _ _ _ h => h) (Or.inl ⟨by rfl, ?_⟩) (by assumption) ?_
          rotate_left 1
          · intro w hSw
            (try dsimp only at hSw)
            (first | (go_simp; done) | (go_simp; with_reducible rfl))
          (try simp only [Act.put, List.getElem_toArray, List.getElem_cons_succ, List.getElem_cons_zero, List.setIfInBounds_toArray, List.set_cons_zero, List.set_cons_succ])
          refine wpAnyF_take (i := 2) (oi := _) (v := ?_) rfl (by kernel_rfl) (by kernel_rfl) (by kernel_rfl) (by kernel_rfl) (fun _ _ _ h => h) (Or.inl ⟨by rfl, ?_⟩) (by assumption) ?_
          rotate_left 1
          · intro w hSw
            (try dsimp only at hSw)
            (first | (go_simp; done) | (go_simp; with_reducible rfl))
          (try simp only [Act.put, List.getElem_toArray, List.getElem_cons_succ, List.getElem_cons_zero, List.setIfInBounds_toArray, List.set_cons_zero, List.set_cons_succ])
          refine wpAnyF_take (i := 3) (oi := _) (v := ?_) rfl (by kernel_rfl) (by kernel_rfl) (by kernel_rfl) (by kernel_rfl) (fun _ _ _ h => h) (Or.inl ⟨by rfl, ?_⟩) (by assumption) ?_
          rotate_left 1
          · intro w hSw
            (try dsimp only at hSw)
            (first | (go_simp; done) | (go_simp; with_reducible rfl))
          (try simp only [Act.put, List.getElem_toArray, List.getElem_cons_succ, List.getElem_cons_zero, List.setIfInBounds_toArray, List.set_cons_zero, List.set_cons_succ])
          refine wpAnyF_take (i := 4) (oi := _) (v := (.agg dl.toArray)) rfl (by kernel_rfl) (by kernel_rfl) (by kernel_rfl) (by kernel_rfl) (fun _ _ _ h => h) (Or.inl ⟨by rfl, ?_⟩) (by assumption) ?_
          · intro w hSw
            (try dsimp only at hSw)
            exact exec_row 34 (.tmp 4) (by rfl) _ 0 (by rfl) dl _ hSw.2.2 Tryz.underlying34 (by rfl) HI.out
          (try simp only [Act.put, List.getElem_toArray, List.getElem_cons_succ, List.getElem_cons_zero, List.setIfInBounds_toArray, List.set_cons_zero, List.set_cons_succ])
          refine wpAnyF_take (i := 5) (oi := _) (v := ?_) rfl (by kernel_rfl) (by kernel_rfl) (by kernel_rfl) (by kernel_rfl) (fun _ _ _ h => h) (Or.inl ⟨by rfl, ?_⟩) (by assumption) ?_
          rotate_left 1
          · intro w hSw
            (try dsimp only at hSw)
            (first | (go_simp; done) | (go_simp; with_reducible rfl))
          (try simp only [Act.put, List.getElem_toArray, List.getElem_cons_succ, List.getElem_cons_zero, List.setIfInBounds_toArray, List.set_cons_zero, List.set_cons_succ])
          refine wpAnyF_take (i := 6) (oi := _) (v := ?_) rfl (by kernel_rfl) (by kernel_rfl) (by kernel_rfl) (by kernel_rfl) (fun _ _ _ h => h) (Or.inl ⟨by rfl, ?_⟩) (by assumption) ?_
          rotate_left 1
          · intro w hSw
            (try dsimp only at hSw)
            (first | (go_simp; done) | (go_simp; with_reducible rfl))
          (try simp only [Act.put, List.getElem_toArray, List.getElem_cons_succ, List.getElem_cons_zero, List.setIfInBounds_toArray, List.set_cons_zero, List.set_cons_succ])
          refine wpAnyF_ready (rs := [7]) (by kernel_rfl) (by simp) ?_
          refine AllReadyF.cons (o := _) rfl (fun K hK => ?_) AllReadyF.nil
          go_simp
          refine hK.out _ _ (HS7.out) (fun hHeld7 => ?_)
          clear hK K
          (try simp only [Act.put, List.getElem_toArray, List.getElem_cons_succ, List.getElem_cons_zero, List.setIfInBounds_toArray, List.set_cons_zero, List.set_cons_succ])
          refine wpAnyF_ready (rs := [8]) (by kernel_rfl) (by simp) ?_
          refine AllReadyF.cons (o := _) rfl (fun K hK => ?_) AllReadyF.nil
          rw [if_pos (by kernel_rfl)]
          refine step_apd _ 75 75 (.tmp 44) (.tmp 46) rfl (by rfl) (.slice (some ⟨gg, 0, none⟩) k cf) (.slice (some ⟨W5.heap.size, 0, none⟩) 1 1) v' w1 (by rfl) (by rfl) Y1.out ?_
          refine hK.out _ _ (HS8.out) (fun hHeld8 => ?_)
          clear hK K
          (try simp only [Act.put, List.getElem_toArray, List.getElem_cons_succ, List.getElem_cons_zero, List.setIfInBounds_toArray, List.set_cons_zero, List.set_cons_succ])
          refine wpAnyF_ready (rs := [9]) (by kernel_rfl) (by simp) ?_
          refine AllReadyF.cons (o := _) rfl (fun K hK => ?_) AllReadyF.nil
          rw [if_pos (by kernel_rfl)]
          refine step_put _ 74 (.tmp 42) (.tmp 43) (.tmp 47) rfl _ _ _ w2 rfl rfl rfl Y2.out ?_
          refine hK.out _ _ (HS9.out) (fun hHeld9 => ?_)
          clear hK K
          (try simp only [Act.put, List.getElem_toArray, List.getElem_cons_succ, List.getElem_cons_zero, List.setIfInBounds_toArray, List.set_cons_zero, List.set_cons_succ])
          refine wpAnyF_done (by kernel_rfl) ?_ _
          clear hHeld hHeld7 hHeld8 hHeld9
          go_wp2
          go_end0
          exact HF.out
        · have hTi : (16384 : Int) ≤ (q : Int) := by omega
          have HF : Hid (MeetTo u b g S T [] t (.returned (.tuple #[])) W5) := Lib.hid (meet_full (S5 := fun z => S z ∨ z = W2.heap.size) (H5.out) (HTN.out) (HLE.out) (fun z hz => .inl hz) HSU.out HIN.out (by rw [← HQ.out]; exact hT) (HC.out) (fun z hz => HSB.out z hz))
          clear hT HTA
          go_wp2
          go_end0
          exact HF.out
      · have HC : Hid (k = 0 ∨ s ≠ 0) := Lib.hid (.inr hs0)
        obtain ⟨av, rfl⟩ := hshs hs0
        have hl0 : u.heap.size < W2.heap.size := by have := HZ2.out; omega
        have hl1 : u.heap.size + 1 < W2.heap.size := by have := HZ2.out; omega
        have hn0 : ¬ S u.heap.size := fun z => by have := HSB.out _ z; omega
        have hn1 : ¬ S (u.heap.size + 1) := fun z => by have := HSB.out _ z; omega
        by_cases hT : q < 16384
        · have hTi : (q : Int) < 16384 := by omega
          have hKS : ∀ w' : World, w'.heap[b]? = W2.heap[b]? → w'.heap[u.heap.size]? = W2.heap[u.heap.size]? → w'.heap[u.heap.size + 1]? = W2.heap[u.heap.size + 1]? → (w'.cell? ⟨b, 1, none⟩ = some (.map (some bm)) ∧ w'.cell? ⟨u.heap.size + 1, 0, none⟩ = some (.slice A m c) ∧ w'.rangeAt u.heap.size 0 dl) := fun w' a1 a2 a3 => by
            refine ⟨(World.cell?_of_block (a := ⟨b, 1, none⟩) a1).trans p1, blk_cell (a3.trans HX2.out) 0, fun j v hv => ?_⟩
            rw [Nat.zero_add]
            have h9 : w'.cell? ⟨u.heap.size, j, none⟩ = _ := blk_cell (a2.trans HD2.out) j
            rw [h9]; simpa using hv
          have KS := Lib.hid hKS
          obtain ⟨v', w1, w2, y1, y2, y3, y4, y5, y6, f5, y7⟩ := HTA.out W2.drew (S) sh (.slice (some av) s cv) 75 (H2.out).dr (HT2.out) hT
          have hlb : b < W2.heap.size := (H2.out).sub b (H2.out).sb
          have HS8 : Hid (w1.cell? ⟨b, 1, none⟩ = some (.map (some bm)) ∧ w1.cell? ⟨u.heap.size + 1, 0, none⟩ = some (.slice A m c) ∧ w1.rangeAt u.heap.size 0 dl) := Lib.hid (KS.out w1 y4 ((y3 u.heap.size hl0 hn0).1) ((y3 (u.heap.size + 1) hl1 hn1).1))
          have HS9 : Hid (w2.cell? ⟨b, 1, none⟩ = some (.map (some bm)) ∧ w2.cell? ⟨u.heap.size + 1, 0, none⟩ = some (.slice A m c) ∧ w2.rangeAt u.heap.size 0 dl) := Lib.hid (KS.out w2 y5 ((y3 u.heap.size hl0 hn0).2) ((y3 (u.heap.size + 1) hl1 hn1).2))
          have d2 : w2.cell? ⟨b, 2, none⟩ = some (.int .i64 (q : Int)) := (World.cell?_of_block (a := ⟨b, 2, none⟩) y5).trans p2
          have df : w2.frozen? ⟨b, 2, none⟩ = false := (World.frozen?_of_block (a := ⟨b, 2, none⟩) y5).trans (pf 2)
          have HS7 : Hid (((W2.alloc (.cells #[.slice A m c] 89)).drew).cell? ⟨b, 1, none⟩ = some (.map (some bm)) ∧ ((W2.alloc (.cells #[.slice A m c] 89)).drew).cell? ⟨u.heap.size + 1, 0, none⟩ = some (.slice A m c) ∧ ((W2.alloc (.cells #[.slice A m c] 89)).drew).rangeAt u.heap.size 0 dl) := Lib.hid (KS.out _ (Below.heap_alloc W2 _ b hlb) (Below.heap_alloc W2 _ _ hl0) (Below.heap_alloc W2 _ _ hl1))
          have HF : Hid (MeetTo u b g S T sh t (.returned (.tuple #[])) (w2.setCell ⟨b, 2, none⟩ (.int .i64 ((q : Int) + 1)))) := Lib.hid (by
            have e1 : ((q + 1 : Nat) : Int) = (q : Int) + 1 := by omega
            rw [e1] at y6 y7
            exact meet_put (W := W2.drew) (S5 := S) (fun z hz => (H2.out).sub z hz) y7 y6 (Turns.dr (Turns.of_below HB2.out)) (HB2.out.size) (fun z hz => hz) (fun z hz => .inl hz) HIN.out (by rw [← HQ.out]; exact hT) (HS0.out HIN.out (HC.out)) (fun z hz => HSB.out z hz))
          have Y1 : Hid ((Builtin.append_ #[75, 75] 75 #[.slice Af k cf, .slice (some ⟨W2.heap.size, 0, none⟩) 1 1]).run Tryz.prog ((W2.alloc (.cells #[.slice A m c] 89)).drew) = .ok v' w1) := Lib.hid y1
          have Y2 := Lib.hid y2
          clear y1 y2 y3 y4 y5 y6 y7 hT hlb hKS HTA
          go_wp2_with fail
          refine wp_region_F (S := (fun w' => w'.cell? ⟨b, 1, none⟩ = some (.map (some bm)) ∧ w'.cell? ⟨u.heap.size + 1, 0, none⟩ = some (.slice A m c) ∧ w'.rangeAt u.heap.size 0 dl)) [] (by kernel_rfl) (KS.out _ rfl rfl rfl) (fun hHeld => ?_)
          refine wpAnyF_take (i := 0) (oi := _) (v := ?_) rfl (by kernel_rfl) (by kernel_rfl) (by kernel_rfl) (by kernel_rfl) (fun _ _ _ h => h) (Or.inl ⟨by rfl, ?_⟩) (by assumption) ?_
          rotate_left 1
          · intro w hSw
            (try dsimp only at hSw)
            (first | (go_simp; done) | (go_simp; with_reducible rfl))
          (try simp only [Act.put, List.getElem_toArray, List.getElem_cons_succ, List.getElem_cons_zero, List.setIfInBounds_toArray, List.set_cons_zero, List.set_cons_succ])
          refine wpAnyF_take (i := 1) (oi := _) (v := ?_) rfl (by kernel_rfl) (by kernel_rfl) (by kernel_rfl) (by kernel_rfl) (fun _ _ _ h => h) (Or.inl ⟨by rfl, ?_⟩) (by assumption) ?_
          rotate_left 1
          · intro w hSw
            (try dsimp only at hSw)
            (first | (go_simp; done) | (go_simp; with_reducible rfl))
          (try simp only [Act.put, List.getElem_toArray, List.getElem_cons_succ, List.getElem_cons_zero, List.setIfInBounds_toArray, List.set_cons_zero, List.set_cons_succ])
          refine wpAnyF_take (i := 2) (oi := _) (v := ?_) rfl (by kernel_rfl) (by kernel_rfl) (by kernel_rfl) (by kernel_rfl) (fun _ _ _ h => h) (Or.inl ⟨by rfl, ?_⟩) (by assumption) ?_
          rotate_left 1
          · intro w hSw
            (try dsimp only at hSw)
            (first | (go_simp; done) | (go_simp; with_reducible rfl))
          (try simp only [Act.put, List.getElem_toArray, List.getElem_cons_succ, List.getElem_cons_zero, List.setIfInBounds_toArray, List.set_cons_zero, List.set_cons_succ])
          refine wpAnyF_take (i := 3) (oi := _) (v := ?_) rfl (by kernel_rfl) (by kernel_rfl) (by kernel_rfl) (by kernel_rfl) (fun _ _ _ h => h) (Or.inl ⟨by rfl, ?_⟩) (by assumption) ?_
          rotate_left 1
          · intro w hSw
            (try dsimp only at hSw)
            (first | (go_simp; done) | (go_simp; with_reducible rfl))
          (try simp only [Act.put, List.getElem_toArray, List.getElem_cons_succ, List.getElem_cons_zero, List.setIfInBounds_toArray, List.set_cons_zero, List.set_cons_succ])
          refine wpAnyF_take (i := 4) (oi := _) (v := (.agg dl.toArray)) rfl (by kernel_rfl) (by kernel_rfl) (by kernel_rfl) (by kernel_rfl) (fun _ _ _ h => h) (Or.inl ⟨by rfl, ?_⟩) (by assumption) ?_
          · intro w hSw
            (try dsimp only at hSw)
            exact exec_row 34 (.tmp 4) (by rfl) _ 0 (by rfl) dl _ hSw.2.2 Tryz.underlying34 (by rfl) HI.out
          (try simp only [Act.put, List.getElem_toArray, List.getElem_cons_succ, List.getElem_cons_zero, List.setIfInBounds_toArray, List.set_cons_zero, List.set_cons_succ])
          refine wpAnyF_take (i := 5) (oi := _) (v := ?_) rfl (by kernel_rfl) (by kernel_rfl) (by kernel_rfl) (by kernel_rfl) (fun _ _ _ h => h) (Or.inl ⟨by rfl, ?_⟩) (by assumption) ?_
          rotate_left 1
          · intro w hSw
            (try dsimp only at hSw)
            (first | (go_simp; done) | (go_simp; with_reducible rfl))
          (try simp only [Act.put, List.getElem_toArray, List.getElem_cons_succ, List.getElem_cons_zero, List.setIfInBounds_toArray, List.set_cons_zero, List.set_cons_succ])
          refine wpAnyF_take (i := 6) (oi := _) (v := ?_) rfl (by kernel_rfl) (by kernel_rfl) (by kernel_rfl) (by kernel_rfl) (fun _ _ _ h => h) (Or.inl ⟨by rfl, ?_⟩) (by assumption) ?_
          rotate_left 1
          · intro w hSw
            (try dsimp only at hSw)
            (first | (go_simp; done) | (go_simp; with_reducible rfl))
          (try simp only [Act.put, List.getElem_toArray, List.getElem_cons_succ, List.getElem_cons_zero, List.setIfInBounds_toArray, List.set_cons_zero, List.set_cons_succ])
          refine wpAnyF_ready (rs := [7]) (by kernel_rfl) (by simp) ?_
          refine AllReadyF.cons (o := _) rfl (fun K hK => ?_) AllReadyF.nil
          go_simp
          refine hK.out _ _ (HS7.out) (fun hHeld7 => ?_)
          clear hK K
          (try simp only [Act.put, List.getElem_toArray, List.getElem_cons_succ, List.getElem_cons_zero, List.setIfInBounds_toArray, List.set_cons_zero, List.set_cons_succ])
          refine wpAnyF_ready (rs := [8]) (by kernel_rfl) (by simp) ?_
          refine AllReadyF.cons (o := _) rfl (fun K hK => ?_) AllReadyF.nil
          rw [if_pos (by kernel_rfl)]
          refine step_apd _ 75 75 (.tmp 44) (.tmp 46) rfl (by rfl) (.slice Af k cf) (.slice (some ⟨W2.heap.size, 0, none⟩) 1 1) v' w1 (by rfl) (by rfl) Y1.out ?_
          refine hK.out _ _ (HS8.out) (fun hHeld8 => ?_)
          clear hK K
          (try simp only [Act.put, List.getElem_toArray, List.getElem_cons_succ, List.getElem_cons_zero, List.setIfInBounds_toArray, List.set_cons_zero, List.set_cons_succ])
          refine wpAnyF_ready (rs := [9]) (by kernel_rfl) (by simp) ?_
          refine AllReadyF.cons (o := _) rfl (fun K hK => ?_) AllReadyF.nil
          rw [if_pos (by kernel_rfl)]
          refine step_put _ 74 (.tmp 42) (.tmp 43) (.tmp 47) rfl _ _ _ w2 rfl rfl rfl Y2.out ?_
          refine hK.out _ _ (HS9.out) (fun hHeld9 => ?_)
          clear hK K
          (try simp only [Act.put, List.getElem_toArray, List.getElem_cons_succ, List.getElem_cons_zero, List.setIfInBounds_toArray, List.set_cons_zero, List.set_cons_succ])
          refine wpAnyF_done (by kernel_rfl) ?_ _
          clear hHeld hHeld7 hHeld8 hHeld9
          go_wp2
          go_end0
          exact HF.out
        · have hTi : (16384 : Int) ≤ (q : Int) := by omega
          have HF : Hid (MeetTo u b g S T sh t (.returned (.tuple #[])) W2) := Lib.hid (meet_full (S5 := S) (H2.out) (Turns.of_below HB2.out) (HB2.out.size) (fun z hz => hz) (fun z hz => .inl hz) HIN.out (by rw [← HQ.out]; exact hT) (HS0.out HIN.out (HC.out)) (fun z hz => HSB.out z hz))
          clear hT HTA
          go_wp2
          go_end0
          exact HF.out
end Go.Proofs.YtoclelpmampikaaGreat
