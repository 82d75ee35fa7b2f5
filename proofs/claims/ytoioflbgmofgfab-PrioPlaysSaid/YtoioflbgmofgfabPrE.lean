/-
  A queue: New, take, Pop, Peek; a queue that is not there.
-/
import Derived.Test.YtoioflbgmofgfabPrD
namespace Go.Proofs.Ytoioflbgmofgfab
open Go.RowKit Go
set_option linter.unusedVariables false
set_option linter.unusedSimpArgs false
/-- .. and block s, which is the call's own, lies apart -/
structure QedX (w : World) (s g : Nat) (v : Value) (es : List En) (t : Nat) (w' : World) : Prop where
  turns : Turns (fun j => j = g ∨ v.ownBlock = some j) w w'
  qu : ∃ v', Qu w' g v' es t ∧ (v'.ownBlock = v.ownBlock ∨ ∃ j, w.heap.size ≤ j ∧ v'.ownBlock = some j) ∧ v'.ownBlock ≠ some s
  gs : g ≠ s
  ns : w.heap.size ≤ s
theorem QedX.qed {w w' : World} {s g t : Nat} {v : Value} {es : List En} (h : QedX w s g v es t w') : Qed w g v es t w' := by
  obtain ⟨v', h1, h2, _⟩ := h.qu
  exact ⟨h.turns, v', h1, h2⟩
theorem QedX.of {w w' : World} {g t t0 : Nat} {v : Value} {es es0 : List En} (h0 : Qu w g v es0 t0) (o : Obj) (h : Qed (w.alloc o) g v es t w') : QedX w w.heap.size g v es t w' := by
  obtain ⟨h1, v', h2, h3⟩ := h
  refine ⟨(Turns.of_below (S := fun j => j = g ∨ v.ownBlock = some j) ((Below.refl w.heap.size w).alloc (Nat.le_refl _) o)).trans h1 (fun _ _ q => q), ⟨v', h2, ?_, ?_⟩, by have := h0.dev.lt; omega, Nat.le_refl _⟩
  · rcases h3 with h3 | ⟨j, h3, h4⟩
    · exact .inl h3
    · exact .inr ⟨j, by simp at h3; omega, h4⟩
  · rcases h3 with h3 | ⟨j, h3, h4⟩
    · rw [h3]; intro q; have := (h0.own.lt _ q).2; omega
    · rw [h4]; intro q; injection q with q; simp at h3; omega
theorem QedX.set_ {w w' : World} {s g t : Nat} {v : Value} {es : List En} (h : QedX w s g v es t w') (i : Nat) (u : Value) : QedX w s g v es t (w'.setCell ⟨s, i, none⟩ u) := by
  obtain ⟨h1, ⟨v', h2, h3, h4⟩, h5, h6⟩ := h
  refine ⟨h1.trans (S' := fun j => j = s) (Turns.set _ _ rfl) (fun j hj q => by omega), ⟨v', ⟨?_, ?_⟩, h3, h4⟩, h5, h6⟩
  · exact h2.dev.keep (Below.heap_setCell _ _ _ _ h5)
  · exact h2.own.keep fun q hq => Below.heap_setCell _ _ _ _ (fun e => h4 (by rw [hq]; show some q = some s; rw [show q = s from e]))
theorem QedX.next {w w' w2 : World} {s g t : Nat} {v : Value} {es : List En} (h : QedX w s g v es t w') (hb : Below w'.heap.size w' w2) : QedX w s g v es t w2 := by
  obtain ⟨h1, ⟨v', h2, h3, h4⟩, h5, h6⟩ := h
  exact ⟨h1.trans (S' := fun _ => False) (Turns.of_below hb) (fun _ _ q => q.elim), ⟨v', h2.next hb, h3, h4⟩, h5, h6⟩
theorem QedX.of_qu {w : World} {g t : Nat} {v : Value} {es : List En} (h : Qu w g v es t) : ∀ w', Below w.heap.size w w' → QedX w w.heap.size g v es t w' := fun w' hb =>
  ⟨Turns.of_below hb, ⟨v, h.next hb, .inl rfl, fun q => by have := (h.own.lt _ q).2; omega⟩, by have := h.dev.lt; omega, Nat.le_refl _⟩
abbrev zeroTh : Obj := .cells #[.int .i64 0, .int .i64 0] 45
theorem assert_en' (x : En) (w : World) : (Instr.typeAssert (.iface EnT (.agg x.cells.toArray)) 20 EnT false).run Try.prog w = .ok (.agg x.cells.toArray) w := by kernel_rfl
theorem field_en (x : En) (w : World) : (Instr.field EnT (.agg x.cells.toArray) 0).run Try.prog w = .ok (.agg #[.int .i64 x.n, .int .i64 x.m]) w := by kernel_rfl
def TakeE (w : World) (g t : Nat) (v : Value) (es : List En) (e : Ending) (w' : World) : Prop := e = .returned (.agg #[.int .i64 (popE es).n, .int .i64 (popE es).m]) ∧ Qed w g v (popF es) t w'
/-- a fresh thing's cells behind a call -/
theorem fresh_th {w w1 : World} {g : Nat} {v : Value} (ht : Turns (fun j => j = g ∨ v.ownBlock = some j) (w.alloc zeroTh) w1) (hg : g < w.heap.size) (hv : ∀ k, v.ownBlock = some k → k < w.heap.size) : w1.heap[w.heap.size]? = some zeroTh := by
  rw [ht.block w.heap.size (by simp) (fun q => q.elim (fun q => by omega) (fun q => by have := hv _ q; omega))]
  exact heap_alloc_new w _
set_option maxHeartbeats 1000000 in
theorem take_any (g t : Nat) (v : Value) (es : List En) (w : World) (h : Qu w g v es t) (hl : 0 < es.length) (hm : es.length ≤ 1000000000) :
    Calls Try.prog 36 #[.pointer (some ⟨g, 0, none⟩)] w (TakeE w g t v es) := by
  obtain ⟨x, hx⟩ : ∃ x, popE es = x := ⟨_, rfl⟩
  have hta := assert_en' x
  have hfd := field_en x
  have HPO := Lib.hid (heappop_any g t v es (w.alloc zeroTh) (h.next ((Below.refl w.heap.size w).alloc (Nat.le_refl _) _)) hl hm)
  have H0 := Lib.hid h
  rw [hx] at HPO
  have HXE := Lib.hid hx
  clear h hx
  go_enter Try.func36, Try.ntmps36
  go_wp2_with fail
  refine HPO.out.mono ?_
  rintro e w1 ⟨rfl, hq⟩
  have hF := fresh_th hq.turns H0.out.dev.lt (fun k hk => (H0.out.own.lt k hk).2)
  have c0 := blk_cell hF 0
  have c1 := blk_cell hF 1
  have f0 := blk_free hF 0
  have f1 := blk_free hF 1
  have HX := Lib.hid (((QedX.of H0.out _ hq).set_ 0 (.int .i64 x.n)).set_ 1 (.int .i64 x.m))
  clear hq hF
  go_wp2
  exact bodyPost_ret (v := .agg #[.int .i64 x.n, .int .i64 x.m]) (by simp [results, Try.results36, go_sem, c0, c1]) rfl ⟨by rw [HXE.out], HX.out.qed⟩
def PopE (w : World) (g t : Nat) (v : Value) (es : List En) (e : Ending) (w' : World) : Prop := e = .returned (.tuple #[.agg #[.int .i64 (popE es).n, .int .i64 (popE es).m], .bool true]) ∧ Qed w g v (popF es) t w'
set_option maxHeartbeats 1000000 in
theorem pop_any (g t : Nat) (v : Value) (es : List En) (w : World) (h : Qu w g v es t) (hl : 0 < es.length) (hm : es.length ≤ 1000000000) :
    Calls Try.prog 20 #[.pointer (some ⟨g, 0, none⟩)] w (PopE w g t v es) := by
  obtain ⟨x, hx⟩ : ∃ x, popE es = x := ⟨_, rfl⟩
  have h1 := h.next ((Below.refl w.heap.size w).alloc (Nat.le_refl _) zeroTh)
  have HLN := Lib.hid (qlen_any g t v es (w.alloc zeroTh) h1)
  have HTK := Lib.hid (take_any g t v es (w.alloc zeroTh) h1 hl hm)
  have H0 := Lib.hid h
  unfold TakeE at HTK
  rw [hx] at HTK
  have HXE := Lib.hid hx
  clear h h1 hx
  generalize es.length = n at HLN hl hm ⊢
  have hne : ((n : Int) == 0) = false := by rw [beq_eq_false_iff_ne]; omega
  go_enter Try.func20, Try.ntmps20
  go_wp2_with (go_at_call 24; (with_reducible refine HLN.out.mono ?_); rintro e w' ⟨rfl, rfl⟩)
  refine HTK.out.mono ?_
  rintro e w1 ⟨rfl, hq⟩
  have hF := fresh_th hq.turns H0.out.dev.lt (fun k hk => (H0.out.own.lt k hk).2)
  have c0 := blk_cell hF 0
  have c1 := blk_cell hF 1
  have f0 := blk_free hF 0
  have f1 := blk_free hF 1
  have HX := Lib.hid (((QedX.of H0.out _ hq).set_ 0 (.int .i64 x.n)).set_ 1 (.int .i64 x.m))
  clear hq hF
  go_wp2
  exact bodyPost_ret (v := .tuple #[.agg #[.int .i64 x.n, .int .i64 x.m], .bool true]) (by simp [results, Try.results20, go_sem, c0, c1]) rfl ⟨by rw [HXE.out], HX.out.qed⟩
theorem pop_none (g t : Nat) (v : Value) (w : World) (h : Qu w g v [] t) :
    Calls Try.prog 20 #[.pointer (some ⟨g, 0, none⟩)] w fun e w' => e = .returned (.tuple #[.agg #[.int .i64 0, .int .i64 0], .bool false]) ∧ Below w.heap.size w w' := by
  have HLN := Lib.hid (qlen_any g t v [] (w.alloc zeroTh) (h.next ((Below.refl w.heap.size w).alloc (Nat.le_refl _) zeroTh)))
  clear h
  go_enter Try.func20, Try.ntmps20
  go_wp2_with (go_at_call 24; (with_reducible refine HLN.out.mono ?_); rintro e w' ⟨rfl, rfl⟩)
  refine bodyPost_ret (v := .tuple #[.agg #[.int .i64 0, .int .i64 0], .bool false]) (by simp [results, Try.results20, go_sem]) rfl ⟨rfl, ?_⟩
  first | exact ((Below.refl _ _).alloc (Nat.le_refl _) _).alloc (by simp) _ | exact (Below.refl _ _).alloc (Nat.le_refl _) _
theorem pop_nil (w : World) :
    Calls Try.prog 20 #[.pointer none] w fun e w' => e = .returned (.tuple #[.agg #[.int .i64 0, .int .i64 0], .bool false]) ∧ Below w.heap.size w w' := by
  have HLN := Lib.hid (qlen_nil (w.alloc zeroTh))
  go_enter Try.func20, Try.ntmps20
  go_wp2_with (go_at_call 24; (with_reducible refine HLN.out.mono ?_); rintro e w' ⟨rfl, rfl⟩)
  refine bodyPost_ret (v := .tuple #[.agg #[.int .i64 0, .int .i64 0], .bool false]) (by simp [results, Try.results20, go_sem]) rfl ⟨rfl, ?_⟩
  first | exact ((Below.refl _ _).alloc (Nat.le_refl _) _).alloc (by simp) _ | exact (Below.refl _ _).alloc (Nat.le_refl _) _
theorem peek_nil (w : World) :
    Calls Try.prog 22 #[.pointer none] w fun e w' => e = .returned (.tuple #[.agg #[.int .i64 0, .int .i64 0], .bool false]) ∧ Below w.heap.size w w' := by
  have HLN := Lib.hid (qlen_nil (w.alloc zeroTh))
  go_enter Try.func22, Try.ntmps22
  go_wp2_with (go_at_call 24; (with_reducible refine HLN.out.mono ?_); rintro e w' ⟨rfl, rfl⟩)
  refine bodyPost_ret (v := .tuple #[.agg #[.int .i64 0, .int .i64 0], .bool false]) (by simp [results, Try.results22, go_sem]) rfl ⟨rfl, ?_⟩
  first | exact ((Below.refl _ _).alloc (Nat.le_refl _) _).alloc (by simp) _ | exact (Below.refl _ _).alloc (Nat.le_refl _) _
theorem peek_none (g t : Nat) (v : Value) (w : World) (h : Qu w g v [] t) :
    Calls Try.prog 22 #[.pointer (some ⟨g, 0, none⟩)] w fun e w' => e = .returned (.tuple #[.agg #[.int .i64 0, .int .i64 0], .bool false]) ∧ Below w.heap.size w w' := by
  have HLN := Lib.hid (qlen_any g t v [] (w.alloc zeroTh) (h.next ((Below.refl w.heap.size w).alloc (Nat.le_refl _) zeroTh)))
  clear h
  go_enter Try.func22, Try.ntmps22
  go_wp2_with (go_at_call 24; (with_reducible refine HLN.out.mono ?_); rintro e w' ⟨rfl, rfl⟩)
  refine bodyPost_ret (v := .tuple #[.agg #[.int .i64 0, .int .i64 0], .bool false]) (by simp [results, Try.results22, go_sem]) rfl ⟨rfl, ?_⟩
  first | exact ((Below.refl _ _).alloc (Nat.le_refl _) _).alloc (by simp) _ | exact (Below.refl _ _).alloc (Nat.le_refl _) _
set_option maxHeartbeats 1000000 in
theorem peek_any (g t : Nat) (v : Value) (es : List En) (w : World) (h : Qu w g v es t) (hl : 0 < es.length) (hm : es.length ≤ 1000000000) :
    Calls Try.prog 22 #[.pointer (some ⟨g, 0, none⟩)] w fun e w' => e = .returned (.tuple #[.agg #[.int .i64 (ea es 0).n, .int .i64 (ea es 0).m], .bool true]) ∧ Below w.heap.size w w' := by
  obtain ⟨b, cap, rfl, hb⟩ := h.pos hl
  have h1 := h.next ((Below.refl w.heap.size w).alloc (Nat.le_refl _) zeroTh)
  have HLN := Lib.hid (qlen_any g t _ es (w.alloc zeroTh) h1)
  have a := h1.own.at_ hl
  have a0 := a.c0
  have a1 := a.c1
  have k1 := h1.dev.l
  have hgl := h.dev.lt
  have hbl := (h.own.lt b (by rfl)).2
  rw [Nat.zero_mul] at a0 a1
  clear h h1 a
  generalize es.length = n at HLN hl hm ⊢ k1
  have hne : ((n : Int) == 0) = false := by rw [beq_eq_false_iff_ne]; omega
  go_enter Try.func22, Try.ntmps22
  go_wp2_with (go_at_call 24; (with_reducible refine HLN.out.mono ?_); rintro e w' ⟨rfl, rfl⟩)
  refine bodyPost_ret (v := .tuple #[.agg #[.int .i64 (ea es 0).n, .int .i64 (ea es 0).m], .bool true]) (by simp [results, Try.results22, go_sem]) rfl ⟨rfl, ?_⟩
  first | exact ((Below.refl _ _).alloc (Nat.le_refl _) _).alloc (by simp) _ | exact (Below.refl _ _).alloc (Nat.le_refl _) _
theorem newq_nil (w : World) : Calls Try.prog 16 #[.nilFunc] w fun e w' => e = .returned (.pointer none) ∧ w = w' := by
  have q : ∀ w : World, (binOp .eql 46 .nilFunc .nilFunc).run Try.prog w = .ok (.bool true) w := fun _ => by kernel_rfl
  go_enter Try.func16, Try.ntmps16
  go_wp2
  go_ret
  exact ⟨rfl, rfl⟩
def NewQ (w : World) (e : Ending) (w' : World) : Prop := e = .returned (.pointer (some ⟨w.heap.size, 0, none⟩)) ∧ Qu w' w.heap.size (.slice none 0 0) [] 0 ∧ Below w.heap.size w w'
theorem newq_any (w : World) : Calls Try.prog 16 #[.func (Fn.func 17) #[] #[]] w (NewQ w) := by
  have q : ∀ w : World, (binOp .eql 46 (.func (Fn.func 17) #[] #[]) .nilFunc).run Try.prog w = .ok (.bool false) w := fun _ => by kernel_rfl
  have H : Hid (NewQ w (.returned (.pointer (some ⟨w.heap.size, 0, none⟩))) (w.alloc (.cells #[.func (Fn.func 17) #[] #[], .slice none 0 0, .int .u64 0] QuT))) :=
    Lib.hid ⟨rfl, ⟨heap_alloc_new w _, World.ownsRow_nil _ _ _ _⟩, (Below.refl _ _).alloc (Nat.le_refl _) _⟩
  go_enter Try.func16, Try.ntmps16
  go_wp2
  go_ret
  exact H.out
end Go.Proofs.Ytoioflbgmofgfab
