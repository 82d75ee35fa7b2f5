/-
  Package script: next.
-/
import Derived.Test.YtkgmggjlnibgmaaScU
import Derived.Test.YtkgmggjlnibgmaaScH
namespace Go.Proofs.Ytkgmggjlnibgmaa
open Go.RowKit Go
set_option linter.unusedVariables false
set_option linter.unusedSimpArgs false
set_option maxRecDepth 100000
theorem RowSt.setc {W : World} {g b i : Nat} {t : TypeId} {l : List Nat} {e : Int} (h : RowSt W g t l e) (hg : g < b) (x : Value) : RowSt (W.setCell ⟨b, i, none⟩ x) g t l e := by
  obtain ⟨A, c, h1, h2⟩ := h
  exact ⟨A, c, (Below.heap_setCell W ⟨b, i, none⟩ x g (by show g ≠ b; omega)).trans h1, h2.keep fun p hp => World.cell?_of_block (Below.heap_setCell W ⟨b, i, none⟩ x p.block (by show p.block ≠ b; omega))⟩
theorem err_tk (g : Nat) (l : List Nat) (e : Int) (W : World) (hst : RowSt W g 72 l e) : Calls Try.prog 43 #[.pointer (some ⟨g, 0, none⟩)] W fun E W' => E = .returned (.int .i64 e) ∧ W = W' := err_any g l e W hst
theorem tk_byte {l : List Nat} (h : byteL l) (e : Int) (n : Int) (m : Bool) : byteL (takeS l e n m).1 := by
  unfold takeS
  split
  · intro i; simp
  · split
    · intro i; simp
    · split
      · intro i; simp
      · exact take_byte h _
theorem tkN1_lt {l : List Nat} {e : Int} (h : byteL l) : tkN l e 1 < 256 := by
  by_cases he : e = 0
  · subst he
    by_cases hl : 1 ≤ l.length
    · rw [(tk_ok (by omega) (by omega) hl).1, num_take1 hl]; exact h 0
    · rw [(tk_no (by omega) (by omega) (by omega)).1]; omega
  · rw [(tk_err he).1]; omega
theorem gr_blk {w W : World} {g k : Nat} {o : Obj} (hg : w.grownBy W (some g)) (hk : w.heap[k]? = some o) (hne : k ≠ g) : W.heap[k]? = some o := (hg.block k (by rcases Nat.lt_or_ge k w.heap.size with h | h; exact h; rw [Array.getElem?_eq_none h] at hk; cases hk) (fun e => hne (Option.some.inj e))).trans hk
/-- the act that comes next, if there is one; the row behind it -/
def NextTo (w : World) (g : Nat) (l : List Nat) (e : Ending) (w' : World) : Prop :=
  ∃ (a : Ac) (A : Option Addr) (c : Nat) (l8 : List Nat) (ok : Bool), e = .returned (.tuple #[.agg #[.int .i64 a.kind, .bool a.yes, .int .i64 a.which, .int .i64 a.k, .int .i64 a.n, .int .i64 a.pos, .slice A a.b.length c], .bool ok]) ∧ w.grownBy w' (some g) ∧
    (ok = true → oneP l = some (a, l8) ∧ RowSt w' g 72 l8 0 ∧ Own w' w.heap.size (.slice A a.b.length c) a.b ∧ byteL a.b) ∧ (ok = false → oneP l = none)
theorem gr_set {w W : World} {g b i : Nat} (h : w.grownBy W (some g)) (hb : w.heap.size ≤ b) (v : Value) : w.grownBy (W.setCell ⟨b, i, none⟩ v) (some g) := only_set h (.inr hb) v
theorem only_setRow2 (w : World) (k : Nat) (cs : Array Value) : w.grownBy (w.setRow k cs) (some k) := ⟨rfl, rfl, rfl, by rw [size_setRow]; exact Nat.le_refl _, fun i _ hi => setRow_other _ _ _ _ (fun e => hi (by rw [e]))⟩
theorem gr_row2 {w W : World} {g k : Nat} (h : w.grownBy W (some g)) (hk : w.heap.size ≤ k) (cs : Array Value) : w.grownBy (W.setRow k cs) (some g) :=
  ⟨h.os, h.tape, h.output, by rw [size_setRow]; exact h.size, fun i hi hn => (setRow_other _ _ _ _ (by omega)).trans (h.block i hi hn)⟩
theorem gr_al {w W : World} {g : Nat} (h : w.grownBy W (some g)) (o : Obj) : w.grownBy (W.alloc o) (some g) := only_alloc h o
set_option maxHeartbeats 8000000 in
theorem next_any (g : Nat) (l : List Nat) (w : World) (hst : RowSt w g 72 l 0) (hby : byteL l) (hl9 : l.length < 1000000) :
    Calls Try.prog 29 #[.pointer (some ⟨g, 0, none⟩)] w (NextTo w g l) := by
  obtain ⟨W0, hW, hb0, hsz, hx, hr⟩ := two_blk w (.cells #[.pointer (some ⟨g, 0, none⟩)] 55) (.cells #[.int .i64 0, .bool false, .int .i64 0, .int .i64 0, .int .i64 0, .int .i64 0, .slice none 0 0] 28)
  have HGW : Hid (g < w.heap.size) := Lib.hid hst.lt
  have HX := Lib.hid hx
  have HR := Lib.hid hr
  have HSZ := Lib.hid hsz
  have HB0 := Lib.hid hb0
  have HG0 : Hid (w.grownBy W0 (some g)) := Lib.hid (only_below hb0)
  have HT0 : Hid (RowSt W0 g 72 l 0) := Lib.hid (hst.below hb0)
  have HBY := Lib.hid hby
  have HL9 := Lib.hid hl9
  have HW := Lib.hid hW.symm
  -- the numbers
  obtain ⟨l1, hl1⟩ : ∃ x, x = tkL l 0 1 := ⟨_, rfl⟩
  obtain ⟨e1, he1⟩ : ∃ x, x = tkE l 0 1 := ⟨_, rfl⟩
  obtain ⟨l2, hl2⟩ : ∃ x, x = tkL l1 e1 1 := ⟨_, rfl⟩
  obtain ⟨e2, he2⟩ : ∃ x, x = tkE l1 e1 1 := ⟨_, rfl⟩
  obtain ⟨l3, hl3⟩ : ∃ x, x = tkL l2 e2 2 := ⟨_, rfl⟩
  obtain ⟨e3, he3⟩ : ∃ x, x = tkE l2 e2 2 := ⟨_, rfl⟩
  obtain ⟨l4, hl4⟩ : ∃ x, x = tkL l3 e3 2 := ⟨_, rfl⟩
  obtain ⟨e4, he4⟩ : ∃ x, x = tkE l3 e3 2 := ⟨_, rfl⟩
  obtain ⟨l5, hl5⟩ : ∃ x, x = tkL l4 e4 2 := ⟨_, rfl⟩
  obtain ⟨e5, he5⟩ : ∃ x, x = tkE l4 e4 2 := ⟨_, rfl⟩
  obtain ⟨l6, hl6⟩ : ∃ x, x = tkL l5 e5 2 := ⟨_, rfl⟩
  obtain ⟨e6, he6⟩ : ∃ x, x = tkE l5 e5 2 := ⟨_, rfl⟩
  obtain ⟨l7, hl7⟩ : ∃ x, x = tkL l6 e6 2 := ⟨_, rfl⟩
  obtain ⟨e7, he7⟩ : ∃ x, x = tkE l6 e6 2 := ⟨_, rfl⟩
  have HSEQ := Lib.hid (seq_mk l l1 e1 l2 e2 l3 e3 l4 e4 l5 e5 l6 e6 l7 e7 hl1 he1 hl2 he2 hl3 he3 hl4 he4 hl5 he5 hl6 he6 hl7 he7)
  have b1 : byteL l1 := by rw [hl1]; exact tkL_byte hby _ _
  have b2 : byteL l2 := by rw [hl2]; exact tkL_byte b1 _ _
  have b3 : byteL l3 := by rw [hl3]; exact tkL_byte b2 _ _
  have b4 : byteL l4 := by rw [hl4]; exact tkL_byte b3 _ _
  have b5 : byteL l5 := by rw [hl5]; exact tkL_byte b4 _ _
  have b6 : byteL l6 := by rw [hl6]; exact tkL_byte b5 _ _
  have b7 : l7.length < 1000000 := by
    have q1 := tkL_len l 0 1; have q2 := tkL_len l1 e1 1; have q3 := tkL_len l2 e2 2; have q4 := tkL_len l3 e3 2; have q5 := tkL_len l4 e4 2; have q6 := tkL_len l5 e5 2; have q7 := tkL_len l6 e6 2
    rw [← hl1] at q1; rw [← hl2] at q2; rw [← hl3] at q3; rw [← hl4] at q4; rw [← hl5] at q5; rw [← hl6] at q6; rw [← hl7] at q7
    omega
  have HB7 := Lib.hid b7
  have HN0 : Hid (∀ W, RowSt W g 72 l 0 → Calls Try.prog 41 #[.pointer (some ⟨g, 0, none⟩), .int .i64 1] W (fun E W' => E = .returned (.int .u64 ((tkN l 0 1 : Nat) : Int)) ∧ RowSt W' g 72 l1 e1 ∧ W.grownBy W' (some g))) := Lib.hid (fun W h => by rw [hl1, he1]; exact num_tk g l 0 1 W h)
  have HN1 : Hid (∀ W, RowSt W g 72 l1 e1 → Calls Try.prog 41 #[.pointer (some ⟨g, 0, none⟩), .int .i64 1] W (fun E W' => E = .returned (.int .u64 ((tkN l1 e1 1 : Nat) : Int)) ∧ RowSt W' g 72 l2 e2 ∧ W.grownBy W' (some g))) := Lib.hid (fun W h => by rw [hl2, he2]; exact num_tk g l1 e1 1 W h)
  have HN2 : Hid (∀ W, RowSt W g 72 l2 e2 → W.heap[w.heap.size]? = some (.cells #[.pointer (some ⟨g, 0, none⟩)] 55 (0, 0)) → Calls Try.prog 40 #[.pointer (some ⟨w.heap.size, 0, none⟩)] W (fun E W' => E = .returned (.int .i64 ((tkN l2 e2 2 : Nat) : Int)) ∧ RowSt W' g 72 l3 e3 ∧ W.grownBy W' (some g))) := Lib.hid (fun W h hp => by rw [hl3, he3]; exact next1_any g w.heap.size l2 e2 W h b2 hp)
  have HN3 : Hid (∀ W, RowSt W g 72 l3 e3 → W.heap[w.heap.size]? = some (.cells #[.pointer (some ⟨g, 0, none⟩)] 55 (0, 0)) → Calls Try.prog 40 #[.pointer (some ⟨w.heap.size, 0, none⟩)] W (fun E W' => E = .returned (.int .i64 ((tkN l3 e3 2 : Nat) : Int)) ∧ RowSt W' g 72 l4 e4 ∧ W.grownBy W' (some g))) := Lib.hid (fun W h hp => by rw [hl4, he4]; exact next1_any g w.heap.size l3 e3 W h b3 hp)
  have HN4 : Hid (∀ W, RowSt W g 72 l4 e4 → W.heap[w.heap.size]? = some (.cells #[.pointer (some ⟨g, 0, none⟩)] 55 (0, 0)) → Calls Try.prog 40 #[.pointer (some ⟨w.heap.size, 0, none⟩)] W (fun E W' => E = .returned (.int .i64 ((tkN l4 e4 2 : Nat) : Int)) ∧ RowSt W' g 72 l5 e5 ∧ W.grownBy W' (some g))) := Lib.hid (fun W h hp => by rw [hl5, he5]; exact next1_any g w.heap.size l4 e4 W h b4 hp)
  have HN5 : Hid (∀ W, RowSt W g 72 l5 e5 → W.heap[w.heap.size]? = some (.cells #[.pointer (some ⟨g, 0, none⟩)] 55 (0, 0)) → Calls Try.prog 40 #[.pointer (some ⟨w.heap.size, 0, none⟩)] W (fun E W' => E = .returned (.int .i64 ((tkN l5 e5 2 : Nat) : Int)) ∧ RowSt W' g 72 l6 e6 ∧ W.grownBy W' (some g))) := Lib.hid (fun W h hp => by rw [hl6, he6]; exact next1_any g w.heap.size l5 e5 W h b5 hp)
  have HN6 : Hid (∀ W, RowSt W g 72 l6 e6 → W.heap[w.heap.size]? = some (.cells #[.pointer (some ⟨g, 0, none⟩)] 55 (0, 0)) → Calls Try.prog 40 #[.pointer (some ⟨w.heap.size, 0, none⟩)] W (fun E W' => E = .returned (.int .i64 ((tkN l6 e6 2 : Nat) : Int)) ∧ RowSt W' g 72 l7 e7 ∧ W.grownBy W' (some g))) := Lib.hid (fun W h hp => by rw [hl7, he7]; exact next1_any g w.heap.size l6 e6 W h b6 hp)
  have hk0 : tkN l 0 1 < 18446744073709551616 := by unfold tkN; exact num_take8_lt (fun i => (tk_byte (by first | exact hby | exact b0 | exact b1) _ _ _) i)
  have hk1 : tkN l1 e1 1 < 18446744073709551616 := by unfold tkN; exact num_take8_lt (fun i => (tk_byte (by first | exact hby | exact b1 | exact b1) _ _ _) i)
  have hk2 : tkN l2 e2 2 < 18446744073709551616 := by unfold tkN; exact num_take8_lt (fun i => (tk_byte (by first | exact hby | exact b2 | exact b1) _ _ _) i)
  have hk3 : tkN l3 e3 2 < 18446744073709551616 := by unfold tkN; exact num_take8_lt (fun i => (tk_byte (by first | exact hby | exact b3 | exact b1) _ _ _) i)
  have hk4 : tkN l4 e4 2 < 18446744073709551616 := by unfold tkN; exact num_take8_lt (fun i => (tk_byte (by first | exact hby | exact b4 | exact b1) _ _ _) i)
  have hk5 : tkN l5 e5 2 < 18446744073709551616 := by unfold tkN; exact num_take8_lt (fun i => (tk_byte (by first | exact hby | exact b5 | exact b1) _ _ _) i)
  have hk6 : tkN l6 e6 2 < 18446744073709551616 := by unfold tkN; exact num_take8_lt (fun i => (tk_byte (by first | exact hby | exact b6 | exact b1) _ _ _) i)
  have hx0 : tkN l 0 1 < 256 := tkN1_lt hby
  generalize tkN l 0 1 = x0 at *
  generalize tkN l1 e1 1 = x1 at *
  generalize tkN l2 e2 2 = y1 at *
  generalize tkN l3 e3 2 = y2 at *
  generalize tkN l4 e4 2 = y3 at *
  generalize tkN l5 e5 2 = y4 at *
  generalize tkN l6 e6 2 = nn at *
  clear hl1 he1 hl2 he2 hl3 he3 hl4 he4 hl5 he5 hl6 he6 hl7 he7 b1 b2 b3 b4 b5 b6 b7 hst hby hl9 hW hx hr hsz hb0
  obtain ⟨yb, hyb⟩ : ∃ yb : Bool, yb = (x1 == 1) := ⟨_, rfl⟩
  have hybI : ((x1 : Int) == 1) = yb := by rw [hyb, Bool.eq_iff_iff, beq_iff_eq, beq_iff_eq]; omega
  have HYB := Lib.hid hyb
  have wx0 : IntKind.i64.wrap (x0 : Int) = (x0 : Int) := IntWalk.i64_in _ (by omega)
  have HGR : Hid (g ≠ w.heap.size ∧ g ≠ w.heap.size + 1 ∧ g < w.heap.size) := Lib.hid (by have := HGW.out; omega)
  have c0 : W0.cell? ⟨w.heap.size, 0, none⟩ = some (.pointer (some ⟨g, 0, none⟩)) := blk_cell HX.out 0
  clear hyb hk0 hx0
  go_enter Try.func29, Try.ntmps29
  go_upto_region 1 with (fail)
  rw [HW.out]
  go_upto_region 2 with (fail)
  clear c0
  refine wp_region_F (S := (fun w' => w'.cell? ⟨w.heap.size, 0, none⟩ = some (.pointer (some ⟨g, 0, none⟩)))) [] (by kernel_rfl) (blk_cell HX.out 0) (fun hHeld => ?_)
  refine wpAnyF_take (i := 0) (oi := _) (v := ?_) rfl (by kernel_rfl) (by kernel_rfl) (by kernel_rfl) (by kernel_rfl) (fun _ _ _ h => h) (Or.inl ⟨by rfl, ?_⟩) (by assumption) ?_
  rotate_left 1
  · intro w hSw
    (try dsimp only at hSw)
    (first | (go_simp; done) | (go_simp; with_reducible rfl))
  (try simp only [Act.put, List.getElem_toArray, List.getElem_cons_succ, List.getElem_cons_zero, List.setIfInBounds_toArray, List.set_cons_zero, List.set_cons_succ])
  refine wpAnyF_take (i := 2) (oi := _) (v := ?_) rfl (by kernel_rfl) (by kernel_rfl) (by kernel_rfl) (by kernel_rfl) (fun _ _ _ h => h) (Or.inl ⟨by rfl, ?_⟩) (by assumption) ?_
  rotate_left 1
  · intro w hSw
    (try dsimp only at hSw)
    (first | (go_simp; done) | (go_simp; with_reducible rfl))
  (try simp only [Act.put, List.getElem_toArray, List.getElem_cons_succ, List.getElem_cons_zero, List.setIfInBounds_toArray, List.set_cons_zero, List.set_cons_succ])
  refine wpAnyF_ready (rs := [1]) (by kernel_rfl) (by simp) ?_
  refine AllReadyF.cons (o := _) rfl (fun K hK => ?_) AllReadyF.nil
  go_simp
  refine (HN0.out _ HT0.out.dr).mono ?_
  rintro e w1 ⟨rfl, ht1, hg1⟩
  have HT1 := Lib.hid ht1
  have HG1 : Hid (w.grownBy w1 (some g)) := Lib.hid (only_trans (only_drew HG0.out) hg1)
  have HX1 : Hid (w1.heap[w.heap.size]? = some (.cells #[.pointer (some ⟨g, 0, none⟩)] 55 (0, 0))) := Lib.hid (gr_blk hg1 HX.out (by have := HGR.out; omega))
  have HR1 : Hid (w1.heap[w.heap.size + 1]? = some (.cells #[.int .i64 0, .bool false, .int .i64 0, .int .i64 0, .int .i64 0, .int .i64 0, .slice none 0 0] 28 (0, 0))) := Lib.hid (gr_blk hg1 HR.out (by have := HGR.out; omega))
  clear ht1 hg1
  refine hK.out _ _ (blk_cell HX1.out 0) (fun hHeld1 => ?_)
  clear hK K
  (try simp only [Act.put, List.getElem_toArray, List.getElem_cons_succ, List.getElem_cons_zero, List.setIfInBounds_toArray, List.set_cons_zero, List.set_cons_succ])
  refine wpAnyF_ready (rs := [3]) (by kernel_rfl) (by simp) ?_
  refine AllReadyF.cons (o := _) rfl (fun K hK => ?_) AllReadyF.nil
  go_simp
  refine (HN1.out _ HT1.out).mono ?_
  rintro e w2 ⟨rfl, ht2, hg2⟩
  have HT2 := Lib.hid ht2
  have HG2 : Hid (w.grownBy w2 (some g)) := Lib.hid (only_trans HG1.out hg2)
  have HX2 : Hid (w2.heap[w.heap.size]? = some (.cells #[.pointer (some ⟨g, 0, none⟩)] 55 (0, 0))) := Lib.hid (gr_blk hg2 HX1.out (by have := HGR.out; omega))
  have HR2 : Hid (w2.heap[w.heap.size + 1]? = some (.cells #[.int .i64 0, .bool false, .int .i64 0, .int .i64 0, .int .i64 0, .int .i64 0, .slice none 0 0] 28 (0, 0))) := Lib.hid (gr_blk hg2 HR1.out (by have := HGR.out; omega))
  clear ht2 hg2
  refine hK.out _ _ (blk_cell HX2.out 0) (fun hHeld3 => ?_)
  clear hK K
  (try simp only [Act.put, List.getElem_toArray, List.getElem_cons_succ, List.getElem_cons_zero, List.setIfInBounds_toArray, List.set_cons_zero, List.set_cons_succ])
  refine wpAnyF_take (i := 4) (oi := _) (v := ?_) rfl (by kernel_rfl) (by kernel_rfl) (by kernel_rfl) (by kernel_rfl) (fun _ _ _ h => h) (Or.inl ⟨by rfl, ?_⟩) (by assumption) ?_
  rotate_left 1
  · intro w hSw
    (try dsimp only at hSw)
    (first | (go_simp; done) | (go_simp; with_reducible rfl))
  (try simp only [Act.put, List.getElem_toArray, List.getElem_cons_succ, List.getElem_cons_zero, List.setIfInBounds_toArray, List.set_cons_zero, List.set_cons_succ])
  refine wpAnyF_take (i := 5) (oi := _) (v := ?_) rfl (by kernel_rfl) (by kernel_rfl) (by kernel_rfl) (by kernel_rfl) (fun _ _ _ h => h) (Or.inl ⟨by rfl, ?_⟩) (by assumption) ?_
  rotate_left 1
  · intro w hSw
    (try dsimp only at hSw)
    (first | (go_simp; done) | (go_simp; with_reducible rfl))
  (try simp only [Act.put, List.getElem_toArray, List.getElem_cons_succ, List.getElem_cons_zero, List.setIfInBounds_toArray, List.set_cons_zero, List.set_cons_succ])
  refine wpAnyF_done (by kernel_rfl) ?_ _
  go_upto_region 4 with (fail)
  have HSZ2 : Hid (g < w2.heap.size ∧ w.heap.size < w2.heap.size ∧ w.heap.size + 1 < w2.heap.size ∧ w.heap.size ≤ w2.heap.size) := Lib.hid ⟨HT2.out.lt, blk_lt HX2.out, blk_lt HR2.out, HG2.out.size⟩
  have HA3 : Hid ((w2.alloc (.cells #[.int .i64 (x0 : Int), .bool yb, .int .i64 0, .int .i64 0, .int .i64 0, .int .i64 0, .slice none 0 0] 28)).heap[w2.heap.size]? = some (.cells #[.int .i64 (x0 : Int), .bool yb, .int .i64 0, .int .i64 0, .int .i64 0, .int .i64 0, .slice none 0 0] 28 (0, 0))) := Lib.hid (heap_alloc_new _ _)
  have HT3 : Hid (RowSt (w2.alloc (.cells #[.int .i64 (x0 : Int), .bool yb, .int .i64 0, .int .i64 0, .int .i64 0, .int .i64 0, .slice none 0 0] 28)) g 72 l2 e2) := Lib.hid (HT2.out.below (al1 _ _))
  have HG3 : Hid (w.grownBy (w2.alloc (.cells #[.int .i64 (x0 : Int), .bool yb, .int .i64 0, .int .i64 0, .int .i64 0, .int .i64 0, .slice none 0 0] 28)) (some g)) := Lib.hid (gr_al HG2.out _)
  have HX3 : Hid ((w2.alloc (.cells #[.int .i64 (x0 : Int), .bool yb, .int .i64 0, .int .i64 0, .int .i64 0, .int .i64 0, .slice none 0 0] 28)).heap[w.heap.size]? = some (.cells #[.pointer (some ⟨g, 0, none⟩)] 55 (0, 0))) := Lib.hid (blk_alloc HX2.out _)
  have HR3 : Hid ((w2.alloc (.cells #[.int .i64 (x0 : Int), .bool yb, .int .i64 0, .int .i64 0, .int .i64 0, .int .i64 0, .slice none 0 0] 28)).heap[w.heap.size + 1]? = some (.cells #[.int .i64 0, .bool false, .int .i64 0, .int .i64 0, .int .i64 0, .int .i64 0, .slice none 0 0] 28 (0, 0))) := Lib.hid (blk_alloc HR2.out _)
  generalize w2.alloc (.cells #[.int .i64 (x0 : Int), .bool yb, .int .i64 0, .int .i64 0, .int .i64 0, .int .i64 0, .slice none 0 0] 28) = w3 at *
  clear HT2 HG2 HX2 HR2 HX1 HR1 HT1 HG1
  go_wp2_with fail
  refine (HN2.out _ HT3.out HX3.out).mono ?_
  rintro e w4 ⟨rfl, ht4, hg4⟩
  have HT4 := Lib.hid ht4
  have HG4 : Hid (w.grownBy w4 (some g)) := Lib.hid (only_trans HG3.out hg4)
  have HX4 : Hid (w4.heap[w.heap.size]? = some (.cells #[.pointer (some ⟨g, 0, none⟩)] 55 (0, 0))) := Lib.hid (gr_blk hg4 HX3.out (by have := HGR.out; omega))
  have HR4 : Hid (w4.heap[w.heap.size + 1]? = some (.cells #[.int .i64 0, .bool false, .int .i64 0, .int .i64 0, .int .i64 0, .int .i64 0, .slice none 0 0] 28 (0, 0))) := Lib.hid (gr_blk hg4 HR3.out (by have := HGR.out; omega))
  have HA4 : Hid (w4.heap[w2.heap.size]? = some (.cells #[.int .i64 (x0 : Int), .bool yb, .int .i64 0, .int .i64 0, .int .i64 0, .int .i64 0, .slice none 0 0] 28 (0, 0))) := Lib.hid (gr_blk hg4 HA3.out (by have := HSZ2.out; omega))
  clear ht4 hg4 HT3 HG3 HX3 HR3 HA3
  go_wp2_with fail
  refine (HN3.out _ HT4.out HX4.out).mono ?_
  rintro e w5 ⟨rfl, ht5, hg5⟩
  have HT5 := Lib.hid ht5
  have HG5 : Hid (w.grownBy w5 (some g)) := Lib.hid (only_trans HG4.out hg5)
  have HX5 : Hid (w5.heap[w.heap.size]? = some (.cells #[.pointer (some ⟨g, 0, none⟩)] 55 (0, 0))) := Lib.hid (gr_blk hg5 HX4.out (by have := HGR.out; omega))
  have HR5 : Hid (w5.heap[w.heap.size + 1]? = some (.cells #[.int .i64 0, .bool false, .int .i64 0, .int .i64 0, .int .i64 0, .int .i64 0, .slice none 0 0] 28 (0, 0))) := Lib.hid (gr_blk hg5 HR4.out (by have := HGR.out; omega))
  have HA5 : Hid (w5.heap[w2.heap.size]? = some (.cells #[.int .i64 (x0 : Int), .bool yb, .int .i64 0, .int .i64 0, .int .i64 0, .int .i64 0, .slice none 0 0] 28 (0, 0))) := Lib.hid (gr_blk hg5 HA4.out (by have := HSZ2.out; omega))
  clear ht5 hg5 HT4 HG4 HX4 HR4 HA4
  go_wp2_with fail
  refine (HN4.out _ HT5.out HX5.out).mono ?_
  rintro e w6 ⟨rfl, ht6, hg6⟩
  have HT6 := Lib.hid ht6
  have HG6 : Hid (w.grownBy w6 (some g)) := Lib.hid (only_trans HG5.out hg6)
  have HX6 : Hid (w6.heap[w.heap.size]? = some (.cells #[.pointer (some ⟨g, 0, none⟩)] 55 (0, 0))) := Lib.hid (gr_blk hg6 HX5.out (by have := HGR.out; omega))
  have HR6 : Hid (w6.heap[w.heap.size + 1]? = some (.cells #[.int .i64 0, .bool false, .int .i64 0, .int .i64 0, .int .i64 0, .int .i64 0, .slice none 0 0] 28 (0, 0))) := Lib.hid (gr_blk hg6 HR5.out (by have := HGR.out; omega))
  have HA6 : Hid (w6.heap[w2.heap.size]? = some (.cells #[.int .i64 (x0 : Int), .bool yb, .int .i64 0, .int .i64 0, .int .i64 0, .int .i64 0, .slice none 0 0] 28 (0, 0))) := Lib.hid (gr_blk hg6 HA5.out (by have := HSZ2.out; omega))
  clear ht6 hg6 HT5 HG5 HX5 HR5 HA5
  go_wp2_with fail
  refine (HN5.out _ HT6.out HX6.out).mono ?_
  rintro e w7 ⟨rfl, ht7, hg7⟩
  have HT7 := Lib.hid ht7
  have HG7 : Hid (w.grownBy w7 (some g)) := Lib.hid (only_trans HG6.out hg7)
  have HX7 : Hid (w7.heap[w.heap.size]? = some (.cells #[.pointer (some ⟨g, 0, none⟩)] 55 (0, 0))) := Lib.hid (gr_blk hg7 HX6.out (by have := HGR.out; omega))
  have HR7 : Hid (w7.heap[w.heap.size + 1]? = some (.cells #[.int .i64 0, .bool false, .int .i64 0, .int .i64 0, .int .i64 0, .int .i64 0, .slice none 0 0] 28 (0, 0))) := Lib.hid (gr_blk hg7 HR6.out (by have := HGR.out; omega))
  have HA7 : Hid (w7.heap[w2.heap.size]? = some (.cells #[.int .i64 (x0 : Int), .bool yb, .int .i64 0, .int .i64 0, .int .i64 0, .int .i64 0, .slice none 0 0] 28 (0, 0))) := Lib.hid (gr_blk hg7 HA6.out (by have := HSZ2.out; omega))
  clear ht7 hg7 HT6 HG6 HX6 HR6 HA6
  have a2 : w7.cell? ⟨w2.heap.size, 2, none⟩ = some (.int .i64 0) := blk_cell HA7.out 2
  have a3 : w7.cell? ⟨w2.heap.size, 3, none⟩ = some (.int .i64 0) := blk_cell HA7.out 3
  have a4 : w7.cell? ⟨w2.heap.size, 4, none⟩ = some (.int .i64 0) := blk_cell HA7.out 4
  have a5 : w7.cell? ⟨w2.heap.size, 5, none⟩ = some (.int .i64 0) := blk_cell HA7.out 5
  have f2 : w7.frozen? ⟨w2.heap.size, 2, none⟩ = false := blk_free HA7.out 2
  have f3 : w7.frozen? ⟨w2.heap.size, 3, none⟩ = false := blk_free HA7.out 3
  have f4 : w7.frozen? ⟨w2.heap.size, 4, none⟩ = false := blk_free HA7.out 4
  have f5 : w7.frozen? ⟨w2.heap.size, 5, none⟩ = false := blk_free HA7.out 5
  go_upto_region 5 with (fail)
  clear a2 a3 a4 a5 f2 f3 f4 f5
  have HA8 : Hid (((((w7.setCell ⟨w2.heap.size, 2, none⟩ (.int .i64 (y1 : Int))).setCell ⟨w2.heap.size, 3, none⟩ (.int .i64 (y2 : Int))).setCell ⟨w2.heap.size, 4, none⟩ (.int .i64 (y3 : Int))).setCell ⟨w2.heap.size, 5, none⟩ (.int .i64 (y4 : Int))).heap[w2.heap.size]? = some (.cells #[.int .i64 (x0 : Int), .bool yb, .int .i64 (y1 : Int), .int .i64 (y2 : Int), .int .i64 (y3 : Int), .int .i64 (y4 : Int), .slice none 0 0] 28 (0, 0))) := Lib.hid (by
    have h := blk_set (blk_set (blk_set (blk_set HA7.out 2 (.int .i64 (y1 : Int))) 3 (.int .i64 (y2 : Int))) 4 (.int .i64 (y3 : Int))) 5 (.int .i64 (y4 : Int))
    simpa using h)
  have HT8 : Hid (RowSt ((((w7.setCell ⟨w2.heap.size, 2, none⟩ (.int .i64 (y1 : Int))).setCell ⟨w2.heap.size, 3, none⟩ (.int .i64 (y2 : Int))).setCell ⟨w2.heap.size, 4, none⟩ (.int .i64 (y3 : Int))).setCell ⟨w2.heap.size, 5, none⟩ (.int .i64 (y4 : Int))) g 72 l6 e6) := Lib.hid ((((HT7.out.setc HSZ2.out.1 _).setc HSZ2.out.1 _).setc HSZ2.out.1 _).setc HSZ2.out.1 _)
  have HG8 : Hid (w.grownBy ((((w7.setCell ⟨w2.heap.size, 2, none⟩ (.int .i64 (y1 : Int))).setCell ⟨w2.heap.size, 3, none⟩ (.int .i64 (y2 : Int))).setCell ⟨w2.heap.size, 4, none⟩ (.int .i64 (y3 : Int))).setCell ⟨w2.heap.size, 5, none⟩ (.int .i64 (y4 : Int))) (some g)) := Lib.hid (gr_set (gr_set (gr_set (gr_set HG7.out HSZ2.out.2.2.2 _) HSZ2.out.2.2.2 _) HSZ2.out.2.2.2 _) HSZ2.out.2.2.2 _)
  have HX8 : Hid (((((w7.setCell ⟨w2.heap.size, 2, none⟩ (.int .i64 (y1 : Int))).setCell ⟨w2.heap.size, 3, none⟩ (.int .i64 (y2 : Int))).setCell ⟨w2.heap.size, 4, none⟩ (.int .i64 (y3 : Int))).setCell ⟨w2.heap.size, 5, none⟩ (.int .i64 (y4 : Int))).heap[w.heap.size]? = some (.cells #[.pointer (some ⟨g, 0, none⟩)] 55 (0, 0))) := Lib.hid (by
    have hne := HSZ2.out.2.1
    exact blk_far (blk_far (blk_far (blk_far HX7.out (p := ⟨w2.heap.size, 2, none⟩) (by show w.heap.size ≠ w2.heap.size; omega) _) (p := ⟨w2.heap.size, 3, none⟩) (by show w.heap.size ≠ w2.heap.size; omega) _) (p := ⟨w2.heap.size, 4, none⟩) (by show w.heap.size ≠ w2.heap.size; omega) _) (p := ⟨w2.heap.size, 5, none⟩) (by show w.heap.size ≠ w2.heap.size; omega) _)
  have HR8 : Hid (((((w7.setCell ⟨w2.heap.size, 2, none⟩ (.int .i64 (y1 : Int))).setCell ⟨w2.heap.size, 3, none⟩ (.int .i64 (y2 : Int))).setCell ⟨w2.heap.size, 4, none⟩ (.int .i64 (y3 : Int))).setCell ⟨w2.heap.size, 5, none⟩ (.int .i64 (y4 : Int))).heap[w.heap.size + 1]? = some (.cells #[.int .i64 0, .bool false, .int .i64 0, .int .i64 0, .int .i64 0, .int .i64 0, .slice none 0 0] 28 (0, 0))) := Lib.hid (by
    have hne := HSZ2.out.2.2.1
    exact blk_far (blk_far (blk_far (blk_far HR7.out (p := ⟨w2.heap.size, 2, none⟩) (by show w.heap.size + 1 ≠ w2.heap.size; omega) _) (p := ⟨w2.heap.size, 3, none⟩) (by show w.heap.size + 1 ≠ w2.heap.size; omega) _) (p := ⟨w2.heap.size, 4, none⟩) (by show w.heap.size + 1 ≠ w2.heap.size; omega) _) (p := ⟨w2.heap.size, 5, none⟩) (by show w.heap.size + 1 ≠ w2.heap.size; omega) _)
  generalize (((w7.setCell ⟨w2.heap.size, 2, none⟩ (.int .i64 (y1 : Int))).setCell ⟨w2.heap.size, 3, none⟩ (.int .i64 (y2 : Int))).setCell ⟨w2.heap.size, 4, none⟩ (.int .i64 (y3 : Int))).setCell ⟨w2.heap.size, 5, none⟩ (.int .i64 (y4 : Int)) = w8 at *
  clear HT7 HG7 HX7 HR7 HA7
  go_wp2_with fail
  refine (HN6.out _ HT8.out HX8.out).mono ?_
  rintro e w9 ⟨rfl, ht9, hg9⟩
  have HT9 := Lib.hid ht9
  have HG9 : Hid (w.grownBy w9 (some g)) := Lib.hid (only_trans HG8.out hg9)
  have HX9 : Hid (w9.heap[w.heap.size]? = some (.cells #[.pointer (some ⟨g, 0, none⟩)] 55 (0, 0))) := Lib.hid (gr_blk hg9 HX8.out (by have := HGR.out; omega))
  have HR9 : Hid (w9.heap[w.heap.size + 1]? = some (.cells #[.int .i64 0, .bool false, .int .i64 0, .int .i64 0, .int .i64 0, .int .i64 0, .slice none 0 0] 28 (0, 0))) := Lib.hid (gr_blk hg9 HR8.out (by have := HGR.out; omega))
  have HA9 : Hid (w9.heap[w2.heap.size]? = some (.cells #[.int .i64 (x0 : Int), .bool yb, .int .i64 (y1 : Int), .int .i64 (y2 : Int), .int .i64 (y3 : Int), .int .i64 (y4 : Int), .slice none 0 0] 28 (0, 0))) := Lib.hid (gr_blk hg9 HA8.out (by have := HSZ2.out; omega))
  clear ht9 hg9 HT8 HG8 HX8 HR8 HA8
  by_cases hn0 : nn = 0
  · subst hn0
    obtain ⟨A5, hA5⟩ : ∃ A5 : Option Addr, A5 = none := ⟨_, rfl⟩
    obtain ⟨m5, hm5⟩ : ∃ m5 : Nat, m5 = 0 := ⟨_, rfl⟩
    obtain ⟨c5, hc5⟩ : ∃ c5 : Nat, c5 = 0 := ⟨_, rfl⟩
    obtain ⟨bs, hbs⟩ : ∃ bs : List Nat, bs = [] := ⟨_, rfl⟩
    obtain ⟨l8, hl8⟩ : ∃ l8, l8 = l7 := ⟨_, rfl⟩
    obtain ⟨e8, he8'⟩ : ∃ e8, e8 = e7 := ⟨_, rfl⟩
    have HRR : Hid ((0 = 0 ∧ bs = [] ∧ l8 = l7 ∧ e8 = e7) ∨ (0 < 0 ∧ (bs, l8, e8) = takeS l7 e7 ((0 : Nat) : Int) true)) := Lib.hid (.inl ⟨rfl, hbs, hl8, he8'⟩)
    have HBS5 : Hid (bs.length = m5) := Lib.hid (by rw [hbs, hm5]; rfl)
    have HBYf : Hid (byteL bs) := Lib.hid (by rw [hbs]; intro i; simp)
    have HOT : Hid (∀ k, (Value.slice A5 m5 c5).ownBlock = some k → k ≠ w.heap.size + 1) := Lib.hid (fun k hk => by rw [hA5] at hk; cases hk)
    obtain ⟨wf, hwf⟩ : ∃ wf, wf = w9 := ⟨_, rfl⟩
    have HTf : Hid (RowSt wf g 72 l8 e8) := Lib.hid (by rw [hl8, he8', hwf]; exact HT9.out)
    have HGf : Hid (w.grownBy wf (some g)) := Lib.hid (by rw [hwf]; exact HG9.out)
    have HXf : Hid (wf.heap[w.heap.size]? = some (.cells #[.pointer (some ⟨g, 0, none⟩)] 55 (0, 0))) := Lib.hid (by rw [hwf]; exact HX9.out)
    have HRf : Hid (wf.heap[w.heap.size + 1]? = some (.cells #[.int .i64 0, .bool false, .int .i64 0, .int .i64 0, .int .i64 0, .int .i64 0, .slice none 0 0] 28 (0, 0))) := Lib.hid (by rw [hwf]; exact HR9.out)
    have HAf : Hid (wf.heap[w2.heap.size]? = some (.cells #[.int .i64 (x0 : Int), .bool yb, .int .i64 (y1 : Int), .int .i64 (y2 : Int), .int .i64 (y3 : Int), .int .i64 (y4 : Int), .slice A5 m5 c5] 28 (0, 0))) := Lib.hid (by rw [hwf, hA5, hm5, hc5]; exact HA9.out)
    have HOf : Hid (Own wf w.heap.size (.slice A5 m5 c5) bs) := Lib.hid (by rw [hA5, hm5, hc5, hbs]; exact Own.nil _ _)
    have HBSw : Hid (BS wf.drew wf.drew.heap.size A5 m5 c5 bs) := Lib.hid (by rw [hA5, hm5, hc5, hbs]; exact BS.nil _ _)
    have HSQ1 : Hid ((x1 ≤ 1 ∧ e8 = 0 ∧ mayA (⟨(x0 : Nat), yb, (y1 : Nat), (y2 : Nat), (y3 : Nat), (y4 : Nat), bs⟩ : Ac) = true) → oneP l = some ((⟨(x0 : Nat), yb, (y1 : Nat), (y2 : Nat), (y3 : Nat), (y4 : Nat), bs⟩ : Ac), l8)) := Lib.hid (by rw [HYB.out]; exact (seq_one HSEQ.out HRR.out).1)
    have HSQ2 : Hid (¬ (x1 ≤ 1 ∧ e8 = 0 ∧ mayA (⟨(x0 : Nat), yb, (y1 : Nat), (y2 : Nat), (y3 : Nat), (y4 : Nat), bs⟩ : Ac) = true) → oneP l = none) := Lib.hid (by rw [HYB.out]; exact (seq_one HSEQ.out HRR.out).2)
    have HFNO : Hid (∀ W, w.grownBy W (some g) → oneP l = none → NextTo w g l (.returned (.tuple #[.agg #[.int .i64 (x0 : Int), .bool yb, .int .i64 (y1 : Int), .int .i64 (y2 : Int), .int .i64 (y3 : Int), .int .i64 (y4 : Int), .slice A5 m5 c5], .bool false])) (W.setRow (w.heap.size + 1) #[.int .i64 (x0 : Int), .bool yb, .int .i64 (y1 : Int), .int .i64 (y2 : Int), .int .i64 (y3 : Int), .int .i64 (y4 : Int), .slice A5 m5 c5])) := Lib.hid (fun W hW ho => ⟨(⟨(x0 : Nat), yb, (y1 : Nat), (y2 : Nat), (y3 : Nat), (y4 : Nat), bs⟩ : Ac), A5, c5, l8, false, by rw [show (⟨(x0 : Nat), yb, (y1 : Nat), (y2 : Nat), (y3 : Nat), (y4 : Nat), bs⟩ : Ac).b.length = m5 from HBS5.out], gr_row2 hW (by omega) _, fun h => (by cases h), fun _ => ho⟩)
    go_upto_region 8 with (fail)
    rw [← hwf]
    clear HT9 HG9 HX9 HR9 HA9 hA5 hm5 hc5 hbs hl8 he8' hwf
    clear HN0 HN1 HN2 HN3 HN4 HN5 HN6 HSEQ HRR HBY
    by_cases hx1 : 1 < x1
    · have hx1I : ¬ (x1 : Int) ≤ 1 := by omega
      have HNO := Lib.hid (HSQ2.out (fun h => by have := h.1; omega))
      clear HSQ1 HSQ2 hx1
      refine wp_region_F (S := (fun w' => w'.cell? ⟨w.heap.size, 0, none⟩ = some (.pointer (some ⟨g, 0, none⟩)) ∧ w'.cell? ⟨w2.heap.size, 0, none⟩ = some (.int .i64 (x0 : Int)) ∧ w'.cell? ⟨w2.heap.size, 1, none⟩ = some (.bool yb) ∧ w'.cell? ⟨w2.heap.size, 2, none⟩ = some (.int .i64 (y1 : Int)) ∧ w'.cell? ⟨w2.heap.size, 3, none⟩ = some (.int .i64 (y2 : Int)) ∧ w'.cell? ⟨w2.heap.size, 4, none⟩ = some (.int .i64 (y3 : Int)) ∧ w'.cell? ⟨w2.heap.size, 5, none⟩ = some (.int .i64 (y4 : Int)) ∧ w'.cell? ⟨w2.heap.size, 6, none⟩ = some (.slice A5 m5 c5))) [] (by kernel_rfl) (⟨blk_cell HXf.out 0, blk_cell HAf.out 0, blk_cell HAf.out 1, blk_cell HAf.out 2, blk_cell HAf.out 3, blk_cell HAf.out 4, blk_cell HAf.out 5, blk_cell HAf.out 6⟩) (fun hHeld => ?_)
      refine wpAnyF_take (i := 0) (oi := _) (v := ?_) rfl (by kernel_rfl) (by kernel_rfl) (by kernel_rfl) (by kernel_rfl) (fun _ _ _ h => h) (Or.inl ⟨by rfl, ?_⟩) (by assumption) ?_
      rotate_left 1
      · intro w hSw
        (try dsimp only at hSw)
        (first | (go_simp; done) | (go_simp; with_reducible rfl))
      (try simp only [Act.put, List.getElem_toArray, List.getElem_cons_succ, List.getElem_cons_zero, List.setIfInBounds_toArray, List.set_cons_zero, List.set_cons_succ])
      refine wpAnyF_take (i := 1) (oi := _) (v := ?_) rfl (by kernel_rfl) (by kernel_rfl) (by kernel_rfl) (by kernel_rfl) (fun _ _ _ h => h) (Or.inl ⟨by rfl, ?_⟩) (by assumption) ?_
      rotate_left 1
      · intro w hSw
        (try dsimp only at hSw)
        (first | (go_simp; done) | (go_simp; with_reducible rfl))
      (try simp only [Act.put, List.getElem_toArray, List.getElem_cons_succ, List.getElem_cons_zero, List.setIfInBounds_toArray, List.set_cons_zero, List.set_cons_succ])
      refine wpAnyF_take (i := 2) (oi := _) (v := ?_) rfl (by kernel_rfl) (by kernel_rfl) (by kernel_rfl) (by kernel_rfl) (fun _ _ _ h => h) (Or.inl ⟨by rfl, ?_⟩) (by assumption) ?_
      rotate_left 1
      · intro w hSw
        (try dsimp only at hSw)
        (first | (go_simp; done) | (go_simp; with_reducible rfl))
      (try simp only [Act.put, List.getElem_toArray, List.getElem_cons_succ, List.getElem_cons_zero, List.setIfInBounds_toArray, List.set_cons_zero, List.set_cons_succ])
      refine wpAnyF_take (i := 3) (oi := _) (v := ?_) rfl (by kernel_rfl) (by kernel_rfl) (by kernel_rfl) (by kernel_rfl) (fun _ _ _ h => h) (Or.inl ⟨by rfl, ?_⟩) (by assumption) ?_
      rotate_left 1
      · intro w hSw
        (try dsimp only at hSw)
        (first | (go_simp; done) | (go_simp; with_reducible rfl))
      (try simp only [Act.put, List.getElem_toArray, List.getElem_cons_succ, List.getElem_cons_zero, List.setIfInBounds_toArray, List.set_cons_zero, List.set_cons_succ])
      refine wpAnyF_take (i := 4) (oi := _) (v := undef) rfl (by kernel_rfl) (by kernel_rfl) (by kernel_rfl) (by kernel_rfl) (fun _ _ _ h => h) (Or.inr ⟨by rfl, rfl⟩) (by assumption) ?_
      (try simp only [Act.put, List.getElem_toArray, List.getElem_cons_succ, List.getElem_cons_zero, List.setIfInBounds_toArray, List.set_cons_zero, List.set_cons_succ])
      refine wpAnyF_take (i := 5) (oi := _) (v := undef) rfl (by kernel_rfl) (by kernel_rfl) (by kernel_rfl) (by kernel_rfl) (fun _ _ _ h => h) (Or.inr ⟨by rfl, rfl⟩) (by assumption) ?_
      (try simp only [Act.put, List.getElem_toArray, List.getElem_cons_succ, List.getElem_cons_zero, List.setIfInBounds_toArray, List.set_cons_zero, List.set_cons_succ])
      refine wpAnyF_take (i := 6) (oi := _) (v := undef) rfl (by kernel_rfl) (by kernel_rfl) (by kernel_rfl) (by kernel_rfl) (fun _ _ _ h => h) (Or.inr ⟨by rfl, rfl⟩) (by assumption) ?_
      (try simp only [Act.put, List.getElem_toArray, List.getElem_cons_succ, List.getElem_cons_zero, List.setIfInBounds_toArray, List.set_cons_zero, List.set_cons_succ])
      refine wpAnyF_take (i := 7) (oi := _) (v := ?_) rfl (by kernel_rfl) (by kernel_rfl) (by kernel_rfl) (by kernel_rfl) (fun _ _ _ h => h) (Or.inl ⟨by rfl, ?_⟩) (by assumption) ?_
      rotate_left 1
      · intro w hSw
        (try dsimp only at hSw)
        (first | (go_simp; done) | (go_simp; with_reducible rfl))
      (try simp only [Act.put, List.getElem_toArray, List.getElem_cons_succ, List.getElem_cons_zero, List.setIfInBounds_toArray, List.set_cons_zero, List.set_cons_succ])
      refine wpAnyF_take (i := 8) (oi := _) (v := ?_) rfl (by kernel_rfl) (by kernel_rfl) (by kernel_rfl) (by kernel_rfl) (fun _ _ _ h => h) (Or.inl ⟨by rfl, ?_⟩) (by assumption) ?_
      rotate_left 1
      · intro w hSw
        (try dsimp only at hSw)
        (first | (go_simp; done) | (go_simp; with_reducible rfl))
      (try simp only [Act.put, List.getElem_toArray, List.getElem_cons_succ, List.getElem_cons_zero, List.setIfInBounds_toArray, List.set_cons_zero, List.set_cons_succ])
      refine wpAnyF_take (i := 9) (oi := _) (v := undef) rfl (by kernel_rfl) (by kernel_rfl) (by kernel_rfl) (by kernel_rfl) (fun _ _ _ h => h) (Or.inr ⟨by rfl, rfl⟩) (by assumption) ?_
      (try simp only [Act.put, List.getElem_toArray, List.getElem_cons_succ, List.getElem_cons_zero, List.setIfInBounds_toArray, List.set_cons_zero, List.set_cons_succ])
      refine wpAnyF_take (i := 10) (oi := _) (v := undef) rfl (by kernel_rfl) (by kernel_rfl) (by kernel_rfl) (by kernel_rfl) (fun _ _ _ h => h) (Or.inr ⟨by rfl, rfl⟩) (by assumption) ?_
      (try simp only [Act.put, List.getElem_toArray, List.getElem_cons_succ, List.getElem_cons_zero, List.setIfInBounds_toArray, List.set_cons_zero, List.set_cons_succ])
      refine wpAnyF_take (i := 11) (oi := _) (v := ?_) rfl (by kernel_rfl) (by kernel_rfl) (by kernel_rfl) (by kernel_rfl) (fun _ _ _ h => h) (Or.inl ⟨by rfl, ?_⟩) (by assumption) ?_
      rotate_left 1
      · intro w hSw
        (try dsimp only at hSw)
        (first | (go_simp; done) | (go_simp; with_reducible rfl))
      (try simp only [Act.put, List.getElem_toArray, List.getElem_cons_succ, List.getElem_cons_zero, List.setIfInBounds_toArray, List.set_cons_zero, List.set_cons_succ])
      refine wpAnyF_ready (rs := [12]) (by kernel_rfl) (by simp) ?_
      refine AllReadyF.cons (o := _) rfl (fun K hK => ?_) AllReadyF.nil
      rw [if_pos (by kernel_rfl)]
      refine wp_store_row 28 (.tmp 2) (.tmp 39) rfl (w.heap.size + 1) #[.int .i64 (x0 : Int), .bool yb, .int .i64 (y1 : Int), .int .i64 (y2 : Int), .int .i64 (y3 : Int), .int .i64 (y4 : Int), .slice A5 m5 c5] rfl rfl _ _ HRf.out (info7 _ _ _ _ _ _ _ _ _) rfl (one7 _ _ _ _ _ _ _ _ _) ?_
      have HXS : Hid ((wf.drew.setRow (w.heap.size + 1) #[.int .i64 (x0 : Int), .bool yb, .int .i64 (y1 : Int), .int .i64 (y2 : Int), .int .i64 (y3 : Int), .int .i64 (y4 : Int), .slice A5 m5 c5]).heap[w.heap.size]? = some (.cells #[.pointer (some ⟨g, 0, none⟩)] 55 (0, 0))) := Lib.hid ((setRow_other _ _ _ _ (by omega)).trans HXf.out)
      have HAS : Hid ((wf.drew.setRow (w.heap.size + 1) #[.int .i64 (x0 : Int), .bool yb, .int .i64 (y1 : Int), .int .i64 (y2 : Int), .int .i64 (y3 : Int), .int .i64 (y4 : Int), .slice A5 m5 c5]).heap[w2.heap.size]? = some (.cells #[.int .i64 (x0 : Int), .bool yb, .int .i64 (y1 : Int), .int .i64 (y2 : Int), .int .i64 (y3 : Int), .int .i64 (y4 : Int), .slice A5 m5 c5] 28 (0, 0))) := Lib.hid ((setRow_other _ _ _ _ (by have := HSZ2.out; omega)).trans HAf.out)
      refine hK.out _ _ (⟨blk_cell HXS.out 0, blk_cell HAS.out 0, blk_cell HAS.out 1, blk_cell HAS.out 2, blk_cell HAS.out 3, blk_cell HAS.out 4, blk_cell HAS.out 5, blk_cell HAS.out 6⟩) (fun hHeld12 => ?_)
      clear hK K
      (try simp only [Act.put, List.getElem_toArray, List.getElem_cons_succ, List.getElem_cons_zero, List.setIfInBounds_toArray, List.set_cons_zero, List.set_cons_succ])
      refine wpAnyF_take (i := 13) (oi := _) (v := ?_) rfl (by kernel_rfl) (by kernel_rfl) (by kernel_rfl) (by kernel_rfl) (fun _ _ _ h => h) (Or.inl ⟨by rfl, ?_⟩) (by assumption) ?_
      rotate_left 1
      · intro w hSw
        (try dsimp only at hSw)
        (first | (go_simp; done) | (go_simp; with_reducible rfl))
      (try simp only [Act.put, List.getElem_toArray, List.getElem_cons_succ, List.getElem_cons_zero, List.setIfInBounds_toArray, List.set_cons_zero, List.set_cons_succ])
      refine wpAnyF_done (by kernel_rfl) ?_ _
      go_wp2
      exact bodyPost_ret (v := .tuple #[.agg #[.int .i64 (x0 : Int), .bool yb, .int .i64 (y1 : Int), .int .i64 (y2 : Int), .int .i64 (y3 : Int), .int .i64 (y4 : Int), .slice A5 m5 c5], .bool false]) (results_row_tmp rfl _ _ (w.heap.size + 1) 28 #[.int .i64 (x0 : Int), .bool yb, .int .i64 (y1 : Int), .int .i64 (y2 : Int), .int .i64 (y3 : Int), .int .i64 (y4 : Int), .slice A5 m5 c5] (0, 0) _ (.bool false) rfl rfl (setRow_heap _ _ _ _ _ _ HRf.out) Try.underlying28 rfl (info7 _ _ _ _ _ _ _ _ _)) rfl (HFNO.out wf.drew (only_drew HGf.out) HNO.out)
    · have hx1I : (x1 : Int) ≤ 1 := by omega
      by_cases he8 : e8 = 0
      · subst he8
        have HMAY : Hid (Calls Try.prog 8 #[.agg #[.int .i64 (x0 : Int), .bool yb, .int .i64 (y1 : Int), .int .i64 (y2 : Int), .int .i64 (y3 : Int), .int .i64 (y4 : Int), .slice A5 m5 c5]] wf.drew (SameTo wf.drew (mayA (⟨(x0 : Nat), yb, (y1 : Nat), (y2 : Nat), (y3 : Nat), (y4 : Nat), bs⟩ : Ac)))) := Lib.hid (pmay_any (⟨(x0 : Nat), yb, (y1 : Nat), (y2 : Nat), (y3 : Nat), (y4 : Nat), bs⟩ : Ac) A5 m5 c5 wf.drew HBSw.out)
        cases hmm : mayA (⟨(x0 : Nat), yb, (y1 : Nat), (y2 : Nat), (y3 : Nat), (y4 : Nat), bs⟩ : Ac)
        · have HNO := Lib.hid (HSQ2.out (fun h => by rw [hmm] at h; cases h.2.2))
          rw [hmm] at HMAY
          clear HSQ1 HSQ2 hmm
          refine wp_region_F (S := (fun w' => w'.cell? ⟨w.heap.size, 0, none⟩ = some (.pointer (some ⟨g, 0, none⟩)) ∧ w'.cell? ⟨w2.heap.size, 0, none⟩ = some (.int .i64 (x0 : Int)) ∧ w'.cell? ⟨w2.heap.size, 1, none⟩ = some (.bool yb) ∧ w'.cell? ⟨w2.heap.size, 2, none⟩ = some (.int .i64 (y1 : Int)) ∧ w'.cell? ⟨w2.heap.size, 3, none⟩ = some (.int .i64 (y2 : Int)) ∧ w'.cell? ⟨w2.heap.size, 4, none⟩ = some (.int .i64 (y3 : Int)) ∧ w'.cell? ⟨w2.heap.size, 5, none⟩ = some (.int .i64 (y4 : Int)) ∧ w'.cell? ⟨w2.heap.size, 6, none⟩ = some (.slice A5 m5 c5))) [] (by kernel_rfl) (⟨blk_cell HXf.out 0, blk_cell HAf.out 0, blk_cell HAf.out 1, blk_cell HAf.out 2, blk_cell HAf.out 3, blk_cell HAf.out 4, blk_cell HAf.out 5, blk_cell HAf.out 6⟩) (fun hHeld => ?_)
          refine wpAnyF_take (i := 0) (oi := _) (v := ?_) rfl (by kernel_rfl) (by kernel_rfl) (by kernel_rfl) (by kernel_rfl) (fun _ _ _ h => h) (Or.inl ⟨by rfl, ?_⟩) (by assumption) ?_
          rotate_left 1
          · intro w hSw
            (try dsimp only at hSw)
            (first | (go_simp; done) | (go_simp; with_reducible rfl))
          (try simp only [Act.put, List.getElem_toArray, List.getElem_cons_succ, List.getElem_cons_zero, List.setIfInBounds_toArray, List.set_cons_zero, List.set_cons_succ])
          refine wpAnyF_take (i := 1) (oi := _) (v := ?_) rfl (by kernel_rfl) (by kernel_rfl) (by kernel_rfl) (by kernel_rfl) (fun _ _ _ h => h) (Or.inl ⟨by rfl, ?_⟩) (by assumption) ?_
          rotate_left 1
          · intro w hSw
            (try dsimp only at hSw)
            (first | (go_simp; done) | (go_simp; with_reducible rfl))
          (try simp only [Act.put, List.getElem_toArray, List.getElem_cons_succ, List.getElem_cons_zero, List.setIfInBounds_toArray, List.set_cons_zero, List.set_cons_succ])
          refine wpAnyF_take (i := 2) (oi := _) (v := ?_) rfl (by kernel_rfl) (by kernel_rfl) (by kernel_rfl) (by kernel_rfl) (fun _ _ _ h => h) (Or.inl ⟨by rfl, ?_⟩) (by assumption) ?_
          rotate_left 1
          · intro w hSw
            (try dsimp only at hSw)
            (first | (go_simp; done) | (go_simp; with_reducible rfl))
          (try simp only [Act.put, List.getElem_toArray, List.getElem_cons_succ, List.getElem_cons_zero, List.setIfInBounds_toArray, List.set_cons_zero, List.set_cons_succ])
          refine wpAnyF_take (i := 3) (oi := _) (v := ?_) rfl (by kernel_rfl) (by kernel_rfl) (by kernel_rfl) (by kernel_rfl) (fun _ _ _ h => h) (Or.inl ⟨by rfl, ?_⟩) (by assumption) ?_
          rotate_left 1
          · intro w hSw
            (try dsimp only at hSw)
            (first | (go_simp; done) | (go_simp; with_reducible rfl))
          (try simp only [Act.put, List.getElem_toArray, List.getElem_cons_succ, List.getElem_cons_zero, List.setIfInBounds_toArray, List.set_cons_zero, List.set_cons_succ])
          refine wpAnyF_take (i := 4) (oi := _) (v := ?_) rfl (by kernel_rfl) (by kernel_rfl) (by kernel_rfl) (by kernel_rfl) (fun _ _ _ h => h) (Or.inl ⟨by rfl, ?_⟩) (by assumption) ?_
          rotate_left 1
          · intro w hSw
            (try dsimp only at hSw)
            (first | (go_simp; done) | (go_simp; with_reducible rfl))
          (try simp only [Act.put, List.getElem_toArray, List.getElem_cons_succ, List.getElem_cons_zero, List.setIfInBounds_toArray, List.set_cons_zero, List.set_cons_succ])
          refine wpAnyF_ready (rs := [5]) (by kernel_rfl) (by simp) ?_
          refine AllReadyF.cons (o := _) rfl (fun K hK => ?_) AllReadyF.nil
          go_simp
          refine (err_tk g l8 0 _ HTf.out.dr).mono ?_
          rintro e we ⟨rfl, rfl⟩
          refine hK.out _ _ (⟨blk_cell HXf.out 0, blk_cell HAf.out 0, blk_cell HAf.out 1, blk_cell HAf.out 2, blk_cell HAf.out 3, blk_cell HAf.out 4, blk_cell HAf.out 5, blk_cell HAf.out 6⟩) (fun hHeld5 => ?_)
          clear hK K
          (try simp only [Act.put, List.getElem_toArray, List.getElem_cons_succ, List.getElem_cons_zero, List.setIfInBounds_toArray, List.set_cons_zero, List.set_cons_succ])
          refine wpAnyF_take (i := 6) (oi := _) (v := ?_) rfl (by kernel_rfl) (by kernel_rfl) (by kernel_rfl) (by kernel_rfl) (fun _ _ _ h => h) (Or.inl ⟨by rfl, ?_⟩) (by assumption) ?_
          rotate_left 1
          · intro w hSw
            (try dsimp only at hSw)
            (first | (go_simp; done) | (go_simp; with_reducible rfl))
          (try simp only [Act.put, List.getElem_toArray, List.getElem_cons_succ, List.getElem_cons_zero, List.setIfInBounds_toArray, List.set_cons_zero, List.set_cons_succ])
          refine wpAnyF_take (i := 7) (oi := _) (v := ?_) rfl (by kernel_rfl) (by kernel_rfl) (by kernel_rfl) (by kernel_rfl) (fun _ _ _ h => h) (Or.inl ⟨by rfl, ?_⟩) (by assumption) ?_
          rotate_left 1
          · intro w hSw
            (try dsimp only at hSw)
            (first | (go_simp; done) | (go_simp; with_reducible rfl))
          (try simp only [Act.put, List.getElem_toArray, List.getElem_cons_succ, List.getElem_cons_zero, List.setIfInBounds_toArray, List.set_cons_zero, List.set_cons_succ])
          refine wpAnyF_take (i := 8) (oi := _) (v := ?_) rfl (by kernel_rfl) (by kernel_rfl) (by kernel_rfl) (by kernel_rfl) (fun _ _ _ h => h) (Or.inl ⟨by rfl, ?_⟩) (by assumption) ?_
          rotate_left 1
          · intro w hSw
            (try dsimp only at hSw)
            (first | (go_simp; done) | (go_simp; with_reducible rfl))
          (try simp only [Act.put, List.getElem_toArray, List.getElem_cons_succ, List.getElem_cons_zero, List.setIfInBounds_toArray, List.set_cons_zero, List.set_cons_succ])
          refine wpAnyF_take (i := 9) (oi := _) (v := ?_) rfl (by kernel_rfl) (by kernel_rfl) (by kernel_rfl) (by kernel_rfl) (fun _ _ _ h => h) (Or.inl ⟨by rfl, ?_⟩) (by assumption) ?_
          rotate_left 1
          · intro w hSw
            (try dsimp only at hSw)
            (first | (go_simp; done) | (go_simp; with_reducible rfl))
          (try simp only [Act.put, List.getElem_toArray, List.getElem_cons_succ, List.getElem_cons_zero, List.setIfInBounds_toArray, List.set_cons_zero, List.set_cons_succ])
          refine wpAnyF_ready (rs := [10]) (by kernel_rfl) (by simp) ?_
          refine AllReadyF.cons (o := _) rfl (fun K hK => ?_) AllReadyF.nil
          go_simp
          refine (HMAY.out).mono ?_
          rintro e wm ⟨rfl, hbm⟩
          have HXm : Hid (wm.heap[w.heap.size]? = some (.cells #[.pointer (some ⟨g, 0, none⟩)] 55 (0, 0))) := Lib.hid ((hbm.block _ (blk_lt HXf.out)).trans HXf.out)
          have HRm : Hid (wm.heap[w.heap.size + 1]? = some (.cells #[.int .i64 0, .bool false, .int .i64 0, .int .i64 0, .int .i64 0, .int .i64 0, .slice none 0 0] 28 (0, 0))) := Lib.hid ((hbm.block _ (blk_lt HRf.out)).trans HRf.out)
          have HAm : Hid (wm.heap[w2.heap.size]? = some (.cells #[.int .i64 (x0 : Int), .bool yb, .int .i64 (y1 : Int), .int .i64 (y2 : Int), .int .i64 (y3 : Int), .int .i64 (y4 : Int), .slice A5 m5 c5] 28 (0, 0))) := Lib.hid ((hbm.block _ (blk_lt HAf.out)).trans HAf.out)
          have HGm : Hid (w.grownBy wm (some g)) := Lib.hid (only_trans (only_drew HGf.out) (only_below hbm))
          have HTm : Hid (RowSt wm g 72 l8 0) := Lib.hid (RowSt.below (W := wf.drew) HTf.out.dr hbm)
          have HOm : Hid (Own wm w.heap.size (.slice A5 m5 c5) bs) := Lib.hid (Own.below (w := wf.drew) HOf.out hbm)
          clear hbm
          refine hK.out _ _ (⟨blk_cell HXm.out 0, blk_cell HAm.out 0, blk_cell HAm.out 1, blk_cell HAm.out 2, blk_cell HAm.out 3, blk_cell HAm.out 4, blk_cell HAm.out 5, blk_cell HAm.out 6⟩) (fun hHeld10 => ?_)
          clear hK K
          (try simp only [Act.put, List.getElem_toArray, List.getElem_cons_succ, List.getElem_cons_zero, List.setIfInBounds_toArray, List.set_cons_zero, List.set_cons_succ])
          refine wpAnyF_take (i := 11) (oi := _) (v := ?_) rfl (by kernel_rfl) (by kernel_rfl) (by kernel_rfl) (by kernel_rfl) (fun _ _ _ h => h) (Or.inl ⟨by rfl, ?_⟩) (by assumption) ?_
          rotate_left 1
          · intro w hSw
            (try dsimp only at hSw)
            (first | (go_simp; done) | (go_simp; with_reducible rfl))
          (try simp only [Act.put, List.getElem_toArray, List.getElem_cons_succ, List.getElem_cons_zero, List.setIfInBounds_toArray, List.set_cons_zero, List.set_cons_succ])
          refine wpAnyF_ready (rs := [12]) (by kernel_rfl) (by simp) ?_
          refine AllReadyF.cons (o := _) rfl (fun K hK => ?_) AllReadyF.nil
          rw [if_pos (by kernel_rfl)]
          refine wp_store_row 28 (.tmp 2) (.tmp 39) rfl (w.heap.size + 1) #[.int .i64 (x0 : Int), .bool yb, .int .i64 (y1 : Int), .int .i64 (y2 : Int), .int .i64 (y3 : Int), .int .i64 (y4 : Int), .slice A5 m5 c5] rfl rfl _ _ HRm.out (info7 _ _ _ _ _ _ _ _ _) rfl (one7 _ _ _ _ _ _ _ _ _) ?_
          have HXS : Hid ((wm.setRow (w.heap.size + 1) #[.int .i64 (x0 : Int), .bool yb, .int .i64 (y1 : Int), .int .i64 (y2 : Int), .int .i64 (y3 : Int), .int .i64 (y4 : Int), .slice A5 m5 c5]).heap[w.heap.size]? = some (.cells #[.pointer (some ⟨g, 0, none⟩)] 55 (0, 0))) := Lib.hid ((setRow_other _ _ _ _ (by omega)).trans HXm.out)
          have HAS : Hid ((wm.setRow (w.heap.size + 1) #[.int .i64 (x0 : Int), .bool yb, .int .i64 (y1 : Int), .int .i64 (y2 : Int), .int .i64 (y3 : Int), .int .i64 (y4 : Int), .slice A5 m5 c5]).heap[w2.heap.size]? = some (.cells #[.int .i64 (x0 : Int), .bool yb, .int .i64 (y1 : Int), .int .i64 (y2 : Int), .int .i64 (y3 : Int), .int .i64 (y4 : Int), .slice A5 m5 c5] 28 (0, 0))) := Lib.hid ((setRow_other _ _ _ _ (by have := HSZ2.out; omega)).trans HAm.out)
          refine hK.out _ _ (⟨blk_cell HXS.out 0, blk_cell HAS.out 0, blk_cell HAS.out 1, blk_cell HAS.out 2, blk_cell HAS.out 3, blk_cell HAS.out 4, blk_cell HAS.out 5, blk_cell HAS.out 6⟩) (fun hHeld12 => ?_)
          clear hK K
          (try simp only [Act.put, List.getElem_toArray, List.getElem_cons_succ, List.getElem_cons_zero, List.setIfInBounds_toArray, List.set_cons_zero, List.set_cons_succ])
          refine wpAnyF_take (i := 13) (oi := _) (v := ?_) rfl (by kernel_rfl) (by kernel_rfl) (by kernel_rfl) (by kernel_rfl) (fun _ _ _ h => h) (Or.inl ⟨by rfl, ?_⟩) (by assumption) ?_
          rotate_left 1
          · intro w hSw
            (try dsimp only at hSw)
            (first | (go_simp; done) | (go_simp; with_reducible rfl))
          (try simp only [Act.put, List.getElem_toArray, List.getElem_cons_succ, List.getElem_cons_zero, List.setIfInBounds_toArray, List.set_cons_zero, List.set_cons_succ])
          refine wpAnyF_done (by kernel_rfl) ?_ _
          go_wp2
          exact bodyPost_ret (v := .tuple #[.agg #[.int .i64 (x0 : Int), .bool yb, .int .i64 (y1 : Int), .int .i64 (y2 : Int), .int .i64 (y3 : Int), .int .i64 (y4 : Int), .slice A5 m5 c5], .bool false]) (results_row_tmp rfl _ _ (w.heap.size + 1) 28 #[.int .i64 (x0 : Int), .bool yb, .int .i64 (y1 : Int), .int .i64 (y2 : Int), .int .i64 (y3 : Int), .int .i64 (y4 : Int), .slice A5 m5 c5] (0, 0) _ (.bool false) rfl rfl (setRow_heap _ _ _ _ _ _ HRm.out) Try.underlying28 rfl (info7 _ _ _ _ _ _ _ _ _)) rfl (HFNO.out wm HGm.out HNO.out)
        · have HYES := Lib.hid (HSQ1.out ⟨by omega, rfl, hmm⟩)
          rw [hmm] at HMAY
          clear HSQ1 HSQ2 hmm
          refine wp_region_F (S := (fun w' => w'.cell? ⟨w.heap.size, 0, none⟩ = some (.pointer (some ⟨g, 0, none⟩)) ∧ w'.cell? ⟨w2.heap.size, 0, none⟩ = some (.int .i64 (x0 : Int)) ∧ w'.cell? ⟨w2.heap.size, 1, none⟩ = some (.bool yb) ∧ w'.cell? ⟨w2.heap.size, 2, none⟩ = some (.int .i64 (y1 : Int)) ∧ w'.cell? ⟨w2.heap.size, 3, none⟩ = some (.int .i64 (y2 : Int)) ∧ w'.cell? ⟨w2.heap.size, 4, none⟩ = some (.int .i64 (y3 : Int)) ∧ w'.cell? ⟨w2.heap.size, 5, none⟩ = some (.int .i64 (y4 : Int)) ∧ w'.cell? ⟨w2.heap.size, 6, none⟩ = some (.slice A5 m5 c5))) [] (by kernel_rfl) (⟨blk_cell HXf.out 0, blk_cell HAf.out 0, blk_cell HAf.out 1, blk_cell HAf.out 2, blk_cell HAf.out 3, blk_cell HAf.out 4, blk_cell HAf.out 5, blk_cell HAf.out 6⟩) (fun hHeld => ?_)
          refine wpAnyF_take (i := 0) (oi := _) (v := ?_) rfl (by kernel_rfl) (by kernel_rfl) (by kernel_rfl) (by kernel_rfl) (fun _ _ _ h => h) (Or.inl ⟨by rfl, ?_⟩) (by assumption) ?_
          rotate_left 1
          · intro w hSw
            (try dsimp only at hSw)
            (first | (go_simp; done) | (go_simp; with_reducible rfl))
          (try simp only [Act.put, List.getElem_toArray, List.getElem_cons_succ, List.getElem_cons_zero, List.setIfInBounds_toArray, List.set_cons_zero, List.set_cons_succ])
          refine wpAnyF_take (i := 1) (oi := _) (v := ?_) rfl (by kernel_rfl) (by kernel_rfl) (by kernel_rfl) (by kernel_rfl) (fun _ _ _ h => h) (Or.inl ⟨by rfl, ?_⟩) (by assumption) ?_
          rotate_left 1
          · intro w hSw
            (try dsimp only at hSw)
            (first | (go_simp; done) | (go_simp; with_reducible rfl))
          (try simp only [Act.put, List.getElem_toArray, List.getElem_cons_succ, List.getElem_cons_zero, List.setIfInBounds_toArray, List.set_cons_zero, List.set_cons_succ])
          refine wpAnyF_take (i := 2) (oi := _) (v := ?_) rfl (by kernel_rfl) (by kernel_rfl) (by kernel_rfl) (by kernel_rfl) (fun _ _ _ h => h) (Or.inl ⟨by rfl, ?_⟩) (by assumption) ?_
          rotate_left 1
          · intro w hSw
            (try dsimp only at hSw)
            (first | (go_simp; done) | (go_simp; with_reducible rfl))
          (try simp only [Act.put, List.getElem_toArray, List.getElem_cons_succ, List.getElem_cons_zero, List.setIfInBounds_toArray, List.set_cons_zero, List.set_cons_succ])
          refine wpAnyF_take (i := 3) (oi := _) (v := ?_) rfl (by kernel_rfl) (by kernel_rfl) (by kernel_rfl) (by kernel_rfl) (fun _ _ _ h => h) (Or.inl ⟨by rfl, ?_⟩) (by assumption) ?_
          rotate_left 1
          · intro w hSw
            (try dsimp only at hSw)
            (first | (go_simp; done) | (go_simp; with_reducible rfl))
          (try simp only [Act.put, List.getElem_toArray, List.getElem_cons_succ, List.getElem_cons_zero, List.setIfInBounds_toArray, List.set_cons_zero, List.set_cons_succ])
          refine wpAnyF_take (i := 4) (oi := _) (v := ?_) rfl (by kernel_rfl) (by kernel_rfl) (by kernel_rfl) (by kernel_rfl) (fun _ _ _ h => h) (Or.inl ⟨by rfl, ?_⟩) (by assumption) ?_
          rotate_left 1
          · intro w hSw
            (try dsimp only at hSw)
            (first | (go_simp; done) | (go_simp; with_reducible rfl))
          (try simp only [Act.put, List.getElem_toArray, List.getElem_cons_succ, List.getElem_cons_zero, List.setIfInBounds_toArray, List.set_cons_zero, List.set_cons_succ])
          refine wpAnyF_ready (rs := [5]) (by kernel_rfl) (by simp) ?_
          refine AllReadyF.cons (o := _) rfl (fun K hK => ?_) AllReadyF.nil
          go_simp
          refine (err_tk g l8 0 _ HTf.out.dr).mono ?_
          rintro e we ⟨rfl, rfl⟩
          refine hK.out _ _ (⟨blk_cell HXf.out 0, blk_cell HAf.out 0, blk_cell HAf.out 1, blk_cell HAf.out 2, blk_cell HAf.out 3, blk_cell HAf.out 4, blk_cell HAf.out 5, blk_cell HAf.out 6⟩) (fun hHeld5 => ?_)
          clear hK K
          (try simp only [Act.put, List.getElem_toArray, List.getElem_cons_succ, List.getElem_cons_zero, List.setIfInBounds_toArray, List.set_cons_zero, List.set_cons_succ])
          refine wpAnyF_take (i := 6) (oi := _) (v := ?_) rfl (by kernel_rfl) (by kernel_rfl) (by kernel_rfl) (by kernel_rfl) (fun _ _ _ h => h) (Or.inl ⟨by rfl, ?_⟩) (by assumption) ?_
          rotate_left 1
          · intro w hSw
            (try dsimp only at hSw)
            (first | (go_simp; done) | (go_simp; with_reducible rfl))
          (try simp only [Act.put, List.getElem_toArray, List.getElem_cons_succ, List.getElem_cons_zero, List.setIfInBounds_toArray, List.set_cons_zero, List.set_cons_succ])
          refine wpAnyF_take (i := 7) (oi := _) (v := ?_) rfl (by kernel_rfl) (by kernel_rfl) (by kernel_rfl) (by kernel_rfl) (fun _ _ _ h => h) (Or.inl ⟨by rfl, ?_⟩) (by assumption) ?_
          rotate_left 1
          · intro w hSw
            (try dsimp only at hSw)
            (first | (go_simp; done) | (go_simp; with_reducible rfl))
          (try simp only [Act.put, List.getElem_toArray, List.getElem_cons_succ, List.getElem_cons_zero, List.setIfInBounds_toArray, List.set_cons_zero, List.set_cons_succ])
          refine wpAnyF_take (i := 8) (oi := _) (v := ?_) rfl (by kernel_rfl) (by kernel_rfl) (by kernel_rfl) (by kernel_rfl) (fun _ _ _ h => h) (Or.inl ⟨by rfl, ?_⟩) (by assumption) ?_
          rotate_left 1
          · intro w hSw
            (try dsimp only at hSw)
            (first | (go_simp; done) | (go_simp; with_reducible rfl))
          (try simp only [Act.put, List.getElem_toArray, List.getElem_cons_succ, List.getElem_cons_zero, List.setIfInBounds_toArray, List.set_cons_zero, List.set_cons_succ])
          refine wpAnyF_take (i := 9) (oi := _) (v := ?_) rfl (by kernel_rfl) (by kernel_rfl) (by kernel_rfl) (by kernel_rfl) (fun _ _ _ h => h) (Or.inl ⟨by rfl, ?_⟩) (by assumption) ?_
          rotate_left 1
          · intro w hSw
            (try dsimp only at hSw)
            (first | (go_simp; done) | (go_simp; with_reducible rfl))
          (try simp only [Act.put, List.getElem_toArray, List.getElem_cons_succ, List.getElem_cons_zero, List.setIfInBounds_toArray, List.set_cons_zero, List.set_cons_succ])
          refine wpAnyF_ready (rs := [10]) (by kernel_rfl) (by simp) ?_
          refine AllReadyF.cons (o := _) rfl (fun K hK => ?_) AllReadyF.nil
          go_simp
          refine (HMAY.out).mono ?_
          rintro e wm ⟨rfl, hbm⟩
          have HXm : Hid (wm.heap[w.heap.size]? = some (.cells #[.pointer (some ⟨g, 0, none⟩)] 55 (0, 0))) := Lib.hid ((hbm.block _ (blk_lt HXf.out)).trans HXf.out)
          have HRm : Hid (wm.heap[w.heap.size + 1]? = some (.cells #[.int .i64 0, .bool false, .int .i64 0, .int .i64 0, .int .i64 0, .int .i64 0, .slice none 0 0] 28 (0, 0))) := Lib.hid ((hbm.block _ (blk_lt HRf.out)).trans HRf.out)
          have HAm : Hid (wm.heap[w2.heap.size]? = some (.cells #[.int .i64 (x0 : Int), .bool yb, .int .i64 (y1 : Int), .int .i64 (y2 : Int), .int .i64 (y3 : Int), .int .i64 (y4 : Int), .slice A5 m5 c5] 28 (0, 0))) := Lib.hid ((hbm.block _ (blk_lt HAf.out)).trans HAf.out)
          have HGm : Hid (w.grownBy wm (some g)) := Lib.hid (only_trans (only_drew HGf.out) (only_below hbm))
          have HTm : Hid (RowSt wm g 72 l8 0) := Lib.hid (RowSt.below (W := wf.drew) HTf.out.dr hbm)
          have HOm : Hid (Own wm w.heap.size (.slice A5 m5 c5) bs) := Lib.hid (Own.below (w := wf.drew) HOf.out hbm)
          clear hbm
          refine hK.out _ _ (⟨blk_cell HXm.out 0, blk_cell HAm.out 0, blk_cell HAm.out 1, blk_cell HAm.out 2, blk_cell HAm.out 3, blk_cell HAm.out 4, blk_cell HAm.out 5, blk_cell HAm.out 6⟩) (fun hHeld10 => ?_)
          clear hK K
          (try simp only [Act.put, List.getElem_toArray, List.getElem_cons_succ, List.getElem_cons_zero, List.setIfInBounds_toArray, List.set_cons_zero, List.set_cons_succ])
          refine wpAnyF_take (i := 11) (oi := _) (v := ?_) rfl (by kernel_rfl) (by kernel_rfl) (by kernel_rfl) (by kernel_rfl) (fun _ _ _ h => h) (Or.inl ⟨by rfl, ?_⟩) (by assumption) ?_
          rotate_left 1
          · intro w hSw
            (try dsimp only at hSw)
            (first | (go_simp; done) | (go_simp; with_reducible rfl))
          (try simp only [Act.put, List.getElem_toArray, List.getElem_cons_succ, List.getElem_cons_zero, List.setIfInBounds_toArray, List.set_cons_zero, List.set_cons_succ])
          refine wpAnyF_ready (rs := [12]) (by kernel_rfl) (by simp) ?_
          refine AllReadyF.cons (o := _) rfl (fun K hK => ?_) AllReadyF.nil
          rw [if_pos (by kernel_rfl)]
          refine wp_store_row 28 (.tmp 2) (.tmp 39) rfl (w.heap.size + 1) #[.int .i64 (x0 : Int), .bool yb, .int .i64 (y1 : Int), .int .i64 (y2 : Int), .int .i64 (y3 : Int), .int .i64 (y4 : Int), .slice A5 m5 c5] rfl rfl _ _ HRm.out (info7 _ _ _ _ _ _ _ _ _) rfl (one7 _ _ _ _ _ _ _ _ _) ?_
          have HXS : Hid ((wm.setRow (w.heap.size + 1) #[.int .i64 (x0 : Int), .bool yb, .int .i64 (y1 : Int), .int .i64 (y2 : Int), .int .i64 (y3 : Int), .int .i64 (y4 : Int), .slice A5 m5 c5]).heap[w.heap.size]? = some (.cells #[.pointer (some ⟨g, 0, none⟩)] 55 (0, 0))) := Lib.hid ((setRow_other _ _ _ _ (by omega)).trans HXm.out)
          have HAS : Hid ((wm.setRow (w.heap.size + 1) #[.int .i64 (x0 : Int), .bool yb, .int .i64 (y1 : Int), .int .i64 (y2 : Int), .int .i64 (y3 : Int), .int .i64 (y4 : Int), .slice A5 m5 c5]).heap[w2.heap.size]? = some (.cells #[.int .i64 (x0 : Int), .bool yb, .int .i64 (y1 : Int), .int .i64 (y2 : Int), .int .i64 (y3 : Int), .int .i64 (y4 : Int), .slice A5 m5 c5] 28 (0, 0))) := Lib.hid ((setRow_other _ _ _ _ (by have := HSZ2.out; omega)).trans HAm.out)
          refine hK.out _ _ (⟨blk_cell HXS.out 0, blk_cell HAS.out 0, blk_cell HAS.out 1, blk_cell HAS.out 2, blk_cell HAS.out 3, blk_cell HAS.out 4, blk_cell HAS.out 5, blk_cell HAS.out 6⟩) (fun hHeld12 => ?_)
          clear hK K
          (try simp only [Act.put, List.getElem_toArray, List.getElem_cons_succ, List.getElem_cons_zero, List.setIfInBounds_toArray, List.set_cons_zero, List.set_cons_succ])
          refine wpAnyF_take (i := 13) (oi := _) (v := ?_) rfl (by kernel_rfl) (by kernel_rfl) (by kernel_rfl) (by kernel_rfl) (fun _ _ _ h => h) (Or.inl ⟨by rfl, ?_⟩) (by assumption) ?_
          rotate_left 1
          · intro w hSw
            (try dsimp only at hSw)
            (first | (go_simp; done) | (go_simp; with_reducible rfl))
          (try simp only [Act.put, List.getElem_toArray, List.getElem_cons_succ, List.getElem_cons_zero, List.setIfInBounds_toArray, List.set_cons_zero, List.set_cons_succ])
          refine wpAnyF_done (by kernel_rfl) ?_ _
          go_wp2
          exact bodyPost_ret (v := .tuple #[.agg #[.int .i64 (x0 : Int), .bool yb, .int .i64 (y1 : Int), .int .i64 (y2 : Int), .int .i64 (y3 : Int), .int .i64 (y4 : Int), .slice A5 m5 c5], .bool true]) (results_row_tmp rfl _ _ (w.heap.size + 1) 28 #[.int .i64 (x0 : Int), .bool yb, .int .i64 (y1 : Int), .int .i64 (y2 : Int), .int .i64 (y3 : Int), .int .i64 (y4 : Int), .slice A5 m5 c5] (0, 0) _ (.bool true) rfl rfl (setRow_heap _ _ _ _ _ _ HRm.out) Try.underlying28 rfl (info7 _ _ _ _ _ _ _ _ _)) rfl (by exact ⟨(⟨(x0 : Nat), yb, (y1 : Nat), (y2 : Nat), (y3 : Nat), (y4 : Nat), bs⟩ : Ac), A5, c5, l8, true, by rw [show (⟨(x0 : Nat), yb, (y1 : Nat), (y2 : Nat), (y3 : Nat), (y4 : Nat), bs⟩ : Ac).b.length = m5 from HBS5.out], gr_row2 HGm.out (by omega) _, fun _ => ⟨HYES.out, RowSt.only HTm.out (only_setRow2 _ _ _) (by have := HGR.out; omega) (by have := HGR.out; omega), by rw [show (⟨(x0 : Nat), yb, (y1 : Nat), (y2 : Nat), (y3 : Nat), (y4 : Nat), bs⟩ : Ac).b.length = m5 from HBS5.out]; exact HOm.out.keep (fun k hk => setRow_other _ _ _ _ (by have := HOT.out k hk; have := HSZ2.out; omega)), HBYf.out⟩, fun h => (by cases h)⟩)
      · have he8I : (e8 == 0) = false := by rw [beq_eq_false_iff_ne]; exact he8
        have HNO := Lib.hid (HSQ2.out (fun h => he8 h.2.1))
        clear HSQ1 HSQ2 he8
        refine wp_region_F (S := (fun w' => w'.cell? ⟨w.heap.size, 0, none⟩ = some (.pointer (some ⟨g, 0, none⟩)) ∧ w'.cell? ⟨w2.heap.size, 0, none⟩ = some (.int .i64 (x0 : Int)) ∧ w'.cell? ⟨w2.heap.size, 1, none⟩ = some (.bool yb) ∧ w'.cell? ⟨w2.heap.size, 2, none⟩ = some (.int .i64 (y1 : Int)) ∧ w'.cell? ⟨w2.heap.size, 3, none⟩ = some (.int .i64 (y2 : Int)) ∧ w'.cell? ⟨w2.heap.size, 4, none⟩ = some (.int .i64 (y3 : Int)) ∧ w'.cell? ⟨w2.heap.size, 5, none⟩ = some (.int .i64 (y4 : Int)) ∧ w'.cell? ⟨w2.heap.size, 6, none⟩ = some (.slice A5 m5 c5))) [] (by kernel_rfl) (⟨blk_cell HXf.out 0, blk_cell HAf.out 0, blk_cell HAf.out 1, blk_cell HAf.out 2, blk_cell HAf.out 3, blk_cell HAf.out 4, blk_cell HAf.out 5, blk_cell HAf.out 6⟩) (fun hHeld => ?_)
        refine wpAnyF_take (i := 0) (oi := _) (v := ?_) rfl (by kernel_rfl) (by kernel_rfl) (by kernel_rfl) (by kernel_rfl) (fun _ _ _ h => h) (Or.inl ⟨by rfl, ?_⟩) (by assumption) ?_
        rotate_left 1
        · intro w hSw
          (try dsimp only at hSw)
          (first | (go_simp; done) | (go_simp; with_reducible rfl))
        (try simp only [Act.put, List.getElem_toArray, List.getElem_cons_succ, List.getElem_cons_zero, List.setIfInBounds_toArray, List.set_cons_zero, List.set_cons_succ])
        refine wpAnyF_take (i := 1) (oi := _) (v := ?_) rfl (by kernel_rfl) (by kernel_rfl) (by kernel_rfl) (by kernel_rfl) (fun _ _ _ h => h) (Or.inl ⟨by rfl, ?_⟩) (by assumption) ?_
        rotate_left 1
        · intro w hSw
          (try dsimp only at hSw)
          (first | (go_simp; done) | (go_simp; with_reducible rfl))
        (try simp only [Act.put, List.getElem_toArray, List.getElem_cons_succ, List.getElem_cons_zero, List.setIfInBounds_toArray, List.set_cons_zero, List.set_cons_succ])
        refine wpAnyF_take (i := 2) (oi := _) (v := ?_) rfl (by kernel_rfl) (by kernel_rfl) (by kernel_rfl) (by kernel_rfl) (fun _ _ _ h => h) (Or.inl ⟨by rfl, ?_⟩) (by assumption) ?_
        rotate_left 1
        · intro w hSw
          (try dsimp only at hSw)
          (first | (go_simp; done) | (go_simp; with_reducible rfl))
        (try simp only [Act.put, List.getElem_toArray, List.getElem_cons_succ, List.getElem_cons_zero, List.setIfInBounds_toArray, List.set_cons_zero, List.set_cons_succ])
        refine wpAnyF_take (i := 3) (oi := _) (v := ?_) rfl (by kernel_rfl) (by kernel_rfl) (by kernel_rfl) (by kernel_rfl) (fun _ _ _ h => h) (Or.inl ⟨by rfl, ?_⟩) (by assumption) ?_
        rotate_left 1
        · intro w hSw
          (try dsimp only at hSw)
          (first | (go_simp; done) | (go_simp; with_reducible rfl))
        (try simp only [Act.put, List.getElem_toArray, List.getElem_cons_succ, List.getElem_cons_zero, List.setIfInBounds_toArray, List.set_cons_zero, List.set_cons_succ])
        refine wpAnyF_take (i := 4) (oi := _) (v := ?_) rfl (by kernel_rfl) (by kernel_rfl) (by kernel_rfl) (by kernel_rfl) (fun _ _ _ h => h) (Or.inl ⟨by rfl, ?_⟩) (by assumption) ?_
        rotate_left 1
        · intro w hSw
          (try dsimp only at hSw)
          (first | (go_simp; done) | (go_simp; with_reducible rfl))
        (try simp only [Act.put, List.getElem_toArray, List.getElem_cons_succ, List.getElem_cons_zero, List.setIfInBounds_toArray, List.set_cons_zero, List.set_cons_succ])
        refine wpAnyF_ready (rs := [5]) (by kernel_rfl) (by simp) ?_
        refine AllReadyF.cons (o := _) rfl (fun K hK => ?_) AllReadyF.nil
        go_simp
        refine (err_tk g l8 e8 _ HTf.out.dr).mono ?_
        rintro e we ⟨rfl, rfl⟩
        refine hK.out _ _ (⟨blk_cell HXf.out 0, blk_cell HAf.out 0, blk_cell HAf.out 1, blk_cell HAf.out 2, blk_cell HAf.out 3, blk_cell HAf.out 4, blk_cell HAf.out 5, blk_cell HAf.out 6⟩) (fun hHeld5 => ?_)
        clear hK K
        (try simp only [Act.put, List.getElem_toArray, List.getElem_cons_succ, List.getElem_cons_zero, List.setIfInBounds_toArray, List.set_cons_zero, List.set_cons_succ])
        refine wpAnyF_take (i := 6) (oi := _) (v := ?_) rfl (by kernel_rfl) (by kernel_rfl) (by kernel_rfl) (by kernel_rfl) (fun _ _ _ h => h) (Or.inl ⟨by rfl, ?_⟩) (by assumption) ?_
        rotate_left 1
        · intro w hSw
          (try dsimp only at hSw)
          (first | (go_simp; done) | (go_simp; with_reducible rfl))
        (try simp only [Act.put, List.getElem_toArray, List.getElem_cons_succ, List.getElem_cons_zero, List.setIfInBounds_toArray, List.set_cons_zero, List.set_cons_succ])
        refine wpAnyF_take (i := 7) (oi := _) (v := ?_) rfl (by kernel_rfl) (by kernel_rfl) (by kernel_rfl) (by kernel_rfl) (fun _ _ _ h => h) (Or.inl ⟨by rfl, ?_⟩) (by assumption) ?_
        rotate_left 1
        · intro w hSw
          (try dsimp only at hSw)
          (first | (go_simp; done) | (go_simp; with_reducible rfl))
        (try simp only [Act.put, List.getElem_toArray, List.getElem_cons_succ, List.getElem_cons_zero, List.setIfInBounds_toArray, List.set_cons_zero, List.set_cons_succ])
        refine wpAnyF_take (i := 8) (oi := _) (v := ?_) rfl (by kernel_rfl) (by kernel_rfl) (by kernel_rfl) (by kernel_rfl) (fun _ _ _ h => h) (Or.inl ⟨by rfl, ?_⟩) (by assumption) ?_
        rotate_left 1
        · intro w hSw
          (try dsimp only at hSw)
          (first | (go_simp; done) | (go_simp; with_reducible rfl))
        (try simp only [Act.put, List.getElem_toArray, List.getElem_cons_succ, List.getElem_cons_zero, List.setIfInBounds_toArray, List.set_cons_zero, List.set_cons_succ])
        refine wpAnyF_take (i := 9) (oi := _) (v := undef) rfl (by kernel_rfl) (by kernel_rfl) (by kernel_rfl) (by kernel_rfl) (fun _ _ _ h => h) (Or.inr ⟨by rfl, rfl⟩) (by assumption) ?_
        (try simp only [Act.put, List.getElem_toArray, List.getElem_cons_succ, List.getElem_cons_zero, List.setIfInBounds_toArray, List.set_cons_zero, List.set_cons_succ])
        refine wpAnyF_take (i := 10) (oi := _) (v := undef) rfl (by kernel_rfl) (by kernel_rfl) (by kernel_rfl) (by kernel_rfl) (fun _ _ _ h => h) (Or.inr ⟨by rfl, rfl⟩) (by assumption) ?_
        (try simp only [Act.put, List.getElem_toArray, List.getElem_cons_succ, List.getElem_cons_zero, List.setIfInBounds_toArray, List.set_cons_zero, List.set_cons_succ])
        refine wpAnyF_take (i := 11) (oi := _) (v := ?_) rfl (by kernel_rfl) (by kernel_rfl) (by kernel_rfl) (by kernel_rfl) (fun _ _ _ h => h) (Or.inl ⟨by rfl, ?_⟩) (by assumption) ?_
        rotate_left 1
        · intro w hSw
          (try dsimp only at hSw)
          (first | (go_simp; done) | (go_simp; with_reducible rfl))
        (try simp only [Act.put, List.getElem_toArray, List.getElem_cons_succ, List.getElem_cons_zero, List.setIfInBounds_toArray, List.set_cons_zero, List.set_cons_succ])
        refine wpAnyF_ready (rs := [12]) (by kernel_rfl) (by simp) ?_
        refine AllReadyF.cons (o := _) rfl (fun K hK => ?_) AllReadyF.nil
        rw [if_pos (by kernel_rfl)]
        refine wp_store_row 28 (.tmp 2) (.tmp 39) rfl (w.heap.size + 1) #[.int .i64 (x0 : Int), .bool yb, .int .i64 (y1 : Int), .int .i64 (y2 : Int), .int .i64 (y3 : Int), .int .i64 (y4 : Int), .slice A5 m5 c5] rfl rfl _ _ HRf.out (info7 _ _ _ _ _ _ _ _ _) rfl (one7 _ _ _ _ _ _ _ _ _) ?_
        have HXS : Hid ((wf.drew.setRow (w.heap.size + 1) #[.int .i64 (x0 : Int), .bool yb, .int .i64 (y1 : Int), .int .i64 (y2 : Int), .int .i64 (y3 : Int), .int .i64 (y4 : Int), .slice A5 m5 c5]).heap[w.heap.size]? = some (.cells #[.pointer (some ⟨g, 0, none⟩)] 55 (0, 0))) := Lib.hid ((setRow_other _ _ _ _ (by omega)).trans HXf.out)
        have HAS : Hid ((wf.drew.setRow (w.heap.size + 1) #[.int .i64 (x0 : Int), .bool yb, .int .i64 (y1 : Int), .int .i64 (y2 : Int), .int .i64 (y3 : Int), .int .i64 (y4 : Int), .slice A5 m5 c5]).heap[w2.heap.size]? = some (.cells #[.int .i64 (x0 : Int), .bool yb, .int .i64 (y1 : Int), .int .i64 (y2 : Int), .int .i64 (y3 : Int), .int .i64 (y4 : Int), .slice A5 m5 c5] 28 (0, 0))) := Lib.hid ((setRow_other _ _ _ _ (by have := HSZ2.out; omega)).trans HAf.out)
        refine hK.out _ _ (⟨blk_cell HXS.out 0, blk_cell HAS.out 0, blk_cell HAS.out 1, blk_cell HAS.out 2, blk_cell HAS.out 3, blk_cell HAS.out 4, blk_cell HAS.out 5, blk_cell HAS.out 6⟩) (fun hHeld12 => ?_)
        clear hK K
        (try simp only [Act.put, List.getElem_toArray, List.getElem_cons_succ, List.getElem_cons_zero, List.setIfInBounds_toArray, List.set_cons_zero, List.set_cons_succ])
        refine wpAnyF_take (i := 13) (oi := _) (v := ?_) rfl (by kernel_rfl) (by kernel_rfl) (by kernel_rfl) (by kernel_rfl) (fun _ _ _ h => h) (Or.inl ⟨by rfl, ?_⟩) (by assumption) ?_
        rotate_left 1
        · intro w hSw
          (try dsimp only at hSw)
          (first | (go_simp; done) | (go_simp; with_reducible rfl))
        (try simp only [Act.put, List.getElem_toArray, List.getElem_cons_succ, List.getElem_cons_zero, List.setIfInBounds_toArray, List.set_cons_zero, List.set_cons_succ])
        refine wpAnyF_done (by kernel_rfl) ?_ _
        go_wp2
        exact bodyPost_ret (v := .tuple #[.agg #[.int .i64 (x0 : Int), .bool yb, .int .i64 (y1 : Int), .int .i64 (y2 : Int), .int .i64 (y3 : Int), .int .i64 (y4 : Int), .slice A5 m5 c5], .bool false]) (results_row_tmp rfl _ _ (w.heap.size + 1) 28 #[.int .i64 (x0 : Int), .bool yb, .int .i64 (y1 : Int), .int .i64 (y2 : Int), .int .i64 (y3 : Int), .int .i64 (y4 : Int), .slice A5 m5 c5] (0, 0) _ (.bool false) rfl rfl (setRow_heap _ _ _ _ _ _ HRf.out) Try.underlying28 rfl (info7 _ _ _ _ _ _ _ _ _)) rfl (HFNO.out wf.drew (only_drew HGf.out) HNO.out)
  · have hnp : 0 < nn := by omega
    have hnI : (0 : Int) < (nn : Int) := by omega
    obtain ⟨bs, hbs⟩ : ∃ bs, bs = (takeS l7 e7 (nn : Int) true).1 := ⟨_, rfl⟩
    obtain ⟨l8, hl8⟩ : ∃ l8, l8 = (takeS l7 e7 (nn : Int) true).2.1 := ⟨_, rfl⟩
    obtain ⟨e8, he8'⟩ : ∃ e8, e8 = (takeS l7 e7 (nn : Int) true).2.2 := ⟨_, rfl⟩
    have HRR : Hid ((nn = 0 ∧ bs = [] ∧ l8 = l7 ∧ e8 = e7) ∨ (0 < nn ∧ (bs, l8, e8) = takeS l7 e7 (nn : Int) true)) := Lib.hid (.inr ⟨hnp, by rw [hbs, hl8, he8']⟩)
    have HBT : Hid (∀ W, RowSt W g 72 l7 e7 → Calls Try.prog 42 #[.pointer (some ⟨g, 0, none⟩), .int .i64 (nn : Int)] W (fun E W' => ∃ v, E = .returned v ∧ Own W' W.heap.size v bs ∧ (∀ i, bs.getD i 0 < 256) ∧ RowSt W' g 72 l8 e8 ∧ W.grownBy W' (some g))) := Lib.hid (fun W h => by
      have := bytes_big g l7 e7 (nn : Int) W h HB7.out
      rw [decide_eq_true (show (0 : Int) ≤ (nn : Int) by omega)] at this
      rw [hbs, hl8, he8']
      exact this)
    have c9 : w9.cell? ⟨w.heap.size, 0, none⟩ = some (.pointer (some ⟨g, 0, none⟩)) := blk_cell HX9.out 0
    clear hbs hl8 he8' hn0
    go_wp2_with fail
    refine (HBT.out _ HT9.out).mono ?_
    rintro e w10 ⟨v10, rfl, ho10, hb10, ht10, hg10⟩
    obtain ⟨A5, c5, rfl, _⟩ := ho10.bs hb10
    obtain ⟨m5, hm5⟩ : ∃ m5, bs.length = m5 := ⟨_, rfl⟩
    rw [hm5] at ho10 ⊢
    have HBS5 : Hid (bs.length = m5) := Lib.hid hm5
    have HBYf : Hid (byteL bs) := Lib.hid hb10
    have HX10 : Hid (w10.heap[w.heap.size]? = some (.cells #[.pointer (some ⟨g, 0, none⟩)] 55 (0, 0))) := Lib.hid (gr_blk hg10 HX9.out (by have := HGR.out; omega))
    have HR10 : Hid (w10.heap[w.heap.size + 1]? = some (.cells #[.int .i64 0, .bool false, .int .i64 0, .int .i64 0, .int .i64 0, .int .i64 0, .slice none 0 0] 28 (0, 0))) := Lib.hid (gr_blk hg10 HR9.out (by have := HGR.out; omega))
    have HA10 : Hid (w10.heap[w2.heap.size]? = some (.cells #[.int .i64 (x0 : Int), .bool yb, .int .i64 (y1 : Int), .int .i64 (y2 : Int), .int .i64 (y3 : Int), .int .i64 (y4 : Int), .slice none 0 0] 28 (0, 0))) := Lib.hid (gr_blk hg10 HA9.out (by have := HSZ2.out; omega))
    have HOT : Hid (∀ k, (Value.slice A5 m5 c5).ownBlock = some k → k ≠ w.heap.size + 1) := Lib.hid (fun k hk => by have h1 := (ho10.lt hk).1; have h2 := blk_lt HR9.out; omega)
    have HLA : Hid (w2.heap.size < w9.heap.size) := Lib.hid (blk_lt HA9.out)
    have HTf : Hid (RowSt (w10.setCell ⟨w2.heap.size, 6, none⟩ (.slice A5 m5 c5)) g 72 l8 e8) := Lib.hid (ht10.setc HSZ2.out.1 _)
    have HGf : Hid (w.grownBy (w10.setCell ⟨w2.heap.size, 6, none⟩ (.slice A5 m5 c5)) (some g)) := Lib.hid (gr_set (only_trans HG9.out hg10) HSZ2.out.2.2.2 _)
    have HXf : Hid ((w10.setCell ⟨w2.heap.size, 6, none⟩ (.slice A5 m5 c5)).heap[w.heap.size]? = some (.cells #[.pointer (some ⟨g, 0, none⟩)] 55 (0, 0))) := Lib.hid (blk_far HX10.out (p := ⟨w2.heap.size, 6, none⟩) (by have := HSZ2.out; show w.heap.size ≠ w2.heap.size; omega) _)
    have HRf : Hid ((w10.setCell ⟨w2.heap.size, 6, none⟩ (.slice A5 m5 c5)).heap[w.heap.size + 1]? = some (.cells #[.int .i64 0, .bool false, .int .i64 0, .int .i64 0, .int .i64 0, .int .i64 0, .slice none 0 0] 28 (0, 0))) := Lib.hid (blk_far HR10.out (p := ⟨w2.heap.size, 6, none⟩) (by have := HSZ2.out; show w.heap.size + 1 ≠ w2.heap.size; omega) _)
    have HAf : Hid ((w10.setCell ⟨w2.heap.size, 6, none⟩ (.slice A5 m5 c5)).heap[w2.heap.size]? = some (.cells #[.int .i64 (x0 : Int), .bool yb, .int .i64 (y1 : Int), .int .i64 (y2 : Int), .int .i64 (y3 : Int), .int .i64 (y4 : Int), .slice A5 m5 c5] 28 (0, 0))) := Lib.hid (by have h := blk_set HA10.out 6 (.slice A5 m5 c5); simpa using h)
    have HOf : Hid (Own (w10.setCell ⟨w2.heap.size, 6, none⟩ (.slice A5 m5 c5)) w.heap.size (.slice A5 m5 c5) bs) := Lib.hid ((ho10.keep (fun k hk => Below.heap_setCell _ ⟨w2.heap.size, 6, none⟩ _ k (by have h1 := (ho10.lt hk).1; have h2 := HLA.out; show k ≠ w2.heap.size; omega))).base HG9.out.size)
    have HBSw : Hid (BS (w10.setCell ⟨w2.heap.size, 6, none⟩ (.slice A5 m5 c5)).drew (w10.setCell ⟨w2.heap.size, 6, none⟩ (.slice A5 m5 c5)).drew.heap.size A5 m5 c5 bs) := Lib.hid (by
      obtain ⟨A7, c7, e7', h7⟩ := HOf.out.bs hb10
      rw [hm5] at e7' h7
      injection e7' with e1 _ e3
      subst e1 e3
      exact h7)
    have a6 : w10.cell? ⟨w2.heap.size, 6, none⟩ = some (.slice none 0 0) := blk_cell HA10.out 6
    have f6 : w10.frozen? ⟨w2.heap.size, 6, none⟩ = false := blk_free HA10.out 6
    have HSQ1 : Hid ((x1 ≤ 1 ∧ e8 = 0 ∧ mayA (⟨(x0 : Nat), yb, (y1 : Nat), (y2 : Nat), (y3 : Nat), (y4 : Nat), bs⟩ : Ac) = true) → oneP l = some ((⟨(x0 : Nat), yb, (y1 : Nat), (y2 : Nat), (y3 : Nat), (y4 : Nat), bs⟩ : Ac), l8)) := Lib.hid (by rw [HYB.out]; exact (seq_one HSEQ.out HRR.out).1)
    have HSQ2 : Hid (¬ (x1 ≤ 1 ∧ e8 = 0 ∧ mayA (⟨(x0 : Nat), yb, (y1 : Nat), (y2 : Nat), (y3 : Nat), (y4 : Nat), bs⟩ : Ac) = true) → oneP l = none) := Lib.hid (by rw [HYB.out]; exact (seq_one HSEQ.out HRR.out).2)
    have HFNO : Hid (∀ W, w.grownBy W (some g) → oneP l = none → NextTo w g l (.returned (.tuple #[.agg #[.int .i64 (x0 : Int), .bool yb, .int .i64 (y1 : Int), .int .i64 (y2 : Int), .int .i64 (y3 : Int), .int .i64 (y4 : Int), .slice A5 m5 c5], .bool false])) (W.setRow (w.heap.size + 1) #[.int .i64 (x0 : Int), .bool yb, .int .i64 (y1 : Int), .int .i64 (y2 : Int), .int .i64 (y3 : Int), .int .i64 (y4 : Int), .slice A5 m5 c5])) := Lib.hid (fun W hW ho => ⟨(⟨(x0 : Nat), yb, (y1 : Nat), (y2 : Nat), (y3 : Nat), (y4 : Nat), bs⟩ : Ac), A5, c5, l8, false, by rw [show (⟨(x0 : Nat), yb, (y1 : Nat), (y2 : Nat), (y3 : Nat), (y4 : Nat), bs⟩ : Ac).b.length = m5 from HBS5.out], gr_row2 hW (by omega) _, fun h => (by cases h), fun _ => ho⟩)
    clear ho10 hb10 ht10 hg10 hm5 HT9 HG9 HX9 HR9 HA9 HX10 HR10 HA10 HBT c9
    go_upto_region 8 with (fail)
    generalize w10.setCell ⟨w2.heap.size, 6, none⟩ (.slice A5 m5 c5) = wf at *
    clear a6 f6
    clear HN0 HN1 HN2 HN3 HN4 HN5 HN6 HSEQ HRR HBY
    by_cases hx1 : 1 < x1
    · have hx1I : ¬ (x1 : Int) ≤ 1 := by omega
      have HNO := Lib.hid (HSQ2.out (fun h => by have := h.1; omega))
      clear HSQ1 HSQ2 hx1
      refine wp_region_F (S := (fun w' => w'.cell? ⟨w.heap.size, 0, none⟩ = some (.pointer (some ⟨g, 0, none⟩)) ∧ w'.cell? ⟨w2.heap.size, 0, none⟩ = some (.int .i64 (x0 : Int)) ∧ w'.cell? ⟨w2.heap.size, 1, none⟩ = some (.bool yb) ∧ w'.cell? ⟨w2.heap.size, 2, none⟩ = some (.int .i64 (y1 : Int)) ∧ w'.cell? ⟨w2.heap.size, 3, none⟩ = some (.int .i64 (y2 : Int)) ∧ w'.cell? ⟨w2.heap.size, 4, none⟩ = some (.int .i64 (y3 : Int)) ∧ w'.cell? ⟨w2.heap.size, 5, none⟩ = some (.int .i64 (y4 : Int)) ∧ w'.cell? ⟨w2.heap.size, 6, none⟩ = some (.slice A5 m5 c5))) [] (by kernel_rfl) (⟨blk_cell HXf.out 0, blk_cell HAf.out 0, blk_cell HAf.out 1, blk_cell HAf.out 2, blk_cell HAf.out 3, blk_cell HAf.out 4, blk_cell HAf.out 5, blk_cell HAf.out 6⟩) (fun hHeld => ?_)
      refine wpAnyF_take (i := 0) (oi := _) (v := ?_) rfl (by kernel_rfl) (by kernel_rfl) (by kernel_rfl) (by kernel_rfl) (fun _ _ _ h => h) (Or.inl ⟨by rfl, ?_⟩) (by assumption) ?_
      rotate_left 1
      · intro w hSw
        (try dsimp only at hSw)
        (first | (go_simp; done) | (go_simp; with_reducible rfl))
      (try simp only [Act.put, List.getElem_toArray, List.getElem_cons_succ, List.getElem_cons_zero, List.setIfInBounds_toArray, List.set_cons_zero, List.set_cons_succ])
      refine wpAnyF_take (i := 1) (oi := _) (v := ?_) rfl (by kernel_rfl) (by kernel_rfl) (by kernel_rfl) (by kernel_rfl) (fun _ _ _ h => h) (Or.inl ⟨by rfl, ?_⟩) (by assumption) ?_
      rotate_left 1
      · intro w hSw
        (try dsimp only at hSw)
        (first | (go_simp; done) | (go_simp; with_reducible rfl))
      (try simp only [Act.put, List.getElem_toArray, List.getElem_cons_succ, List.getElem_cons_zero, List.setIfInBounds_toArray, List.set_cons_zero, List.set_cons_succ])
      refine wpAnyF_take (i := 2) (oi := _) (v := ?_) rfl (by kernel_rfl) (by kernel_rfl) (by kernel_rfl) (by kernel_rfl) (fun _ _ _ h => h) (Or.inl ⟨by rfl, ?_⟩) (by assumption) ?_
      rotate_left 1
      · intro w hSw
        (try dsimp only at hSw)
        (first | (go_simp; done) | (go_simp; with_reducible rfl))
      (try simp only [Act.put, List.getElem_toArray, List.getElem_cons_succ, List.getElem_cons_zero, List.setIfInBounds_toArray, List.set_cons_zero, List.set_cons_succ])
      refine wpAnyF_take (i := 3) (oi := _) (v := ?_) rfl (by kernel_rfl) (by kernel_rfl) (by kernel_rfl) (by kernel_rfl) (fun _ _ _ h => h) (Or.inl ⟨by rfl, ?_⟩) (by assumption) ?_
      rotate_left 1
      · intro w hSw
        (try dsimp only at hSw)
        (first | (go_simp; done) | (go_simp; with_reducible rfl))
      (try simp only [Act.put, List.getElem_toArray, List.getElem_cons_succ, List.getElem_cons_zero, List.setIfInBounds_toArray, List.set_cons_zero, List.set_cons_succ])
      refine wpAnyF_take (i := 4) (oi := _) (v := undef) rfl (by kernel_rfl) (by kernel_rfl) (by kernel_rfl) (by kernel_rfl) (fun _ _ _ h => h) (Or.inr ⟨by rfl, rfl⟩) (by assumption) ?_
      (try simp only [Act.put, List.getElem_toArray, List.getElem_cons_succ, List.getElem_cons_zero, List.setIfInBounds_toArray, List.set_cons_zero, List.set_cons_succ])
      refine wpAnyF_take (i := 5) (oi := _) (v := undef) rfl (by kernel_rfl) (by kernel_rfl) (by kernel_rfl) (by kernel_rfl) (fun _ _ _ h => h) (Or.inr ⟨by rfl, rfl⟩) (by assumption) ?_
      (try simp only [Act.put, List.getElem_toArray, List.getElem_cons_succ, List.getElem_cons_zero, List.setIfInBounds_toArray, List.set_cons_zero, List.set_cons_succ])
      refine wpAnyF_take (i := 6) (oi := _) (v := undef) rfl (by kernel_rfl) (by kernel_rfl) (by kernel_rfl) (by kernel_rfl) (fun _ _ _ h => h) (Or.inr ⟨by rfl, rfl⟩) (by assumption) ?_
      (try simp only [Act.put, List.getElem_toArray, List.getElem_cons_succ, List.getElem_cons_zero, List.setIfInBounds_toArray, List.set_cons_zero, List.set_cons_succ])
      refine wpAnyF_take (i := 7) (oi := _) (v := ?_) rfl (by kernel_rfl) (by kernel_rfl) (by kernel_rfl) (by kernel_rfl) (fun _ _ _ h => h) (Or.inl ⟨by rfl, ?_⟩) (by assumption) ?_
      rotate_left 1
      · intro w hSw
        (try dsimp only at hSw)
        (first | (go_simp; done) | (go_simp; with_reducible rfl))
      (try simp only [Act.put, List.getElem_toArray, List.getElem_cons_succ, List.getElem_cons_zero, List.setIfInBounds_toArray, List.set_cons_zero, List.set_cons_succ])
      refine wpAnyF_take (i := 8) (oi := _) (v := ?_) rfl (by kernel_rfl) (by kernel_rfl) (by kernel_rfl) (by kernel_rfl) (fun _ _ _ h => h) (Or.inl ⟨by rfl, ?_⟩) (by assumption) ?_
      rotate_left 1
      · intro w hSw
        (try dsimp only at hSw)
        (first | (go_simp; done) | (go_simp; with_reducible rfl))
      (try simp only [Act.put, List.getElem_toArray, List.getElem_cons_succ, List.getElem_cons_zero, List.setIfInBounds_toArray, List.set_cons_zero, List.set_cons_succ])
      refine wpAnyF_take (i := 9) (oi := _) (v := undef) rfl (by kernel_rfl) (by kernel_rfl) (by kernel_rfl) (by kernel_rfl) (fun _ _ _ h => h) (Or.inr ⟨by rfl, rfl⟩) (by assumption) ?_
      (try simp only [Act.put, List.getElem_toArray, List.getElem_cons_succ, List.getElem_cons_zero, List.setIfInBounds_toArray, List.set_cons_zero, List.set_cons_succ])
      refine wpAnyF_take (i := 10) (oi := _) (v := undef) rfl (by kernel_rfl) (by kernel_rfl) (by kernel_rfl) (by kernel_rfl) (fun _ _ _ h => h) (Or.inr ⟨by rfl, rfl⟩) (by assumption) ?_
      (try simp only [Act.put, List.getElem_toArray, List.getElem_cons_succ, List.getElem_cons_zero, List.setIfInBounds_toArray, List.set_cons_zero, List.set_cons_succ])
      refine wpAnyF_take (i := 11) (oi := _) (v := ?_) rfl (by kernel_rfl) (by kernel_rfl) (by kernel_rfl) (by kernel_rfl) (fun _ _ _ h => h) (Or.inl ⟨by rfl, ?_⟩) (by assumption) ?_
      rotate_left 1
      · intro w hSw
        (try dsimp only at hSw)
        (first | (go_simp; done) | (go_simp; with_reducible rfl))
      (try simp only [Act.put, List.getElem_toArray, List.getElem_cons_succ, List.getElem_cons_zero, List.setIfInBounds_toArray, List.set_cons_zero, List.set_cons_succ])
      refine wpAnyF_ready (rs := [12]) (by kernel_rfl) (by simp) ?_
      refine AllReadyF.cons (o := _) rfl (fun K hK => ?_) AllReadyF.nil
      rw [if_pos (by kernel_rfl)]
      refine wp_store_row 28 (.tmp 2) (.tmp 39) rfl (w.heap.size + 1) #[.int .i64 (x0 : Int), .bool yb, .int .i64 (y1 : Int), .int .i64 (y2 : Int), .int .i64 (y3 : Int), .int .i64 (y4 : Int), .slice A5 m5 c5] rfl rfl _ _ HRf.out (info7 _ _ _ _ _ _ _ _ _) rfl (one7 _ _ _ _ _ _ _ _ _) ?_
      have HXS : Hid ((wf.drew.setRow (w.heap.size + 1) #[.int .i64 (x0 : Int), .bool yb, .int .i64 (y1 : Int), .int .i64 (y2 : Int), .int .i64 (y3 : Int), .int .i64 (y4 : Int), .slice A5 m5 c5]).heap[w.heap.size]? = some (.cells #[.pointer (some ⟨g, 0, none⟩)] 55 (0, 0))) := Lib.hid ((setRow_other _ _ _ _ (by omega)).trans HXf.out)
      have HAS : Hid ((wf.drew.setRow (w.heap.size + 1) #[.int .i64 (x0 : Int), .bool yb, .int .i64 (y1 : Int), .int .i64 (y2 : Int), .int .i64 (y3 : Int), .int .i64 (y4 : Int), .slice A5 m5 c5]).heap[w2.heap.size]? = some (.cells #[.int .i64 (x0 : Int), .bool yb, .int .i64 (y1 : Int), .int .i64 (y2 : Int), .int .i64 (y3 : Int), .int .i64 (y4 : Int), .slice A5 m5 c5] 28 (0, 0))) := Lib.hid ((setRow_other _ _ _ _ (by have := HSZ2.out; omega)).trans HAf.out)
      refine hK.out _ _ (⟨blk_cell HXS.out 0, blk_cell HAS.out 0, blk_cell HAS.out 1, blk_cell HAS.out 2, blk_cell HAS.out 3, blk_cell HAS.out 4, blk_cell HAS.out 5, blk_cell HAS.out 6⟩) (fun hHeld12 => ?_)
      clear hK K
      (try simp only [Act.put, List.getElem_toArray, List.getElem_cons_succ, List.getElem_cons_zero, List.setIfInBounds_toArray, List.set_cons_zero, List.set_cons_succ])
      refine wpAnyF_take (i := 13) (oi := _) (v := ?_) rfl (by kernel_rfl) (by kernel_rfl) (by kernel_rfl) (by kernel_rfl) (fun _ _ _ h => h) (Or.inl ⟨by rfl, ?_⟩) (by assumption) ?_
      rotate_left 1
      · intro w hSw
        (try dsimp only at hSw)
        (first | (go_simp; done) | (go_simp; with_reducible rfl))
      (try simp only [Act.put, List.getElem_toArray, List.getElem_cons_succ, List.getElem_cons_zero, List.setIfInBounds_toArray, List.set_cons_zero, List.set_cons_succ])
      refine wpAnyF_done (by kernel_rfl) ?_ _
      go_wp2
      exact bodyPost_ret (v := .tuple #[.agg #[.int .i64 (x0 : Int), .bool yb, .int .i64 (y1 : Int), .int .i64 (y2 : Int), .int .i64 (y3 : Int), .int .i64 (y4 : Int), .slice A5 m5 c5], .bool false]) (results_row_tmp rfl _ _ (w.heap.size + 1) 28 #[.int .i64 (x0 : Int), .bool yb, .int .i64 (y1 : Int), .int .i64 (y2 : Int), .int .i64 (y3 : Int), .int .i64 (y4 : Int), .slice A5 m5 c5] (0, 0) _ (.bool false) rfl rfl (setRow_heap _ _ _ _ _ _ HRf.out) Try.underlying28 rfl (info7 _ _ _ _ _ _ _ _ _)) rfl (HFNO.out wf.drew (only_drew HGf.out) HNO.out)
    · have hx1I : (x1 : Int) ≤ 1 := by omega
      by_cases he8 : e8 = 0
      · subst he8
        have HMAY : Hid (Calls Try.prog 8 #[.agg #[.int .i64 (x0 : Int), .bool yb, .int .i64 (y1 : Int), .int .i64 (y2 : Int), .int .i64 (y3 : Int), .int .i64 (y4 : Int), .slice A5 m5 c5]] wf.drew (SameTo wf.drew (mayA (⟨(x0 : Nat), yb, (y1 : Nat), (y2 : Nat), (y3 : Nat), (y4 : Nat), bs⟩ : Ac)))) := Lib.hid (pmay_any (⟨(x0 : Nat), yb, (y1 : Nat), (y2 : Nat), (y3 : Nat), (y4 : Nat), bs⟩ : Ac) A5 m5 c5 wf.drew HBSw.out)
        cases hmm : mayA (⟨(x0 : Nat), yb, (y1 : Nat), (y2 : Nat), (y3 : Nat), (y4 : Nat), bs⟩ : Ac)
        · have HNO := Lib.hid (HSQ2.out (fun h => by rw [hmm] at h; cases h.2.2))
          rw [hmm] at HMAY
          clear HSQ1 HSQ2 hmm
          refine wp_region_F (S := (fun w' => w'.cell? ⟨w.heap.size, 0, none⟩ = some (.pointer (some ⟨g, 0, none⟩)) ∧ w'.cell? ⟨w2.heap.size, 0, none⟩ = some (.int .i64 (x0 : Int)) ∧ w'.cell? ⟨w2.heap.size, 1, none⟩ = some (.bool yb) ∧ w'.cell? ⟨w2.heap.size, 2, none⟩ = some (.int .i64 (y1 : Int)) ∧ w'.cell? ⟨w2.heap.size, 3, none⟩ = some (.int .i64 (y2 : Int)) ∧ w'.cell? ⟨w2.heap.size, 4, none⟩ = some (.int .i64 (y3 : Int)) ∧ w'.cell? ⟨w2.heap.size, 5, none⟩ = some (.int .i64 (y4 : Int)) ∧ w'.cell? ⟨w2.heap.size, 6, none⟩ = some (.slice A5 m5 c5))) [] (by kernel_rfl) (⟨blk_cell HXf.out 0, blk_cell HAf.out 0, blk_cell HAf.out 1, blk_cell HAf.out 2, blk_cell HAf.out 3, blk_cell HAf.out 4, blk_cell HAf.out 5, blk_cell HAf.out 6⟩) (fun hHeld => ?_)
          refine wpAnyF_take (i := 0) (oi := _) (v := ?_) rfl (by kernel_rfl) (by kernel_rfl) (by kernel_rfl) (by kernel_rfl) (fun _ _ _ h => h) (Or.inl ⟨by rfl, ?_⟩) (by assumption) ?_
          rotate_left 1
          · intro w hSw
            (try dsimp only at hSw)
            (first | (go_simp; done) | (go_simp; with_reducible rfl))
          (try simp only [Act.put, List.getElem_toArray, List.getElem_cons_succ, List.getElem_cons_zero, List.setIfInBounds_toArray, List.set_cons_zero, List.set_cons_succ])
          refine wpAnyF_take (i := 1) (oi := _) (v := ?_) rfl (by kernel_rfl) (by kernel_rfl) (by kernel_rfl) (by kernel_rfl) (fun _ _ _ h => h) (Or.inl ⟨by rfl, ?_⟩) (by assumption) ?_
          rotate_left 1
          · intro w hSw
            (try dsimp only at hSw)
            (first | (go_simp; done) | (go_simp; with_reducible rfl))
          (try simp only [Act.put, List.getElem_toArray, List.getElem_cons_succ, List.getElem_cons_zero, List.setIfInBounds_toArray, List.set_cons_zero, List.set_cons_succ])
          refine wpAnyF_take (i := 2) (oi := _) (v := ?_) rfl (by kernel_rfl) (by kernel_rfl) (by kernel_rfl) (by kernel_rfl) (fun _ _ _ h => h) (Or.inl ⟨by rfl, ?_⟩) (by assumption) ?_
          rotate_left 1
          · intro w hSw
            (try dsimp only at hSw)
            (first | (go_simp; done) | (go_simp; with_reducible rfl))
          (try simp only [Act.put, List.getElem_toArray, List.getElem_cons_succ, List.getElem_cons_zero, List.setIfInBounds_toArray, List.set_cons_zero, List.set_cons_succ])
          refine wpAnyF_take (i := 3) (oi := _) (v := ?_) rfl (by kernel_rfl) (by kernel_rfl) (by kernel_rfl) (by kernel_rfl) (fun _ _ _ h => h) (Or.inl ⟨by rfl, ?_⟩) (by assumption) ?_
          rotate_left 1
          · intro w hSw
            (try dsimp only at hSw)
            (first | (go_simp; done) | (go_simp; with_reducible rfl))
          (try simp only [Act.put, List.getElem_toArray, List.getElem_cons_succ, List.getElem_cons_zero, List.setIfInBounds_toArray, List.set_cons_zero, List.set_cons_succ])
          refine wpAnyF_take (i := 4) (oi := _) (v := ?_) rfl (by kernel_rfl) (by kernel_rfl) (by kernel_rfl) (by kernel_rfl) (fun _ _ _ h => h) (Or.inl ⟨by rfl, ?_⟩) (by assumption) ?_
          rotate_left 1
          · intro w hSw
            (try dsimp only at hSw)
            (first | (go_simp; done) | (go_simp; with_reducible rfl))
          (try simp only [Act.put, List.getElem_toArray, List.getElem_cons_succ, List.getElem_cons_zero, List.setIfInBounds_toArray, List.set_cons_zero, List.set_cons_succ])
          refine wpAnyF_ready (rs := [5]) (by kernel_rfl) (by simp) ?_
          refine AllReadyF.cons (o := _) rfl (fun K hK => ?_) AllReadyF.nil
          go_simp
          refine (err_tk g l8 0 _ HTf.out.dr).mono ?_
          rintro e we ⟨rfl, rfl⟩
          refine hK.out _ _ (⟨blk_cell HXf.out 0, blk_cell HAf.out 0, blk_cell HAf.out 1, blk_cell HAf.out 2, blk_cell HAf.out 3, blk_cell HAf.out 4, blk_cell HAf.out 5, blk_cell HAf.out 6⟩) (fun hHeld5 => ?_)
          clear hK K
          (try simp only [Act.put, List.getElem_toArray, List.getElem_cons_succ, List.getElem_cons_zero, List.setIfInBounds_toArray, List.set_cons_zero, List.set_cons_succ])
          refine wpAnyF_take (i := 6) (oi := _) (v := ?_) rfl (by kernel_rfl) (by kernel_rfl) (by kernel_rfl) (by kernel_rfl) (fun _ _ _ h => h) (Or.inl ⟨by rfl, ?_⟩) (by assumption) ?_
          rotate_left 1
          · intro w hSw
            (try dsimp only at hSw)
            (first | (go_simp; done) | (go_simp; with_reducible rfl))
          (try simp only [Act.put, List.getElem_toArray, List.getElem_cons_succ, List.getElem_cons_zero, List.setIfInBounds_toArray, List.set_cons_zero, List.set_cons_succ])
          refine wpAnyF_take (i := 7) (oi := _) (v := ?_) rfl (by kernel_rfl) (by kernel_rfl) (by kernel_rfl) (by kernel_rfl) (fun _ _ _ h => h) (Or.inl ⟨by rfl, ?_⟩) (by assumption) ?_
          rotate_left 1
          · intro w hSw
            (try dsimp only at hSw)
            (first | (go_simp; done) | (go_simp; with_reducible rfl))
          (try simp only [Act.put, List.getElem_toArray, List.getElem_cons_succ, List.getElem_cons_zero, List.setIfInBounds_toArray, List.set_cons_zero, List.set_cons_succ])
          refine wpAnyF_take (i := 8) (oi := _) (v := ?_) rfl (by kernel_rfl) (by kernel_rfl) (by kernel_rfl) (by kernel_rfl) (fun _ _ _ h => h) (Or.inl ⟨by rfl, ?_⟩) (by assumption) ?_
          rotate_left 1
          · intro w hSw
            (try dsimp only at hSw)
            (first | (go_simp; done) | (go_simp; with_reducible rfl))
          (try simp only [Act.put, List.getElem_toArray, List.getElem_cons_succ, List.getElem_cons_zero, List.setIfInBounds_toArray, List.set_cons_zero, List.set_cons_succ])
          refine wpAnyF_take (i := 9) (oi := _) (v := ?_) rfl (by kernel_rfl) (by kernel_rfl) (by kernel_rfl) (by kernel_rfl) (fun _ _ _ h => h) (Or.inl ⟨by rfl, ?_⟩) (by assumption) ?_
          rotate_left 1
          · intro w hSw
            (try dsimp only at hSw)
            (first | (go_simp; done) | (go_simp; with_reducible rfl))
          (try simp only [Act.put, List.getElem_toArray, List.getElem_cons_succ, List.getElem_cons_zero, List.setIfInBounds_toArray, List.set_cons_zero, List.set_cons_succ])
          refine wpAnyF_ready (rs := [10]) (by kernel_rfl) (by simp) ?_
          refine AllReadyF.cons (o := _) rfl (fun K hK => ?_) AllReadyF.nil
          go_simp
          refine (HMAY.out).mono ?_
          rintro e wm ⟨rfl, hbm⟩
          have HXm : Hid (wm.heap[w.heap.size]? = some (.cells #[.pointer (some ⟨g, 0, none⟩)] 55 (0, 0))) := Lib.hid ((hbm.block _ (blk_lt HXf.out)).trans HXf.out)
          have HRm : Hid (wm.heap[w.heap.size + 1]? = some (.cells #[.int .i64 0, .bool false, .int .i64 0, .int .i64 0, .int .i64 0, .int .i64 0, .slice none 0 0] 28 (0, 0))) := Lib.hid ((hbm.block _ (blk_lt HRf.out)).trans HRf.out)
          have HAm : Hid (wm.heap[w2.heap.size]? = some (.cells #[.int .i64 (x0 : Int), .bool yb, .int .i64 (y1 : Int), .int .i64 (y2 : Int), .int .i64 (y3 : Int), .int .i64 (y4 : Int), .slice A5 m5 c5] 28 (0, 0))) := Lib.hid ((hbm.block _ (blk_lt HAf.out)).trans HAf.out)
          have HGm : Hid (w.grownBy wm (some g)) := Lib.hid (only_trans (only_drew HGf.out) (only_below hbm))
          have HTm : Hid (RowSt wm g 72 l8 0) := Lib.hid (RowSt.below (W := wf.drew) HTf.out.dr hbm)
          have HOm : Hid (Own wm w.heap.size (.slice A5 m5 c5) bs) := Lib.hid (Own.below (w := wf.drew) HOf.out hbm)
          clear hbm
          refine hK.out _ _ (⟨blk_cell HXm.out 0, blk_cell HAm.out 0, blk_cell HAm.out 1, blk_cell HAm.out 2, blk_cell HAm.out 3, blk_cell HAm.out 4, blk_cell HAm.out 5, blk_cell HAm.out 6⟩) (fun hHeld10 => ?_)
          clear hK K
          (try simp only [Act.put, List.getElem_toArray, List.getElem_cons_succ, List.getElem_cons_zero, List.setIfInBounds_toArray, List.set_cons_zero, List.set_cons_succ])
          refine wpAnyF_take (i := 11) (oi := _) (v := ?_) rfl (by kernel_rfl) (by kernel_rfl) (by kernel_rfl) (by kernel_rfl) (fun _ _ _ h => h) (Or.inl ⟨by rfl, ?_⟩) (by assumption) ?_
          rotate_left 1
          · intro w hSw
            (try dsimp only at hSw)
            (first | (go_simp; done) | (go_simp; with_reducible rfl))
          (try simp only [Act.put, List.getElem_toArray, List.getElem_cons_succ, List.getElem_cons_zero, List.setIfInBounds_toArray, List.set_cons_zero, List.set_cons_succ])
          refine wpAnyF_ready (rs := [12]) (by kernel_rfl) (by simp) ?_
          refine AllReadyF.cons (o := _) rfl (fun K hK => ?_) AllReadyF.nil
          rw [if_pos (by kernel_rfl)]
          refine wp_store_row 28 (.tmp 2) (.tmp 39) rfl (w.heap.size + 1) #[.int .i64 (x0 : Int), .bool yb, .int .i64 (y1 : Int), .int .i64 (y2 : Int), .int .i64 (y3 : Int), .int .i64 (y4 : Int), .slice A5 m5 c5] rfl rfl _ _ HRm.out (info7 _ _ _ _ _ _ _ _ _) rfl (one7 _ _ _ _ _ _ _ _ _) ?_
          have HXS : Hid ((wm.setRow (w.heap.size + 1) #[.int .i64 (x0 : Int), .bool yb, .int .i64 (y1 : Int), .int .i64 (y2 : Int), .int .i64 (y3 : Int), .int .i64 (y4 : Int), .slice A5 m5 c5]).heap[w.heap.size]? = some (.cells #[.pointer (some ⟨g, 0, none⟩)] 55 (0, 0))) := Lib.hid ((setRow_other _ _ _ _ (by omega)).trans HXm.out)
          have HAS : Hid ((wm.setRow (w.heap.size + 1) #[.int .i64 (x0 : Int), .bool yb, .int .i64 (y1 : Int), .int .i64 (y2 : Int), .int .i64 (y3 : Int), .int .i64 (y4 : Int), .slice A5 m5 c5]).heap[w2.heap.size]? = some (.cells #[.int .i64 (x0 : Int), .bool yb, .int .i64 (y1 : Int), .int .i64 (y2 : Int), .int .i64 (y3 : Int), .int .i64 (y4 : Int), .slice A5 m5 c5] 28 (0, 0))) := Lib.hid ((setRow_other _ _ _ _ (by have := HSZ2.out; omega)).trans HAm.out)
          refine hK.out _ _ (⟨blk_cell HXS.out 0, blk_cell HAS.out 0, blk_cell HAS.out 1, blk_cell HAS.out 2, blk_cell HAS.out 3, blk_cell HAS.out 4, blk_cell HAS.out 5, blk_cell HAS.out 6⟩) (fun hHeld12 => ?_)
          clear hK K
          (try simp only [Act.put, List.getElem_toArray, List.getElem_cons_succ, List.getElem_cons_zero, List.setIfInBounds_toArray, List.set_cons_zero, List.set_cons_succ])
          refine wpAnyF_take (i := 13) (oi := _) (v := ?_) rfl (by kernel_rfl) (by kernel_rfl) (by kernel_rfl) (by kernel_rfl) (fun _ _ _ h => h) (Or.inl ⟨by rfl, ?_⟩) (by assumption) ?_
          rotate_left 1
          · intro w hSw
            (try dsimp only at hSw)
            (first | (go_simp; done) | (go_simp; with_reducible rfl))
          (try simp only [Act.put, List.getElem_toArray, List.getElem_cons_succ, List.getElem_cons_zero, List.setIfInBounds_toArray, List.set_cons_zero, List.set_cons_succ])
          refine wpAnyF_done (by kernel_rfl) ?_ _
          go_wp2
          exact bodyPost_ret (v := .tuple #[.agg #[.int .i64 (x0 : Int), .bool yb, .int .i64 (y1 : Int), .int .i64 (y2 : Int), .int .i64 (y3 : Int), .int .i64 (y4 : Int), .slice A5 m5 c5], .bool false]) (results_row_tmp rfl _ _ (w.heap.size + 1) 28 #[.int .i64 (x0 : Int), .bool yb, .int .i64 (y1 : Int), .int .i64 (y2 : Int), .int .i64 (y3 : Int), .int .i64 (y4 : Int), .slice A5 m5 c5] (0, 0) _ (.bool false) rfl rfl (setRow_heap _ _ _ _ _ _ HRm.out) Try.underlying28 rfl (info7 _ _ _ _ _ _ _ _ _)) rfl (HFNO.out wm HGm.out HNO.out)
        · have HYES := Lib.hid (HSQ1.out ⟨by omega, rfl, hmm⟩)
          rw [hmm] at HMAY
          clear HSQ1 HSQ2 hmm
          refine wp_region_F (S := (fun w' => w'.cell? ⟨w.heap.size, 0, none⟩ = some (.pointer (some ⟨g, 0, none⟩)) ∧ w'.cell? ⟨w2.heap.size, 0, none⟩ = some (.int .i64 (x0 : Int)) ∧ w'.cell? ⟨w2.heap.size, 1, none⟩ = some (.bool yb) ∧ w'.cell? ⟨w2.heap.size, 2, none⟩ = some (.int .i64 (y1 : Int)) ∧ w'.cell? ⟨w2.heap.size, 3, none⟩ = some (.int .i64 (y2 : Int)) ∧ w'.cell? ⟨w2.heap.size, 4, none⟩ = some (.int .i64 (y3 : Int)) ∧ w'.cell? ⟨w2.heap.size, 5, none⟩ = some (.int .i64 (y4 : Int)) ∧ w'.cell? ⟨w2.heap.size, 6, none⟩ = some (.slice A5 m5 c5))) [] (by kernel_rfl) (⟨blk_cell HXf.out 0, blk_cell HAf.out 0, blk_cell HAf.out 1, blk_cell HAf.out 2, blk_cell HAf.out 3, blk_cell HAf.out 4, blk_cell HAf.out 5, blk_cell HAf.out 6⟩) (fun hHeld => ?_)
          refine wpAnyF_take (i := 0) (oi := _) (v := ?_) rfl (by kernel_rfl) (by kernel_rfl) (by kernel_rfl) (by kernel_rfl) (fun _ _ _ h => h) (Or.inl ⟨by rfl, ?_⟩) (by assumption) ?_
          rotate_left 1
          · intro w hSw
            (try dsimp only at hSw)
            (first | (go_simp; done) | (go_simp; with_reducible rfl))
          (try simp only [Act.put, List.getElem_toArray, List.getElem_cons_succ, List.getElem_cons_zero, List.setIfInBounds_toArray, List.set_cons_zero, List.set_cons_succ])
          refine wpAnyF_take (i := 1) (oi := _) (v := ?_) rfl (by kernel_rfl) (by kernel_rfl) (by kernel_rfl) (by kernel_rfl) (fun _ _ _ h => h) (Or.inl ⟨by rfl, ?_⟩) (by assumption) ?_
          rotate_left 1
          · intro w hSw
            (try dsimp only at hSw)
            (first | (go_simp; done) | (go_simp; with_reducible rfl))
          (try simp only [Act.put, List.getElem_toArray, List.getElem_cons_succ, List.getElem_cons_zero, List.setIfInBounds_toArray, List.set_cons_zero, List.set_cons_succ])
          refine wpAnyF_take (i := 2) (oi := _) (v := ?_) rfl (by kernel_rfl) (by kernel_rfl) (by kernel_rfl) (by kernel_rfl) (fun _ _ _ h => h) (Or.inl ⟨by rfl, ?_⟩) (by assumption) ?_
          rotate_left 1
          · intro w hSw
            (try dsimp only at hSw)
            (first | (go_simp; done) | (go_simp; with_reducible rfl))
          (try simp only [Act.put, List.getElem_toArray, List.getElem_cons_succ, List.getElem_cons_zero, List.setIfInBounds_toArray, List.set_cons_zero, List.set_cons_succ])
          refine wpAnyF_take (i := 3) (oi := _) (v := ?_) rfl (by kernel_rfl) (by kernel_rfl) (by kernel_rfl) (by kernel_rfl) (fun _ _ _ h => h) (Or.inl ⟨by rfl, ?_⟩) (by assumption) ?_
          rotate_left 1
          · intro w hSw
            (try dsimp only at hSw)
            (first | (go_simp; done) | (go_simp; with_reducible rfl))
          (try simp only [Act.put, List.getElem_toArray, List.getElem_cons_succ, List.getElem_cons_zero, List.setIfInBounds_toArray, List.set_cons_zero, List.set_cons_succ])
          refine wpAnyF_take (i := 4) (oi := _) (v := ?_) rfl (by kernel_rfl) (by kernel_rfl) (by kernel_rfl) (by kernel_rfl) (fun _ _ _ h => h) (Or.inl ⟨by rfl, ?_⟩) (by assumption) ?_
          rotate_left 1
          · intro w hSw
            (try dsimp only at hSw)
            (first | (go_simp; done) | (go_simp; with_reducible rfl))
          (try simp only [Act.put, List.getElem_toArray, List.getElem_cons_succ, List.getElem_cons_zero, List.setIfInBounds_toArray, List.set_cons_zero, List.set_cons_succ])
          refine wpAnyF_ready (rs := [5]) (by kernel_rfl) (by simp) ?_
          refine AllReadyF.cons (o := _) rfl (fun K hK => ?_) AllReadyF.nil
          go_simp
          refine (err_tk g l8 0 _ HTf.out.dr).mono ?_
          rintro e we ⟨rfl, rfl⟩
          refine hK.out _ _ (⟨blk_cell HXf.out 0, blk_cell HAf.out 0, blk_cell HAf.out 1, blk_cell HAf.out 2, blk_cell HAf.out 3, blk_cell HAf.out 4, blk_cell HAf.out 5, blk_cell HAf.out 6⟩) (fun hHeld5 => ?_)
          clear hK K
          (try simp only [Act.put, List.getElem_toArray, List.getElem_cons_succ, List.getElem_cons_zero, List.setIfInBounds_toArray, List.set_cons_zero, List.set_cons_succ])
          refine wpAnyF_take (i := 6) (oi := _) (v := ?_) rfl (by kernel_rfl) (by kernel_rfl) (by kernel_rfl) (by kernel_rfl) (fun _ _ _ h => h) (Or.inl ⟨by rfl, ?_⟩) (by assumption) ?_
          rotate_left 1
          · intro w hSw
            (try dsimp only at hSw)
            (first | (go_simp; done) | (go_simp; with_reducible rfl))
          (try simp only [Act.put, List.getElem_toArray, List.getElem_cons_succ, List.getElem_cons_zero, List.setIfInBounds_toArray, List.set_cons_zero, List.set_cons_succ])
          refine wpAnyF_take (i := 7) (oi := _) (v := ?_) rfl (by kernel_rfl) (by kernel_rfl) (by kernel_rfl) (by kernel_rfl) (fun _ _ _ h => h) (Or.inl ⟨by rfl, ?_⟩) (by assumption) ?_
          rotate_left 1
          · intro w hSw
            (try dsimp only at hSw)
            (first | (go_simp; done) | (go_simp; with_reducible rfl))
          (try simp only [Act.put, List.getElem_toArray, List.getElem_cons_succ, List.getElem_cons_zero, List.setIfInBounds_toArray, List.set_cons_zero, List.set_cons_succ])
          refine wpAnyF_take (i := 8) (oi := _) (v := ?_) rfl (by kernel_rfl) (by kernel_rfl) (by kernel_rfl) (by kernel_rfl) (fun _ _ _ h => h) (Or.inl ⟨by rfl, ?_⟩) (by assumption) ?_
          rotate_left 1
          · intro w hSw
            (try dsimp only at hSw)
            (first | (go_simp; done) | (go_simp; with_reducible rfl))
          (try simp only [Act.put, List.getElem_toArray, List.getElem_cons_succ, List.getElem_cons_zero, List.setIfInBounds_toArray, List.set_cons_zero, List.set_cons_succ])
          refine wpAnyF_take (i := 9) (oi := _) (v := ?_) rfl (by kernel_rfl) (by kernel_rfl) (by kernel_rfl) (by kernel_rfl) (fun _ _ _ h => h) (Or.inl ⟨by rfl, ?_⟩) (by assumption) ?_
          rotate_left 1
          · intro w hSw
            (try dsimp only at hSw)
            (first | (go_simp; done) | (go_simp; with_reducible rfl))
          (try simp only [Act.put, List.getElem_toArray, List.getElem_cons_succ, List.getElem_cons_zero, List.setIfInBounds_toArray, List.set_cons_zero, List.set_cons_succ])
          refine wpAnyF_ready (rs := [10]) (by kernel_rfl) (by simp) ?_
          refine AllReadyF.cons (o := _) rfl (fun K hK => ?_) AllReadyF.nil
          go_simp
          refine (HMAY.out).mono ?_
          rintro e wm ⟨rfl, hbm⟩
          have HXm : Hid (wm.heap[w.heap.size]? = some (.cells #[.pointer (some ⟨g, 0, none⟩)] 55 (0, 0))) := Lib.hid ((hbm.block _ (blk_lt HXf.out)).trans HXf.out)
          have HRm : Hid (wm.heap[w.heap.size + 1]? = some (.cells #[.int .i64 0, .bool false, .int .i64 0, .int .i64 0, .int .i64 0, .int .i64 0, .slice none 0 0] 28 (0, 0))) := Lib.hid ((hbm.block _ (blk_lt HRf.out)).trans HRf.out)
          have HAm : Hid (wm.heap[w2.heap.size]? = some (.cells #[.int .i64 (x0 : Int), .bool yb, .int .i64 (y1 : Int), .int .i64 (y2 : Int), .int .i64 (y3 : Int), .int .i64 (y4 : Int), .slice A5 m5 c5] 28 (0, 0))) := Lib.hid ((hbm.block _ (blk_lt HAf.out)).trans HAf.out)
          have HGm : Hid (w.grownBy wm (some g)) := Lib.hid (only_trans (only_drew HGf.out) (only_below hbm))
          have HTm : Hid (RowSt wm g 72 l8 0) := Lib.hid (RowSt.below (W := wf.drew) HTf.out.dr hbm)
          have HOm : Hid (Own wm w.heap.size (.slice A5 m5 c5) bs) := Lib.hid (Own.below (w := wf.drew) HOf.out hbm)
          clear hbm
          refine hK.out _ _ (⟨blk_cell HXm.out 0, blk_cell HAm.out 0, blk_cell HAm.out 1, blk_cell HAm.out 2, blk_cell HAm.out 3, blk_cell HAm.out 4, blk_cell HAm.out 5, blk_cell HAm.out 6⟩) (fun hHeld10 => ?_)
          clear hK K
          (try simp only [Act.put, List.getElem_toArray, List.getElem_cons_succ, List.getElem_cons_zero, List.setIfInBounds_toArray, List.set_cons_zero, List.set_cons_succ])
          refine wpAnyF_take (i := 11) (oi := _) (v := ?_) rfl (by kernel_rfl) (by kernel_rfl) (by kernel_rfl) (by kernel_rfl) (fun _ _ _ h => h) (Or.inl ⟨by rfl, ?_⟩) (by assumption) ?_
          rotate_left 1
          · intro w hSw
            (try dsimp only at hSw)
            (first | (go_simp; done) | (go_simp; with_reducible rfl))
          (try simp only [Act.put, List.getElem_toArray, List.getElem_cons_succ, List.getElem_cons_zero, List.setIfInBounds_toArray, List.set_cons_zero, List.set_cons_succ])
          refine wpAnyF_ready (rs := [12]) (by kernel_rfl) (by simp) ?_
          refine AllReadyF.cons (o := _) rfl (fun K hK => ?_) AllReadyF.nil
          rw [if_pos (by kernel_rfl)]
          refine wp_store_row 28 (.tmp 2) (.tmp 39) rfl (w.heap.size + 1) #[.int .i64 (x0 : Int), .bool yb, .int .i64 (y1 : Int), .int .i64 (y2 : Int), .int .i64 (y3 : Int), .int .i64 (y4 : Int), .slice A5 m5 c5] rfl rfl _ _ HRm.out (info7 _ _ _ _ _ _ _ _ _) rfl (one7 _ _ _ _ _ _ _ _ _) ?_
          have HXS : Hid ((wm.setRow (w.heap.size + 1) #[.int .i64 (x0 : Int), .bool yb, .int .i64 (y1 : Int), .int .i64 (y2 : Int), .int .i64 (y3 : Int), .int .i64 (y4 : Int), .slice A5 m5 c5]).heap[w.heap.size]? = some (.cells #[.pointer (some ⟨g, 0, none⟩)] 55 (0, 0))) := Lib.hid ((setRow_other _ _ _ _ (by omega)).trans HXm.out)
          have HAS : Hid ((wm.setRow (w.heap.size + 1) #[.int .i64 (x0 : Int), .bool yb, .int .i64 (y1 : Int), .int .i64 (y2 : Int), .int .i64 (y3 : Int), .int .i64 (y4 : Int), .slice A5 m5 c5]).heap[w2.heap.size]? = some (.cells #[.int .i64 (x0 : Int), .bool yb, .int .i64 (y1 : Int), .int .i64 (y2 : Int), .int .i64 (y3 : Int), .int .i64 (y4 : Int), .slice A5 m5 c5] 28 (0, 0))) := Lib.hid ((setRow_other _ _ _ _ (by have := HSZ2.out; omega)).trans HAm.out)
          refine hK.out _ _ (⟨blk_cell HXS.out 0, blk_cell HAS.out 0, blk_cell HAS.out 1, blk_cell HAS.out 2, blk_cell HAS.out 3, blk_cell HAS.out 4, blk_cell HAS.out 5, blk_cell HAS.out 6⟩) (fun hHeld12 => ?_)
          clear hK K
          (try simp only [Act.put, List.getElem_toArray, List.getElem_cons_succ, List.getElem_cons_zero, List.setIfInBounds_toArray, List.set_cons_zero, List.set_cons_succ])
          refine wpAnyF_take (i := 13) (oi := _) (v := ?_) rfl (by kernel_rfl) (by kernel_rfl) (by kernel_rfl) (by kernel_rfl) (fun _ _ _ h => h) (Or.inl ⟨by rfl, ?_⟩) (by assumption) ?_
          rotate_left 1
          · intro w hSw
            (try dsimp only at hSw)
            (first | (go_simp; done) | (go_simp; with_reducible rfl))
          (try simp only [Act.put, List.getElem_toArray, List.getElem_cons_succ, List.getElem_cons_zero, List.setIfInBounds_toArray, List.set_cons_zero, List.set_cons_succ])
          refine wpAnyF_done (by kernel_rfl) ?_ _
          go_wp2
          exact bodyPost_ret (v := .tuple #[.agg #[.int .i64 (x0 : Int), .bool yb, .int .i64 (y1 : Int), .int .i64 (y2 : Int), .int .i64 (y3 : Int), .int .i64 (y4 : Int), .slice A5 m5 c5], .bool true]) (results_row_tmp rfl _ _ (w.heap.size + 1) 28 #[.int .i64 (x0 : Int), .bool yb, .int .i64 (y1 : Int), .int .i64 (y2 : Int), .int .i64 (y3 : Int), .int .i64 (y4 : Int), .slice A5 m5 c5] (0, 0) _ (.bool true) rfl rfl (setRow_heap _ _ _ _ _ _ HRm.out) Try.underlying28 rfl (info7 _ _ _ _ _ _ _ _ _)) rfl (by exact ⟨(⟨(x0 : Nat), yb, (y1 : Nat), (y2 : Nat), (y3 : Nat), (y4 : Nat), bs⟩ : Ac), A5, c5, l8, true, by rw [show (⟨(x0 : Nat), yb, (y1 : Nat), (y2 : Nat), (y3 : Nat), (y4 : Nat), bs⟩ : Ac).b.length = m5 from HBS5.out], gr_row2 HGm.out (by omega) _, fun _ => ⟨HYES.out, RowSt.only HTm.out (only_setRow2 _ _ _) (by have := HGR.out; omega) (by have := HGR.out; omega), by rw [show (⟨(x0 : Nat), yb, (y1 : Nat), (y2 : Nat), (y3 : Nat), (y4 : Nat), bs⟩ : Ac).b.length = m5 from HBS5.out]; exact HOm.out.keep (fun k hk => setRow_other _ _ _ _ (by have := HOT.out k hk; have := HSZ2.out; omega)), HBYf.out⟩, fun h => (by cases h)⟩)
      · have he8I : (e8 == 0) = false := by rw [beq_eq_false_iff_ne]; exact he8
        have HNO := Lib.hid (HSQ2.out (fun h => he8 h.2.1))
        clear HSQ1 HSQ2 he8
        refine wp_region_F (S := (fun w' => w'.cell? ⟨w.heap.size, 0, none⟩ = some (.pointer (some ⟨g, 0, none⟩)) ∧ w'.cell? ⟨w2.heap.size, 0, none⟩ = some (.int .i64 (x0 : Int)) ∧ w'.cell? ⟨w2.heap.size, 1, none⟩ = some (.bool yb) ∧ w'.cell? ⟨w2.heap.size, 2, none⟩ = some (.int .i64 (y1 : Int)) ∧ w'.cell? ⟨w2.heap.size, 3, none⟩ = some (.int .i64 (y2 : Int)) ∧ w'.cell? ⟨w2.heap.size, 4, none⟩ = some (.int .i64 (y3 : Int)) ∧ w'.cell? ⟨w2.heap.size, 5, none⟩ = some (.int .i64 (y4 : Int)) ∧ w'.cell? ⟨w2.heap.size, 6, none⟩ = some (.slice A5 m5 c5))) [] (by kernel_rfl) (⟨blk_cell HXf.out 0, blk_cell HAf.out 0, blk_cell HAf.out 1, blk_cell HAf.out 2, blk_cell HAf.out 3, blk_cell HAf.out 4, blk_cell HAf.out 5, blk_cell HAf.out 6⟩) (fun hHeld => ?_)
        refine wpAnyF_take (i := 0) (oi := _) (v := ?_) rfl (by kernel_rfl) (by kernel_rfl) (by kernel_rfl) (by kernel_rfl) (fun _ _ _ h => h) (Or.inl ⟨by rfl, ?_⟩) (by assumption) ?_
        rotate_left 1
        · intro w hSw
          (try dsimp only at hSw)
          (first | (go_simp; done) | (go_simp; with_reducible rfl))
        (try simp only [Act.put, List.getElem_toArray, List.getElem_cons_succ, List.getElem_cons_zero, List.setIfInBounds_toArray, List.set_cons_zero, List.set_cons_succ])
        refine wpAnyF_take (i := 1) (oi := _) (v := ?_) rfl (by kernel_rfl) (by kernel_rfl) (by kernel_rfl) (by kernel_rfl) (fun _ _ _ h => h) (Or.inl ⟨by rfl, ?_⟩) (by assumption) ?_
        rotate_left 1
        · intro w hSw
          (try dsimp only at hSw)
          (first | (go_simp; done) | (go_simp; with_reducible rfl))
        (try simp only [Act.put, List.getElem_toArray, List.getElem_cons_succ, List.getElem_cons_zero, List.setIfInBounds_toArray, List.set_cons_zero, List.set_cons_succ])
        refine wpAnyF_take (i := 2) (oi := _) (v := ?_) rfl (by kernel_rfl) (by kernel_rfl) (by kernel_rfl) (by kernel_rfl) (fun _ _ _ h => h) (Or.inl ⟨by rfl, ?_⟩) (by assumption) ?_
        rotate_left 1
        · intro w hSw
          (try dsimp only at hSw)
          (first | (go_simp; done) | (go_simp; with_reducible rfl))
        (try simp only [Act.put, List.getElem_toArray, List.getElem_cons_succ, List.getElem_cons_zero, List.setIfInBounds_toArray, List.set_cons_zero, List.set_cons_succ])
        refine wpAnyF_take (i := 3) (oi := _) (v := ?_) rfl (by kernel_rfl) (by kernel_rfl) (by kernel_rfl) (by kernel_rfl) (fun _ _ _ h => h) (Or.inl ⟨by rfl, ?_⟩) (by assumption) ?_
        rotate_left 1
        · intro w hSw
          (try dsimp only at hSw)
          (first | (go_simp; done) | (go_simp; with_reducible rfl))
        (try simp only [Act.put, List.getElem_toArray, List.getElem_cons_succ, List.getElem_cons_zero, List.setIfInBounds_toArray, List.set_cons_zero, List.set_cons_succ])
        refine wpAnyF_take (i := 4) (oi := _) (v := ?_) rfl (by kernel_rfl) (by kernel_rfl) (by kernel_rfl) (by kernel_rfl) (fun _ _ _ h => h) (Or.inl ⟨by rfl, ?_⟩) (by assumption) ?_
        rotate_left 1
        · intro w hSw
          (try dsimp only at hSw)
          (first | (go_simp; done) | (go_simp; with_reducible rfl))
        (try simp only [Act.put, List.getElem_toArray, List.getElem_cons_succ, List.getElem_cons_zero, List.setIfInBounds_toArray, List.set_cons_zero, List.set_cons_succ])
        refine wpAnyF_ready (rs := [5]) (by kernel_rfl) (by simp) ?_
        refine AllReadyF.cons (o := _) rfl (fun K hK => ?_) AllReadyF.nil
        go_simp
        refine (err_tk g l8 e8 _ HTf.out.dr).mono ?_
        rintro e we ⟨rfl, rfl⟩
        refine hK.out _ _ (⟨blk_cell HXf.out 0, blk_cell HAf.out 0, blk_cell HAf.out 1, blk_cell HAf.out 2, blk_cell HAf.out 3, blk_cell HAf.out 4, blk_cell HAf.out 5, blk_cell HAf.out 6⟩) (fun hHeld5 => ?_)
        clear hK K
        (try simp only [Act.put, List.getElem_toArray, List.getElem_cons_succ, List.getElem_cons_zero, List.setIfInBounds_toArray, List.set_cons_zero, List.set_cons_succ])
        refine wpAnyF_take (i := 6) (oi := _) (v := ?_) rfl (by kernel_rfl) (by kernel_rfl) (by kernel_rfl) (by kernel_rfl) (fun _ _ _ h => h) (Or.inl ⟨by rfl, ?_⟩) (by assumption) ?_
        rotate_left 1
        · intro w hSw
          (try dsimp only at hSw)
          (first | (go_simp; done) | (go_simp; with_reducible rfl))
        (try simp only [Act.put, List.getElem_toArray, List.getElem_cons_succ, List.getElem_cons_zero, List.setIfInBounds_toArray, List.set_cons_zero, List.set_cons_succ])
        refine wpAnyF_take (i := 7) (oi := _) (v := ?_) rfl (by kernel_rfl) (by kernel_rfl) (by kernel_rfl) (by kernel_rfl) (fun _ _ _ h => h) (Or.inl ⟨by rfl, ?_⟩) (by assumption) ?_
        rotate_left 1
        · intro w hSw
          (try dsimp only at hSw)
          (first | (go_simp; done) | (go_simp; with_reducible rfl))
        (try simp only [Act.put, List.getElem_toArray, List.getElem_cons_succ, List.getElem_cons_zero, List.setIfInBounds_toArray, List.set_cons_zero, List.set_cons_succ])
        refine wpAnyF_take (i := 8) (oi := _) (v := ?_) rfl (by kernel_rfl) (by kernel_rfl) (by kernel_rfl) (by kernel_rfl) (fun _ _ _ h => h) (Or.inl ⟨by rfl, ?_⟩) (by assumption) ?_
        rotate_left 1
        · intro w hSw
          (try dsimp only at hSw)
          (first | (go_simp; done) | (go_simp; with_reducible rfl))
        (try simp only [Act.put, List.getElem_toArray, List.getElem_cons_succ, List.getElem_cons_zero, List.setIfInBounds_toArray, List.set_cons_zero, List.set_cons_succ])
        refine wpAnyF_take (i := 9) (oi := _) (v := undef) rfl (by kernel_rfl) (by kernel_rfl) (by kernel_rfl) (by kernel_rfl) (fun _ _ _ h => h) (Or.inr ⟨by rfl, rfl⟩) (by assumption) ?_
        (try simp only [Act.put, List.getElem_toArray, List.getElem_cons_succ, List.getElem_cons_zero, List.setIfInBounds_toArray, List.set_cons_zero, List.set_cons_succ])
        refine wpAnyF_take (i := 10) (oi := _) (v := undef) rfl (by kernel_rfl) (by kernel_rfl) (by kernel_rfl) (by kernel_rfl) (fun _ _ _ h => h) (Or.inr ⟨by rfl, rfl⟩) (by assumption) ?_
        (try simp only [Act.put, List.getElem_toArray, List.getElem_cons_succ, List.getElem_cons_zero, List.setIfInBounds_toArray, List.set_cons_zero, List.set_cons_succ])
        refine wpAnyF_take (i := 11) (oi := _) (v := ?_) rfl (by kernel_rfl) (by kernel_rfl) (by kernel_rfl) (by kernel_rfl) (fun _ _ _ h => h) (Or.inl ⟨by rfl, ?_⟩) (by assumption) ?_
        rotate_left 1
        · intro w hSw
          (try dsimp only at hSw)
          (first | (go_simp; done) | (go_simp; with_reducible rfl))
        (try simp only [Act.put, List.getElem_toArray, List.getElem_cons_succ, List.getElem_cons_zero, List.setIfInBounds_toArray, List.set_cons_zero, List.set_cons_succ])
        refine wpAnyF_ready (rs := [12]) (by kernel_rfl) (by simp) ?_
        refine AllReadyF.cons (o := _) rfl (fun K hK => ?_) AllReadyF.nil
        rw [if_pos (by kernel_rfl)]
        refine wp_store_row 28 (.tmp 2) (.tmp 39) rfl (w.heap.size + 1) #[.int .i64 (x0 : Int), .bool yb, .int .i64 (y1 : Int), .int .i64 (y2 : Int), .int .i64 (y3 : Int), .int .i64 (y4 : Int), .slice A5 m5 c5] rfl rfl _ _ HRf.out (info7 _ _ _ _ _ _ _ _ _) rfl (one7 _ _ _ _ _ _ _ _ _) ?_
        have HXS : Hid ((wf.drew.setRow (w.heap.size + 1) #[.int .i64 (x0 : Int), .bool yb, .int .i64 (y1 : Int), .int .i64 (y2 : Int), .int .i64 (y3 : Int), .int .i64 (y4 : Int), .slice A5 m5 c5]).heap[w.heap.size]? = some (.cells #[.pointer (some ⟨g, 0, none⟩)] 55 (0, 0))) := Lib.hid ((setRow_other _ _ _ _ (by omega)).trans HXf.out)
        have HAS : Hid ((wf.drew.setRow (w.heap.size + 1) #[.int .i64 (x0 : Int), .bool yb, .int .i64 (y1 : Int), .int .i64 (y2 : Int), .int .i64 (y3 : Int), .int .i64 (y4 : Int), .slice A5 m5 c5]).heap[w2.heap.size]? = some (.cells #[.int .i64 (x0 : Int), .bool yb, .int .i64 (y1 : Int), .int .i64 (y2 : Int), .int .i64 (y3 : Int), .int .i64 (y4 : Int), .slice A5 m5 c5] 28 (0, 0))) := Lib.hid ((setRow_other _ _ _ _ (by have := HSZ2.out; omega)).trans HAf.out)
        refine hK.out _ _ (⟨blk_cell HXS.out 0, blk_cell HAS.out 0, blk_cell HAS.out 1, blk_cell HAS.out 2, blk_cell HAS.out 3, blk_cell HAS.out 4, blk_cell HAS.out 5, blk_cell HAS.out 6⟩) (fun hHeld12 => ?_)
        clear hK K
        (try simp only [Act.put, List.getElem_toArray, List.getElem_cons_succ, List.getElem_cons_zero, List.setIfInBounds_toArray, List.set_cons_zero, List.set_cons_succ])
        refine wpAnyF_take (i := 13) (oi := _) (v := ?_) rfl (by kernel_rfl) (by kernel_rfl) (by kernel_rfl) (by kernel_rfl) (fun _ _ _ h => h) (Or.inl ⟨by rfl, ?_⟩) (by assumption) ?_
        rotate_left 1
        · intro w hSw
          (try dsimp only at hSw)
          (first | (go_simp; done) | (go_simp; with_reducible rfl))
        (try simp only [Act.put, List.getElem_toArray, List.getElem_cons_succ, List.getElem_cons_zero, List.setIfInBounds_toArray, List.set_cons_zero, List.set_cons_succ])
        refine wpAnyF_done (by kernel_rfl) ?_ _
        go_wp2
        exact bodyPost_ret (v := .tuple #[.agg #[.int .i64 (x0 : Int), .bool yb, .int .i64 (y1 : Int), .int .i64 (y2 : Int), .int .i64 (y3 : Int), .int .i64 (y4 : Int), .slice A5 m5 c5], .bool false]) (results_row_tmp rfl _ _ (w.heap.size + 1) 28 #[.int .i64 (x0 : Int), .bool yb, .int .i64 (y1 : Int), .int .i64 (y2 : Int), .int .i64 (y3 : Int), .int .i64 (y4 : Int), .slice A5 m5 c5] (0, 0) _ (.bool false) rfl rfl (setRow_heap _ _ _ _ _ _ HRf.out) Try.underlying28 rfl (info7 _ _ _ _ _ _ _ _ _)) rfl (HFNO.out wf.drew (only_drew HGf.out) HNO.out)
end Go.Proofs.Ytkgmggjlnibgmaa
