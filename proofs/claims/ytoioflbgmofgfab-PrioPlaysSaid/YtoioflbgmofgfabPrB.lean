/-
  A queue: less, Len, none, Less.
-/
import Derived.Test.YtoioflbgmofgfabPrA
import Derived.Test.YtoioflbgmofgfabClsC
namespace Go.Proofs.Ytoioflbgmofgfab
open Go.RowKit Go
set_option linter.unusedVariables false
set_option linter.unusedSimpArgs false
theorem less_any (a b c d : Int) (w : World) : Calls Try.prog 17 #[.agg #[.int .i64 a, .int .i64 b], .agg #[.int .i64 c, .int .i64 d]] w fun e w' => e = .returned (.bool (decide (a < c))) ∧ Below w.heap.size w w' := by
  go_enter Try.func17, Try.ntmps17
  go_wp2
  go_ret
  exact ⟨rfl, ((Below.refl _ _).alloc (Nat.le_refl _) _).alloc (by simp) _⟩
theorem rowlen_any (g n c : Nat) (A : Option Addr) (w : World) (h : w.cell? ⟨g, 1, none⟩ = some (.slice A n c)) :
    Calls Try.prog 37 #[.pointer (some ⟨g, 0, none⟩)] w fun e w' => e = .returned (.int .i64 (n : Int)) ∧ w = w' := by
  go_enter Try.func37, Try.ntmps37
  go_wp2
  go_ret
  exact ⟨rfl, rfl⟩
theorem noneq_nil (w : World) : Calls Try.prog 34 #[.pointer none] w fun e w' => e = .returned (.bool true) ∧ w = w' := by
  go_enter Try.func34, Try.ntmps34
  go_wp2
  go_ret
  exact ⟨rfl, rfl⟩
theorem noneq_any (g : Nat) (w : World) (h : w.cell? ⟨g, 0, none⟩ = some (.func (Fn.func 17) #[] #[])) :
    Calls Try.prog 34 #[.pointer (some ⟨g, 0, none⟩)] w fun e w' => e = .returned (.bool false) ∧ w = w' := by
  have q : ∀ w : World, (binOp .eql 46 (.func (Fn.func 17) #[] #[]) .nilFunc).run Try.prog w = .ok (.bool false) w := fun _ => by kernel_rfl
  go_enter Try.func34, Try.ntmps34
  go_wp2
  go_ret
  exact ⟨rfl, rfl⟩
theorem qlen_nil (w : World) : Calls Try.prog 24 #[.pointer none] w fun e w' => e = .returned (.int .i64 0) ∧ w = w' := by
  go_enter Try.func24, Try.ntmps24
  go_wp2_with (go_at_call 34; (with_reducible refine (noneq_nil _).mono ?_); rintro e w' ⟨rfl, rfl⟩)
  go_ret
  exact ⟨rfl, rfl⟩
theorem qlen_any (g t : Nat) (v : Value) (es : List En) (w : World) (h : Qu w g v es t) :
    Calls Try.prog 24 #[.pointer (some ⟨g, 0, none⟩)] w fun e w' => e = .returned (.int .i64 (es.length : Int)) ∧ w = w' := by
  obtain ⟨A, c, rfl, _⟩ := h.own.form
  have H1 := Lib.hid (rowlen_any g es.length c A w h.dev.l)
  have H0 := Lib.hid (noneq_any g w h.dev.less)
  clear h
  generalize es.length = n at *
  go_enter Try.func24, Try.ntmps24
  go_wp2_with (first
    | (go_at_call 34; (with_reducible refine H0.out.mono ?_); rintro e w' ⟨rfl, rfl⟩)
    | (go_at_call 37; (with_reducible refine H1.out.mono ?_); rintro e w' ⟨rfl, rfl⟩))
  go_ret
  exact ⟨rfl, rfl⟩
/-- what Less loads -/
def LS (g b n cap i j : Nat) (x y : En) (W : World) : Prop :=
  W.cell? ⟨g, 1, none⟩ = some (.slice (some ⟨b, 0, none⟩) n cap) ∧ W.cell? ⟨b, i * 3, none⟩ = some (.int .i64 x.n) ∧ W.cell? ⟨b, i * 3 + 1, none⟩ = some (.int .i64 x.m) ∧ W.cell? ⟨b, i * 3 + 2, none⟩ = some (.int .u64 (x.t : Int)) ∧ W.cell? ⟨b, j * 3, none⟩ = some (.int .i64 y.n) ∧ W.cell? ⟨b, j * 3 + 1, none⟩ = some (.int .i64 y.m) ∧ W.cell? ⟨b, j * 3 + 2, none⟩ = some (.int .u64 (y.t : Int))
theorem cell_next {W W' : World} {p : Addr} {v : Value} (h : W.cell? p = some v) (hb : Below W.heap.size W W') : W'.cell? p = some v := (hb.cell (World.block_lt_of_cell? W p h)).trans h
theorem LS.next {g b n cap i j : Nat} {x y : En} {W W' : World} (h : LS g b n cap i j x y W) (hb : Below W.heap.size W W') : LS g b n cap i j x y W' :=
  ⟨cell_next h.1 hb, cell_next h.2.1 hb, cell_next h.2.2.1 hb, cell_next h.2.2.2.1 hb, cell_next h.2.2.2.2.1 hb, cell_next h.2.2.2.2.2.1 hb, cell_next h.2.2.2.2.2.2 hb⟩
theorem zero_en : (Try.prog.info? EnT).map (fun i => (i.zero, i.size, i.bytes)) = some (some (.agg #[.int .i64 0, .int .i64 0, .int .u64 0]), 3, 24) := by kernel_rfl
abbrev zeroEn : Obj := .cells #[.int .i64 0, .int .i64 0, .int .u64 0] EnT
theorem set3 {W : World} {q : Nat} {c : Array Value} (h : W.heap[q]? = some (.cells c EnT (0, 0))) (hc : c.size = 3) (x : En) : (W.setCells q 0 x.cells).heap[q]? = some (.cells x.cells.toArray EnT (0, 0)) := by
  have := blk_set (blk_set (blk_set h 0 (.int .i64 x.n)) 1 (.int .i64 x.m)) 2 (.int .u64 (x.t : Int))
  refine Eq.trans this ?_
  match c, hc with
  | ⟨[a, b, d]⟩, _ => rfl
theorem new2 (W : World) : ∃ V0, V0 = ((W.alloc zeroEn).alloc zeroEn).drew ∧ V0.heap[W.heap.size]? = some zeroEn ∧ V0.heap[W.heap.size + 1]? = some zeroEn ∧ Below W.heap.size W V0 := by
  refine ⟨_, rfl, blk_alloc (heap_alloc_new W _) _, ?_, (((Below.refl W.heap.size W).alloc (Nat.le_refl _) _).alloc (by simp) _).drew⟩
  have h := heap_alloc_new (W.alloc zeroEn) zeroEn
  rw [show (W.alloc zeroEn).heap.size = W.heap.size + 1 by simp] at h
  exact h
theorem put2 {V : World} {p q : Nat} (h1 : V.heap[p]? = some zeroEn) (h2 : V.heap[q]? = some zeroEn) (hpq : p ≠ q) (x y : En) :
    ((V.setCells p 0 x.cells).setCells q 0 y.cells).heap[p]? = some (.cells x.cells.toArray EnT (0, 0)) ∧ ((V.setCells p 0 x.cells).setCells q 0 y.cells).heap[q]? = some (.cells y.cells.toArray EnT (0, 0)) := by
  have h3 := set3 h1 rfl x
  have h4 : (V.setCells p 0 x.cells).heap[q]? = some zeroEn := (heap_setCells p _ _ _ q (Ne.symm hpq)).trans h2
  exact ⟨(heap_setCells q _ _ _ p hpq).trans h3, set3 h4 rfl y⟩
theorem there3 {W : World} {q : Nat} {c : Array Value} {t : TypeId} (h : W.heap[q]? = some (.cells c t (0, 0))) (hc : 3 ≤ c.size) : W.there q 0 3 := fun j hj => ⟨by rw [Nat.zero_add, blk_cell h, Array.getElem?_eq_getElem (by omega)]; rfl, blk_free h _⟩
theorem range2 {W : World} {q : Nat} {x : En} (h : W.heap[q]? = some (.cells x.cells.toArray EnT (0, 0))) : W.rangeAt q 0 [.int .i64 x.n, .int .i64 x.m] := fun j v hv => by
  rw [Nat.zero_add, blk_cell h]
  rcases j with _ | _ | j
  · exact hv
  · exact hv
  · simp at hv
theorem turn2 {W : World} {q : Nat} {x : En} (h : W.heap[q]? = some (.cells x.cells.toArray EnT (0, 0))) : W.cell? ⟨q, 2, none⟩ = some (.int .u64 (x.t : Int)) := blk_cell h 2
theorem info_en : (Try.prog.info? EnT).map (·.size) = some 3 := by kernel_rfl
theorem info_th : (Try.prog.info? 45).map (·.size) = some 2 := by kernel_rfl
theorem info_th2 (x : En) : (Try.prog.info? 45).map (·.size) = some ([Value.int .i64 x.n, Value.int .i64 x.m] : List Value).length := info_th
abbrev LessY (x y : En) (p : Bool) : Prop := ∀ W : World, Calls Try.prog 17 #[.agg #[.int .i64 x.n, .int .i64 x.m], .agg #[.int .i64 y.n, .int .i64 y.m]] W fun e w' => e = .returned (.bool p) ∧ Below W.heap.size W w'
theorem lessY (x y : En) {p : Bool} (h : decide (x.n < y.n) = p) : LessY x y p := fun W => by rw [← h]; exact less_any _ _ _ _ W
set_option maxHeartbeats 2000000 in
set_option maxRecDepth 100000 in
theorem rowless_1 (g i j b cap n : Nat) (x y : En) (w : World) (k1 : LS g b n cap i j x y w) (k0 : w.cell? ⟨g, 0, none⟩ = some (.func (Fn.func 17) #[] #[])) (hi : i < n) (hj : j < n) (hm : n ≤ 1000000000) (c1 : decide (x.n < y.n) = true) :
    Calls Try.prog 66 #[.pointer (some ⟨g, 0, none⟩), .int .i64 (i : Int), .int .i64 (j : Int)] w fun e w' => e = .returned (.bool (enLt x y)) ∧ Below w.heap.size w w' := by
  have HK := Lib.hid (show LS g b n cap i j x y w.drew from k1)
  have HK0 := Lib.hid k1
  have HI := Lib.hid info_en
  have HIX := Lib.hid (info_th2 x)
  have HIY := Lib.hid (info_th2 y)
  obtain ⟨V0, hV0, f1, f2, f3⟩ := new2 w
  have HV0 := Lib.hid hV0
  have HF1 := Lib.hid f1
  have HF2 := Lib.hid f2
  have HF3 := Lib.hid f3
  have HKV : Hid (LS g b n cap i j x y V0) := Lib.hid (k1.next f3)
  clear hV0 f1 f2 f3
  have HB1 : Hid (Below w.drew.heap.size w.drew (w.drew.alloc zeroEn)) := Lib.hid ((Below.refl _ _).alloc (Nat.le_refl _) _)
  have HB2 : Hid (Below w.drew.heap.size w.drew ((w.drew.alloc zeroEn).alloc zeroEn)) := Lib.hid (((Below.refl _ _).alloc (Nat.le_refl _) _).alloc (by simp) _)
  have hpost : ∀ p : Bool, Hid (enLt x y = p) → True := fun _ _ => trivial
  clear hpost k1
  have HF : Hid (∀ W, After w W → W.cell? ⟨g, 0, none⟩ = some (.func (Fn.func 17) #[] #[])) := Lib.hid (fun W hW => cell_next k0 hW)
  clear k0
  have H1 := Lib.hid (lessY x y c1)
  have H2 := H1
  have HR : Hid (enLt x y = true) := Lib.hid (by unfold enLt; rw [c1]; rfl)
  clear c1
  go_enter Try.func66, Try.ntmps66
  go_wp2_with fail
  refine wp_region_F (S := LS g b n cap i j x y) [] (by kernel_rfl) HK.out (fun hHeld => ?_)
  refine wpAnyF_take (i := 0) (oi := _) (v := ?_) rfl (by kernel_rfl) (by kernel_rfl) (by kernel_rfl) (by kernel_rfl) (fun _ _ _ h => h) (Or.inl ⟨by rfl, ?_⟩) (by assumption) ?_
  rotate_left 1
  · intro w hSw
    simp only [LS] at hSw
    (first | (go_simp; done) | (go_simp; with_reducible rfl))
  (try simp only [Act.put, List.getElem_toArray, List.getElem_cons_succ, List.getElem_cons_zero, List.setIfInBounds_toArray, List.set_cons_zero, List.set_cons_succ])
  refine wpAnyF_take (i := 1) (oi := _) (v := ?_) rfl (by kernel_rfl) (by kernel_rfl) (by kernel_rfl) (by kernel_rfl) (fun _ _ _ h => h) (Or.inl ⟨by rfl, ?_⟩) (by assumption) ?_
  rotate_left 1
  · intro w hSw
    simp only [LS] at hSw
    (first | (go_simp; done) | (go_simp; with_reducible rfl))
  (try simp only [Act.put, List.getElem_toArray, List.getElem_cons_succ, List.getElem_cons_zero, List.setIfInBounds_toArray, List.set_cons_zero, List.set_cons_succ])
  refine wpAnyF_take (i := 2) (oi := _) (v := ?_) rfl (by kernel_rfl) (by kernel_rfl) (by kernel_rfl) (by kernel_rfl) (fun _ _ _ h => h) (Or.inl ⟨by rfl, ?_⟩) (by assumption) ?_
  rotate_left 1
  · intro w hSw
    simp only [LS] at hSw
    (first | (go_simp; done) | (go_simp; with_reducible rfl))
  (try simp only [Act.put, List.getElem_toArray, List.getElem_cons_succ, List.getElem_cons_zero, List.setIfInBounds_toArray, List.set_cons_zero, List.set_cons_succ])
  refine wpAnyF_take (i := 3) (oi := _) (v := ?_) rfl (by kernel_rfl) (by kernel_rfl) (by kernel_rfl) (by kernel_rfl) (fun _ _ _ h => h) (Or.inl ⟨by rfl, ?_⟩) (by assumption) ?_
  rotate_left 1
  · intro w hSw
    simp only [LS] at hSw
    (first | (go_simp; done) | (go_simp; with_reducible rfl))
  (try simp only [Act.put, List.getElem_toArray, List.getElem_cons_succ, List.getElem_cons_zero, List.setIfInBounds_toArray, List.set_cons_zero, List.set_cons_succ])
  refine wpAnyF_take (i := 4) (oi := _) (v := ?_) rfl (by kernel_rfl) (by kernel_rfl) (by kernel_rfl) (by kernel_rfl) (fun _ _ _ h => h) (Or.inl ⟨by rfl, ?_⟩) (by assumption) ?_
  rotate_left 1
  · intro w hSw
    simp only [LS] at hSw
    (first | (go_simp; done) | (go_simp; with_reducible rfl))
  (try simp only [Act.put, List.getElem_toArray, List.getElem_cons_succ, List.getElem_cons_zero, List.setIfInBounds_toArray, List.set_cons_zero, List.set_cons_succ])
  refine wpAnyF_take (i := 5) (oi := _) (v := ?_) rfl (by kernel_rfl) (by kernel_rfl) (by kernel_rfl) (by kernel_rfl) (fun _ _ _ h => h) (Or.inl ⟨by rfl, ?_⟩) (by assumption) ?_
  rotate_left 1
  · intro w hSw
    simp only [LS] at hSw
    (first | (go_simp; done) | (go_simp; with_reducible rfl))
  (try simp only [Act.put, List.getElem_toArray, List.getElem_cons_succ, List.getElem_cons_zero, List.setIfInBounds_toArray, List.set_cons_zero, List.set_cons_succ])
  refine wpAnyF_take (i := 6) (oi := _) (v := ?_) rfl (by kernel_rfl) (by kernel_rfl) (by kernel_rfl) (by kernel_rfl) (fun _ _ _ h => h) (Or.inl ⟨by rfl, ?_⟩) (by assumption) ?_
  rotate_left 1
  · intro w hSw
    simp only [LS] at hSw
    (first | (go_simp; done) | (go_simp; with_reducible rfl))
  (try simp only [Act.put, List.getElem_toArray, List.getElem_cons_succ, List.getElem_cons_zero, List.setIfInBounds_toArray, List.set_cons_zero, List.set_cons_succ])
  refine wpAnyF_take (i := 7) (oi := _) (v := ?_) rfl (by kernel_rfl) (by kernel_rfl) (by kernel_rfl) (by kernel_rfl) (fun _ _ _ h => h) (Or.inl ⟨by rfl, ?_⟩) (by assumption) ?_
  rotate_left 1
  · intro w hSw
    simp only [LS] at hSw
    (first | (go_simp; done) | (go_simp; with_reducible rfl))
  (try simp only [Act.put, List.getElem_toArray, List.getElem_cons_succ, List.getElem_cons_zero, List.setIfInBounds_toArray, List.set_cons_zero, List.set_cons_succ])
  refine wpAnyF_take (i := 8) (oi := _) (v := ?_) rfl (by kernel_rfl) (by kernel_rfl) (by kernel_rfl) (by kernel_rfl) (fun _ _ _ h => h) (Or.inl ⟨by rfl, ?_⟩) (by assumption) ?_
  rotate_left 1
  · intro w hSw
    simp only [LS] at hSw
    (first | (go_simp; done) | (go_simp; with_reducible rfl))
  (try simp only [Act.put, List.getElem_toArray, List.getElem_cons_succ, List.getElem_cons_zero, List.setIfInBounds_toArray, List.set_cons_zero, List.set_cons_succ])
  refine wpAnyF_take (i := 9) (oi := _) (v := ?_) rfl (by kernel_rfl) (by kernel_rfl) (by kernel_rfl) (by kernel_rfl) (fun _ _ _ h => h) (Or.inl ⟨by rfl, ?_⟩) (by assumption) ?_
  rotate_left 1
  · intro w hSw
    simp only [LS] at hSw
    (first | (go_simp; done) | (go_simp; with_reducible rfl))
  (try simp only [Act.put, List.getElem_toArray, List.getElem_cons_succ, List.getElem_cons_zero, List.setIfInBounds_toArray, List.set_cons_zero, List.set_cons_succ])
  refine wpAnyF_take (i := 10) (oi := _) (v := ?_) rfl (by kernel_rfl) (by kernel_rfl) (by kernel_rfl) (by kernel_rfl) (fun _ _ _ h => h) (Or.inl ⟨by rfl, ?_⟩) (by assumption) ?_
  rotate_left 1
  · intro w hSw
    simp only [LS] at hSw
    (first | (go_simp; done) | (go_simp; with_reducible rfl))
  (try simp only [Act.put, List.getElem_toArray, List.getElem_cons_succ, List.getElem_cons_zero, List.setIfInBounds_toArray, List.set_cons_zero, List.set_cons_succ])
  refine wpAnyF_take (i := 11) (oi := _) (v := ?_) rfl (by kernel_rfl) (by kernel_rfl) (by kernel_rfl) (by kernel_rfl) (fun _ _ _ h => h) (Or.inl ⟨by rfl, ?_⟩) (by assumption) ?_
  rotate_left 1
  · intro w hSw
    simp only [LS] at hSw
    (first | (go_simp; done) | (go_simp; with_reducible rfl))
  (try simp only [Act.put, List.getElem_toArray, List.getElem_cons_succ, List.getElem_cons_zero, List.setIfInBounds_toArray, List.set_cons_zero, List.set_cons_succ])
  refine wpAnyF_take (i := 12) (oi := _) (v := ?_) rfl (by kernel_rfl) (by kernel_rfl) (by kernel_rfl) (by kernel_rfl) (fun _ _ _ h => h) (Or.inl ⟨by rfl, ?_⟩) (by assumption) ?_
  rotate_left 1
  · intro w hSw
    simp only [LS] at hSw
    (first | (go_simp; done) | (go_simp; with_reducible rfl))
  (try simp only [Act.put, List.getElem_toArray, List.getElem_cons_succ, List.getElem_cons_zero, List.setIfInBounds_toArray, List.set_cons_zero, List.set_cons_succ])
  refine wpAnyF_take (i := 13) (oi := _) (v := ?_) rfl (by kernel_rfl) (by kernel_rfl) (by kernel_rfl) (by kernel_rfl) (fun _ _ _ h => h) (Or.inl ⟨by rfl, ?_⟩) (by assumption) ?_
  rotate_left 1
  · intro w hSw
    simp only [LS] at hSw
    (first | (go_simp; done) | (go_simp; with_reducible rfl))
  (try simp only [Act.put, List.getElem_toArray, List.getElem_cons_succ, List.getElem_cons_zero, List.setIfInBounds_toArray, List.set_cons_zero, List.set_cons_succ])
  refine wpAnyF_ready (rs := [14, 15]) (by kernel_rfl) (by simp) ?_
  refine AllReadyF.cons (o := _) rfl (fun K hK => ?_) (AllReadyF.cons (o := _) rfl (fun K hK => ?_) AllReadyF.nil)
  · go_simp
    refine hK.out _ _ (HK.out.next HB1.out) (fun hHeld14 => ?_)
    clear hK K
    (try simp only [Act.put, List.getElem_toArray, List.getElem_cons_succ, List.getElem_cons_zero, List.setIfInBounds_toArray, List.set_cons_zero, List.set_cons_succ])
    refine wpAnyF_ready (rs := [15]) (by kernel_rfl) (by simp) ?_
    refine AllReadyF.cons (o := _) rfl (fun K hK => ?_) AllReadyF.nil
    go_simp
    refine hK.out _ _ (HK.out.next HB2.out) (fun hHeld15 => ?_)
    clear hK K
    (try simp only [Act.put, List.getElem_toArray, List.getElem_cons_succ, List.getElem_cons_zero, List.setIfInBounds_toArray, List.set_cons_zero, List.set_cons_succ])
    rw [← HV0.out]
    have HP := Lib.hid (put2 HF1.out HF2.out (by omega) x y)
    have HBS : Hid (Below w.heap.size w (V0.setCells (w.heap.size) 0 x.cells)) := Lib.hid (below_setCells _ _ _ HF3.out (by omega))
    have HBT : Hid (Below w.heap.size w ((V0.setCells (w.heap.size) 0 x.cells).setCells (w.heap.size + 1) 0 y.cells)) := Lib.hid (below_setCells _ _ _ HBS.out (by omega))
    have H8 : Hid ((V0.setCells (w.heap.size) 0 x.cells).heap[w.heap.size + 1]? = some zeroEn) := Lib.hid ((heap_setCells _ _ _ _ _ (by omega)).trans HF2.out)
    refine wpAnyF_ready (rs := [16]) (by kernel_rfl) (by simp) ?_
    refine AllReadyF.cons (o := _) rfl (fun K hK => ?_) AllReadyF.nil
    rw [if_pos (by rfl)]
    refine wp_store_mid EnT (.tmp 7) (.tmp 15) rfl (w.heap.size) 0 x.cells.toArray rfl rfl (there3 HF1.out (by decide)) HI.out (all_oneCell_toArray (cells_one _)) ?_
    refine hK.out _ _ (HK0.out.next HBS.out) (fun hHeld16 => ?_)
    clear hK K
    (try simp only [Act.put, List.getElem_toArray, List.getElem_cons_succ, List.getElem_cons_zero, List.setIfInBounds_toArray, List.set_cons_zero, List.set_cons_succ])
    refine wpAnyF_ready (rs := [17]) (by kernel_rfl) (by simp) ?_
    refine AllReadyF.cons (o := _) rfl (fun K hK => ?_) AllReadyF.nil
    rw [if_pos (by rfl)]
    refine wp_store_mid EnT (.tmp 8) (.tmp 22) rfl (w.heap.size + 1) 0 y.cells.toArray rfl rfl (there3 H8.out (by decide)) HI.out (all_oneCell_toArray (cells_one _)) ?_
    refine hK.out _ _ (HK0.out.next HBT.out) (fun hHeld17 => ?_)
    clear hK K
    (try simp only [Act.put, List.getElem_toArray, List.getElem_cons_succ, List.getElem_cons_zero, List.setIfInBounds_toArray, List.set_cons_zero, List.set_cons_succ])
    refine wpAnyF_done (by kernel_rfl) ?_ _
    generalize (V0.setCells (w.heap.size) 0 x.cells).setCells (w.heap.size + 1) 0 y.cells = V at HP HBT ⊢
    have HC0 : Hid (∀ W, After V W → W.cell? ⟨g, 0, none⟩ = some (.func (Fn.func 17) #[] #[])) := Lib.hid (fun W hW => HF.out W (Below.trans HBT.out (Below.mono hW HBT.out.size)))
    have HCX : Hid (∀ W, After V W → W.rangeAt (w.heap.size) 0 [.int .i64 x.n, .int .i64 x.m]) := Lib.hid (fun W hW => range2 ((Below.block hW _ (blk_lt HP.out.1)).trans HP.out.1))
    have HCY : Hid (∀ W, After V W → W.rangeAt (w.heap.size + 1) 0 [.int .i64 y.n, .int .i64 y.m]) := Lib.hid (fun W hW => range2 ((Below.block hW _ (blk_lt HP.out.2)).trans HP.out.2))
    have HTX : Hid (∀ W, After V W → W.cell? ⟨w.heap.size, 2, none⟩ = some (.int .u64 (x.t : Int))) := Lib.hid (fun W hW => turn2 ((Below.block hW _ (blk_lt HP.out.1)).trans HP.out.1))
    have HTY : Hid (∀ W, After V W → W.cell? ⟨w.heap.size + 1, 2, none⟩ = some (.int .u64 (y.t : Int))) := Lib.hid (fun W hW => turn2 ((Below.block hW _ (blk_lt HP.out.2)).trans HP.out.2))
    go_wp2_with fail
    refine wp_region_class (After V) (by kernel_rfl) (by kernel_rfl) (After.drew V) ?_
    repeat (first
      | go_big_quiet_skip
      | (go_big_quiet_want; first
        | (with_reducible refine quiet_cell 46 _ rfl _ _ rfl _ _ (fun W h => HC0.out W h) Try.underlying46 rfl ?_; (simp only [Act.put, List.setIfInBounds_toArray, List.set_cons_zero, List.set_cons_succ]); go_big_quiet_on)
        | (with_reducible refine quiet_load 45 _ rfl _ _ rfl [.int .i64 x.n, .int .i64 x.m] _ (fun W h => HCX.out W h) Try.underlying45 rfl HIX.out ?_; (simp only [Act.put, List.setIfInBounds_toArray, List.set_cons_zero, List.set_cons_succ]); go_big_quiet_on)
        | (with_reducible refine quiet_load 45 _ rfl _ _ rfl [.int .i64 y.n, .int .i64 y.m] _ (fun W h => HCY.out W h) Try.underlying45 rfl HIY.out ?_; (simp only [Act.put, List.setIfInBounds_toArray, List.set_cons_zero, List.set_cons_succ]); go_big_quiet_on)
        | (with_reducible refine quiet_cell 22 _ rfl _ _ rfl (.int .u64 (x.t : Int)) _ (fun W h => HTX.out W h) Try.underlying22 rfl ?_; (simp only [Act.put, List.setIfInBounds_toArray, List.set_cons_zero, List.set_cons_succ]); go_big_quiet_on)
        | (with_reducible refine quiet_cell 22 _ rfl _ _ rfl (.int .u64 (y.t : Int)) _ (fun W h => HTY.out W h) Try.underlying22 rfl ?_; (simp only [Act.put, List.setIfInBounds_toArray, List.set_cons_zero, List.set_cons_succ]); go_big_quiet_on)
        | (go_big_quiet_op; first
          | go_big_quiet_on
          | ((with_reducible refine ⟨_, fun _ _ => rfl, ?_⟩); go_big_quiet_on)
          | ((with_reducible refine ⟨_, fun _ _ => ⟨rfl, rfl⟩, ?_⟩); go_big_quiet_on)
          | ((with_reducible refine ⟨_, fun W hW => calls_after hW (H1.out W), ?_⟩); go_big_quiet_on)
          | ((with_reducible refine ⟨_, fun W hW => calls_after hW (H2.out W), ?_⟩); go_big_quiet_on))))
    refine wpQuiet_nil ?_
    intro W4 hW4
    go_wp2
    go_ret
    exact ⟨by rw [HR.out]; rfl, HBT.out.trans (hW4.mono HBT.out.size)⟩
  · go_simp
    refine hK.out _ _ (HK.out.next HB1.out) (fun hHeld15 => ?_)
    clear hK K
    (try simp only [Act.put, List.getElem_toArray, List.getElem_cons_succ, List.getElem_cons_zero, List.setIfInBounds_toArray, List.set_cons_zero, List.set_cons_succ])
    refine wpAnyF_ready (rs := [14]) (by kernel_rfl) (by simp) ?_
    refine AllReadyF.cons (o := _) rfl (fun K hK => ?_) AllReadyF.nil
    go_simp
    refine hK.out _ _ (HK.out.next HB2.out) (fun hHeld14 => ?_)
    clear hK K
    (try simp only [Act.put, List.getElem_toArray, List.getElem_cons_succ, List.getElem_cons_zero, List.setIfInBounds_toArray, List.set_cons_zero, List.set_cons_succ])
    rw [← HV0.out]
    have HP := Lib.hid (put2 HF2.out HF1.out (by omega) x y)
    have HBS : Hid (Below w.heap.size w (V0.setCells (w.heap.size + 1) 0 x.cells)) := Lib.hid (below_setCells _ _ _ HF3.out (by omega))
    have HBT : Hid (Below w.heap.size w ((V0.setCells (w.heap.size + 1) 0 x.cells).setCells (w.heap.size) 0 y.cells)) := Lib.hid (below_setCells _ _ _ HBS.out (by omega))
    have H8 : Hid ((V0.setCells (w.heap.size + 1) 0 x.cells).heap[w.heap.size]? = some zeroEn) := Lib.hid ((heap_setCells _ _ _ _ _ (by omega)).trans HF1.out)
    refine wpAnyF_ready (rs := [16]) (by kernel_rfl) (by simp) ?_
    refine AllReadyF.cons (o := _) rfl (fun K hK => ?_) AllReadyF.nil
    rw [if_pos (by rfl)]
    refine wp_store_mid EnT (.tmp 7) (.tmp 15) rfl (w.heap.size + 1) 0 x.cells.toArray rfl rfl (there3 HF2.out (by decide)) HI.out (all_oneCell_toArray (cells_one _)) ?_
    refine hK.out _ _ (HK0.out.next HBS.out) (fun hHeld16 => ?_)
    clear hK K
    (try simp only [Act.put, List.getElem_toArray, List.getElem_cons_succ, List.getElem_cons_zero, List.setIfInBounds_toArray, List.set_cons_zero, List.set_cons_succ])
    refine wpAnyF_ready (rs := [17]) (by kernel_rfl) (by simp) ?_
    refine AllReadyF.cons (o := _) rfl (fun K hK => ?_) AllReadyF.nil
    rw [if_pos (by rfl)]
    refine wp_store_mid EnT (.tmp 8) (.tmp 22) rfl (w.heap.size) 0 y.cells.toArray rfl rfl (there3 H8.out (by decide)) HI.out (all_oneCell_toArray (cells_one _)) ?_
    refine hK.out _ _ (HK0.out.next HBT.out) (fun hHeld17 => ?_)
    clear hK K
    (try simp only [Act.put, List.getElem_toArray, List.getElem_cons_succ, List.getElem_cons_zero, List.setIfInBounds_toArray, List.set_cons_zero, List.set_cons_succ])
    refine wpAnyF_done (by kernel_rfl) ?_ _
    generalize (V0.setCells (w.heap.size + 1) 0 x.cells).setCells (w.heap.size) 0 y.cells = V at HP HBT ⊢
    have HC0 : Hid (∀ W, After V W → W.cell? ⟨g, 0, none⟩ = some (.func (Fn.func 17) #[] #[])) := Lib.hid (fun W hW => HF.out W (Below.trans HBT.out (Below.mono hW HBT.out.size)))
    have HCX : Hid (∀ W, After V W → W.rangeAt (w.heap.size + 1) 0 [.int .i64 x.n, .int .i64 x.m]) := Lib.hid (fun W hW => range2 ((Below.block hW _ (blk_lt HP.out.1)).trans HP.out.1))
    have HCY : Hid (∀ W, After V W → W.rangeAt (w.heap.size) 0 [.int .i64 y.n, .int .i64 y.m]) := Lib.hid (fun W hW => range2 ((Below.block hW _ (blk_lt HP.out.2)).trans HP.out.2))
    have HTX : Hid (∀ W, After V W → W.cell? ⟨w.heap.size + 1, 2, none⟩ = some (.int .u64 (x.t : Int))) := Lib.hid (fun W hW => turn2 ((Below.block hW _ (blk_lt HP.out.1)).trans HP.out.1))
    have HTY : Hid (∀ W, After V W → W.cell? ⟨w.heap.size, 2, none⟩ = some (.int .u64 (y.t : Int))) := Lib.hid (fun W hW => turn2 ((Below.block hW _ (blk_lt HP.out.2)).trans HP.out.2))
    go_wp2_with fail
    refine wp_region_class (After V) (by kernel_rfl) (by kernel_rfl) (After.drew V) ?_
    repeat (first
      | go_big_quiet_skip
      | (go_big_quiet_want; first
        | (with_reducible refine quiet_cell 46 _ rfl _ _ rfl _ _ (fun W h => HC0.out W h) Try.underlying46 rfl ?_; (simp only [Act.put, List.setIfInBounds_toArray, List.set_cons_zero, List.set_cons_succ]); go_big_quiet_on)
        | (with_reducible refine quiet_load 45 _ rfl _ _ rfl [.int .i64 x.n, .int .i64 x.m] _ (fun W h => HCX.out W h) Try.underlying45 rfl HIX.out ?_; (simp only [Act.put, List.setIfInBounds_toArray, List.set_cons_zero, List.set_cons_succ]); go_big_quiet_on)
        | (with_reducible refine quiet_load 45 _ rfl _ _ rfl [.int .i64 y.n, .int .i64 y.m] _ (fun W h => HCY.out W h) Try.underlying45 rfl HIY.out ?_; (simp only [Act.put, List.setIfInBounds_toArray, List.set_cons_zero, List.set_cons_succ]); go_big_quiet_on)
        | (with_reducible refine quiet_cell 22 _ rfl _ _ rfl (.int .u64 (x.t : Int)) _ (fun W h => HTX.out W h) Try.underlying22 rfl ?_; (simp only [Act.put, List.setIfInBounds_toArray, List.set_cons_zero, List.set_cons_succ]); go_big_quiet_on)
        | (with_reducible refine quiet_cell 22 _ rfl _ _ rfl (.int .u64 (y.t : Int)) _ (fun W h => HTY.out W h) Try.underlying22 rfl ?_; (simp only [Act.put, List.setIfInBounds_toArray, List.set_cons_zero, List.set_cons_succ]); go_big_quiet_on)
        | (go_big_quiet_op; first
          | go_big_quiet_on
          | ((with_reducible refine ⟨_, fun _ _ => rfl, ?_⟩); go_big_quiet_on)
          | ((with_reducible refine ⟨_, fun _ _ => ⟨rfl, rfl⟩, ?_⟩); go_big_quiet_on)
          | ((with_reducible refine ⟨_, fun W hW => calls_after hW (H1.out W), ?_⟩); go_big_quiet_on)
          | ((with_reducible refine ⟨_, fun W hW => calls_after hW (H2.out W), ?_⟩); go_big_quiet_on))))
    refine wpQuiet_nil ?_
    intro W4 hW4
    go_wp2
    go_ret
    exact ⟨by rw [HR.out]; rfl, HBT.out.trans (hW4.mono HBT.out.size)⟩
set_option maxHeartbeats 2000000 in
set_option maxRecDepth 100000 in
theorem rowless_2 (g i j b cap n : Nat) (x y : En) (w : World) (k1 : LS g b n cap i j x y w) (k0 : w.cell? ⟨g, 0, none⟩ = some (.func (Fn.func 17) #[] #[])) (hi : i < n) (hj : j < n) (hm : n ≤ 1000000000) (c1 : decide (x.n < y.n) = false) (c2 : decide (x.t < y.t) = false) :
    Calls Try.prog 66 #[.pointer (some ⟨g, 0, none⟩), .int .i64 (i : Int), .int .i64 (j : Int)] w fun e w' => e = .returned (.bool (enLt x y)) ∧ Below w.heap.size w w' := by
  have HK := Lib.hid (show LS g b n cap i j x y w.drew from k1)
  have HK0 := Lib.hid k1
  have HI := Lib.hid info_en
  have HIX := Lib.hid (info_th2 x)
  have HIY := Lib.hid (info_th2 y)
  obtain ⟨V0, hV0, f1, f2, f3⟩ := new2 w
  have HV0 := Lib.hid hV0
  have HF1 := Lib.hid f1
  have HF2 := Lib.hid f2
  have HF3 := Lib.hid f3
  have HKV : Hid (LS g b n cap i j x y V0) := Lib.hid (k1.next f3)
  clear hV0 f1 f2 f3
  have HB1 : Hid (Below w.drew.heap.size w.drew (w.drew.alloc zeroEn)) := Lib.hid ((Below.refl _ _).alloc (Nat.le_refl _) _)
  have HB2 : Hid (Below w.drew.heap.size w.drew ((w.drew.alloc zeroEn).alloc zeroEn)) := Lib.hid (((Below.refl _ _).alloc (Nat.le_refl _) _).alloc (by simp) _)
  have hpost : ∀ p : Bool, Hid (enLt x y = p) → True := fun _ _ => trivial
  clear hpost k1
  have HF : Hid (∀ W, After w W → W.cell? ⟨g, 0, none⟩ = some (.func (Fn.func 17) #[] #[])) := Lib.hid (fun W hW => cell_next k0 hW)
  clear k0
  have H1 := Lib.hid (lessY x y c1)
  have H2 := H1
  have HR : Hid (enLt x y = false) := Lib.hid (by unfold enLt; rw [c1, c2]; rfl)
  have c2b : decide ((x.t : Int) < (y.t : Int)) = false := by rw [decide_eq_false_iff_not] at c2 ⊢; omega
  clear c1
  go_enter Try.func66, Try.ntmps66
  go_wp2_with fail
  refine wp_region_F (S := LS g b n cap i j x y) [] (by kernel_rfl) HK.out (fun hHeld => ?_)
  refine wpAnyF_take (i := 0) (oi := _) (v := ?_) rfl (by kernel_rfl) (by kernel_rfl) (by kernel_rfl) (by kernel_rfl) (fun _ _ _ h => h) (Or.inl ⟨by rfl, ?_⟩) (by assumption) ?_
  rotate_left 1
  · intro w hSw
    simp only [LS] at hSw
    (first | (go_simp; done) | (go_simp; with_reducible rfl))
  (try simp only [Act.put, List.getElem_toArray, List.getElem_cons_succ, List.getElem_cons_zero, List.setIfInBounds_toArray, List.set_cons_zero, List.set_cons_succ])
  refine wpAnyF_take (i := 1) (oi := _) (v := ?_) rfl (by kernel_rfl) (by kernel_rfl) (by kernel_rfl) (by kernel_rfl) (fun _ _ _ h => h) (Or.inl ⟨by rfl, ?_⟩) (by assumption) ?_
  rotate_left 1
  · intro w hSw
    simp only [LS] at hSw
    (first | (go_simp; done) | (go_simp; with_reducible rfl))
  (try simp only [Act.put, List.getElem_toArray, List.getElem_cons_succ, List.getElem_cons_zero, List.setIfInBounds_toArray, List.set_cons_zero, List.set_cons_succ])
  refine wpAnyF_take (i := 2) (oi := _) (v := ?_) rfl (by kernel_rfl) (by kernel_rfl) (by kernel_rfl) (by kernel_rfl) (fun _ _ _ h => h) (Or.inl ⟨by rfl, ?_⟩) (by assumption) ?_
  rotate_left 1
  · intro w hSw
    simp only [LS] at hSw
    (first | (go_simp; done) | (go_simp; with_reducible rfl))
  (try simp only [Act.put, List.getElem_toArray, List.getElem_cons_succ, List.getElem_cons_zero, List.setIfInBounds_toArray, List.set_cons_zero, List.set_cons_succ])
  refine wpAnyF_take (i := 3) (oi := _) (v := ?_) rfl (by kernel_rfl) (by kernel_rfl) (by kernel_rfl) (by kernel_rfl) (fun _ _ _ h => h) (Or.inl ⟨by rfl, ?_⟩) (by assumption) ?_
  rotate_left 1
  · intro w hSw
    simp only [LS] at hSw
    (first | (go_simp; done) | (go_simp; with_reducible rfl))
  (try simp only [Act.put, List.getElem_toArray, List.getElem_cons_succ, List.getElem_cons_zero, List.setIfInBounds_toArray, List.set_cons_zero, List.set_cons_succ])
  refine wpAnyF_take (i := 4) (oi := _) (v := ?_) rfl (by kernel_rfl) (by kernel_rfl) (by kernel_rfl) (by kernel_rfl) (fun _ _ _ h => h) (Or.inl ⟨by rfl, ?_⟩) (by assumption) ?_
  rotate_left 1
  · intro w hSw
    simp only [LS] at hSw
    (first | (go_simp; done) | (go_simp; with_reducible rfl))
  (try simp only [Act.put, List.getElem_toArray, List.getElem_cons_succ, List.getElem_cons_zero, List.setIfInBounds_toArray, List.set_cons_zero, List.set_cons_succ])
  refine wpAnyF_take (i := 5) (oi := _) (v := ?_) rfl (by kernel_rfl) (by kernel_rfl) (by kernel_rfl) (by kernel_rfl) (fun _ _ _ h => h) (Or.inl ⟨by rfl, ?_⟩) (by assumption) ?_
  rotate_left 1
  · intro w hSw
    simp only [LS] at hSw
    (first | (go_simp; done) | (go_simp; with_reducible rfl))
  (try simp only [Act.put, List.getElem_toArray, List.getElem_cons_succ, List.getElem_cons_zero, List.setIfInBounds_toArray, List.set_cons_zero, List.set_cons_succ])
  refine wpAnyF_take (i := 6) (oi := _) (v := ?_) rfl (by kernel_rfl) (by kernel_rfl) (by kernel_rfl) (by kernel_rfl) (fun _ _ _ h => h) (Or.inl ⟨by rfl, ?_⟩) (by assumption) ?_
  rotate_left 1
  · intro w hSw
    simp only [LS] at hSw
    (first | (go_simp; done) | (go_simp; with_reducible rfl))
  (try simp only [Act.put, List.getElem_toArray, List.getElem_cons_succ, List.getElem_cons_zero, List.setIfInBounds_toArray, List.set_cons_zero, List.set_cons_succ])
  refine wpAnyF_take (i := 7) (oi := _) (v := ?_) rfl (by kernel_rfl) (by kernel_rfl) (by kernel_rfl) (by kernel_rfl) (fun _ _ _ h => h) (Or.inl ⟨by rfl, ?_⟩) (by assumption) ?_
  rotate_left 1
  · intro w hSw
    simp only [LS] at hSw
    (first | (go_simp; done) | (go_simp; with_reducible rfl))
  (try simp only [Act.put, List.getElem_toArray, List.getElem_cons_succ, List.getElem_cons_zero, List.setIfInBounds_toArray, List.set_cons_zero, List.set_cons_succ])
  refine wpAnyF_take (i := 8) (oi := _) (v := ?_) rfl (by kernel_rfl) (by kernel_rfl) (by kernel_rfl) (by kernel_rfl) (fun _ _ _ h => h) (Or.inl ⟨by rfl, ?_⟩) (by assumption) ?_
  rotate_left 1
  · intro w hSw
    simp only [LS] at hSw
    (first | (go_simp; done) | (go_simp; with_reducible rfl))
  (try simp only [Act.put, List.getElem_toArray, List.getElem_cons_succ, List.getElem_cons_zero, List.setIfInBounds_toArray, List.set_cons_zero, List.set_cons_succ])
  refine wpAnyF_take (i := 9) (oi := _) (v := ?_) rfl (by kernel_rfl) (by kernel_rfl) (by kernel_rfl) (by kernel_rfl) (fun _ _ _ h => h) (Or.inl ⟨by rfl, ?_⟩) (by assumption) ?_
  rotate_left 1
  · intro w hSw
    simp only [LS] at hSw
    (first | (go_simp; done) | (go_simp; with_reducible rfl))
  (try simp only [Act.put, List.getElem_toArray, List.getElem_cons_succ, List.getElem_cons_zero, List.setIfInBounds_toArray, List.set_cons_zero, List.set_cons_succ])
  refine wpAnyF_take (i := 10) (oi := _) (v := ?_) rfl (by kernel_rfl) (by kernel_rfl) (by kernel_rfl) (by kernel_rfl) (fun _ _ _ h => h) (Or.inl ⟨by rfl, ?_⟩) (by assumption) ?_
  rotate_left 1
  · intro w hSw
    simp only [LS] at hSw
    (first | (go_simp; done) | (go_simp; with_reducible rfl))
  (try simp only [Act.put, List.getElem_toArray, List.getElem_cons_succ, List.getElem_cons_zero, List.setIfInBounds_toArray, List.set_cons_zero, List.set_cons_succ])
  refine wpAnyF_take (i := 11) (oi := _) (v := ?_) rfl (by kernel_rfl) (by kernel_rfl) (by kernel_rfl) (by kernel_rfl) (fun _ _ _ h => h) (Or.inl ⟨by rfl, ?_⟩) (by assumption) ?_
  rotate_left 1
  · intro w hSw
    simp only [LS] at hSw
    (first | (go_simp; done) | (go_simp; with_reducible rfl))
  (try simp only [Act.put, List.getElem_toArray, List.getElem_cons_succ, List.getElem_cons_zero, List.setIfInBounds_toArray, List.set_cons_zero, List.set_cons_succ])
  refine wpAnyF_take (i := 12) (oi := _) (v := ?_) rfl (by kernel_rfl) (by kernel_rfl) (by kernel_rfl) (by kernel_rfl) (fun _ _ _ h => h) (Or.inl ⟨by rfl, ?_⟩) (by assumption) ?_
  rotate_left 1
  · intro w hSw
    simp only [LS] at hSw
    (first | (go_simp; done) | (go_simp; with_reducible rfl))
  (try simp only [Act.put, List.getElem_toArray, List.getElem_cons_succ, List.getElem_cons_zero, List.setIfInBounds_toArray, List.set_cons_zero, List.set_cons_succ])
  refine wpAnyF_take (i := 13) (oi := _) (v := ?_) rfl (by kernel_rfl) (by kernel_rfl) (by kernel_rfl) (by kernel_rfl) (fun _ _ _ h => h) (Or.inl ⟨by rfl, ?_⟩) (by assumption) ?_
  rotate_left 1
  · intro w hSw
    simp only [LS] at hSw
    (first | (go_simp; done) | (go_simp; with_reducible rfl))
  (try simp only [Act.put, List.getElem_toArray, List.getElem_cons_succ, List.getElem_cons_zero, List.setIfInBounds_toArray, List.set_cons_zero, List.set_cons_succ])
  refine wpAnyF_ready (rs := [14, 15]) (by kernel_rfl) (by simp) ?_
  refine AllReadyF.cons (o := _) rfl (fun K hK => ?_) (AllReadyF.cons (o := _) rfl (fun K hK => ?_) AllReadyF.nil)
  · go_simp
    refine hK.out _ _ (HK.out.next HB1.out) (fun hHeld14 => ?_)
    clear hK K
    (try simp only [Act.put, List.getElem_toArray, List.getElem_cons_succ, List.getElem_cons_zero, List.setIfInBounds_toArray, List.set_cons_zero, List.set_cons_succ])
    refine wpAnyF_ready (rs := [15]) (by kernel_rfl) (by simp) ?_
    refine AllReadyF.cons (o := _) rfl (fun K hK => ?_) AllReadyF.nil
    go_simp
    refine hK.out _ _ (HK.out.next HB2.out) (fun hHeld15 => ?_)
    clear hK K
    (try simp only [Act.put, List.getElem_toArray, List.getElem_cons_succ, List.getElem_cons_zero, List.setIfInBounds_toArray, List.set_cons_zero, List.set_cons_succ])
    rw [← HV0.out]
    have HP := Lib.hid (put2 HF1.out HF2.out (by omega) x y)
    have HBS : Hid (Below w.heap.size w (V0.setCells (w.heap.size) 0 x.cells)) := Lib.hid (below_setCells _ _ _ HF3.out (by omega))
    have HBT : Hid (Below w.heap.size w ((V0.setCells (w.heap.size) 0 x.cells).setCells (w.heap.size + 1) 0 y.cells)) := Lib.hid (below_setCells _ _ _ HBS.out (by omega))
    have H8 : Hid ((V0.setCells (w.heap.size) 0 x.cells).heap[w.heap.size + 1]? = some zeroEn) := Lib.hid ((heap_setCells _ _ _ _ _ (by omega)).trans HF2.out)
    refine wpAnyF_ready (rs := [16]) (by kernel_rfl) (by simp) ?_
    refine AllReadyF.cons (o := _) rfl (fun K hK => ?_) AllReadyF.nil
    rw [if_pos (by rfl)]
    refine wp_store_mid EnT (.tmp 7) (.tmp 15) rfl (w.heap.size) 0 x.cells.toArray rfl rfl (there3 HF1.out (by decide)) HI.out (all_oneCell_toArray (cells_one _)) ?_
    refine hK.out _ _ (HK0.out.next HBS.out) (fun hHeld16 => ?_)
    clear hK K
    (try simp only [Act.put, List.getElem_toArray, List.getElem_cons_succ, List.getElem_cons_zero, List.setIfInBounds_toArray, List.set_cons_zero, List.set_cons_succ])
    refine wpAnyF_ready (rs := [17]) (by kernel_rfl) (by simp) ?_
    refine AllReadyF.cons (o := _) rfl (fun K hK => ?_) AllReadyF.nil
    rw [if_pos (by rfl)]
    refine wp_store_mid EnT (.tmp 8) (.tmp 22) rfl (w.heap.size + 1) 0 y.cells.toArray rfl rfl (there3 H8.out (by decide)) HI.out (all_oneCell_toArray (cells_one _)) ?_
    refine hK.out _ _ (HK0.out.next HBT.out) (fun hHeld17 => ?_)
    clear hK K
    (try simp only [Act.put, List.getElem_toArray, List.getElem_cons_succ, List.getElem_cons_zero, List.setIfInBounds_toArray, List.set_cons_zero, List.set_cons_succ])
    refine wpAnyF_done (by kernel_rfl) ?_ _
    generalize (V0.setCells (w.heap.size) 0 x.cells).setCells (w.heap.size + 1) 0 y.cells = V at HP HBT ⊢
    have HC0 : Hid (∀ W, After V W → W.cell? ⟨g, 0, none⟩ = some (.func (Fn.func 17) #[] #[])) := Lib.hid (fun W hW => HF.out W (Below.trans HBT.out (Below.mono hW HBT.out.size)))
    have HCX : Hid (∀ W, After V W → W.rangeAt (w.heap.size) 0 [.int .i64 x.n, .int .i64 x.m]) := Lib.hid (fun W hW => range2 ((Below.block hW _ (blk_lt HP.out.1)).trans HP.out.1))
    have HCY : Hid (∀ W, After V W → W.rangeAt (w.heap.size + 1) 0 [.int .i64 y.n, .int .i64 y.m]) := Lib.hid (fun W hW => range2 ((Below.block hW _ (blk_lt HP.out.2)).trans HP.out.2))
    have HTX : Hid (∀ W, After V W → W.cell? ⟨w.heap.size, 2, none⟩ = some (.int .u64 (x.t : Int))) := Lib.hid (fun W hW => turn2 ((Below.block hW _ (blk_lt HP.out.1)).trans HP.out.1))
    have HTY : Hid (∀ W, After V W → W.cell? ⟨w.heap.size + 1, 2, none⟩ = some (.int .u64 (y.t : Int))) := Lib.hid (fun W hW => turn2 ((Below.block hW _ (blk_lt HP.out.2)).trans HP.out.2))
    go_wp2_with fail
    refine wp_region_class (After V) (by kernel_rfl) (by kernel_rfl) (After.drew V) ?_
    repeat (first
      | go_big_quiet_skip
      | (go_big_quiet_want; first
        | (with_reducible refine quiet_cell 46 _ rfl _ _ rfl _ _ (fun W h => HC0.out W h) Try.underlying46 rfl ?_; (simp only [Act.put, List.setIfInBounds_toArray, List.set_cons_zero, List.set_cons_succ]); go_big_quiet_on)
        | (with_reducible refine quiet_load 45 _ rfl _ _ rfl [.int .i64 x.n, .int .i64 x.m] _ (fun W h => HCX.out W h) Try.underlying45 rfl HIX.out ?_; (simp only [Act.put, List.setIfInBounds_toArray, List.set_cons_zero, List.set_cons_succ]); go_big_quiet_on)
        | (with_reducible refine quiet_load 45 _ rfl _ _ rfl [.int .i64 y.n, .int .i64 y.m] _ (fun W h => HCY.out W h) Try.underlying45 rfl HIY.out ?_; (simp only [Act.put, List.setIfInBounds_toArray, List.set_cons_zero, List.set_cons_succ]); go_big_quiet_on)
        | (with_reducible refine quiet_cell 22 _ rfl _ _ rfl (.int .u64 (x.t : Int)) _ (fun W h => HTX.out W h) Try.underlying22 rfl ?_; (simp only [Act.put, List.setIfInBounds_toArray, List.set_cons_zero, List.set_cons_succ]); go_big_quiet_on)
        | (with_reducible refine quiet_cell 22 _ rfl _ _ rfl (.int .u64 (y.t : Int)) _ (fun W h => HTY.out W h) Try.underlying22 rfl ?_; (simp only [Act.put, List.setIfInBounds_toArray, List.set_cons_zero, List.set_cons_succ]); go_big_quiet_on)
        | (go_big_quiet_op; first
          | go_big_quiet_on
          | ((with_reducible refine ⟨_, fun _ _ => rfl, ?_⟩); go_big_quiet_on)
          | ((with_reducible refine ⟨_, fun _ _ => ⟨rfl, rfl⟩, ?_⟩); go_big_quiet_on)
          | ((with_reducible refine ⟨_, fun W hW => calls_after hW (H1.out W), ?_⟩); go_big_quiet_on)
          | ((with_reducible refine ⟨_, fun W hW => calls_after hW (H2.out W), ?_⟩); go_big_quiet_on))))
    refine wpQuiet_nil ?_
    intro W4 hW4
    go_wp2
    go_ret
    exact ⟨by rw [HR.out]; rfl, HBT.out.trans (hW4.mono HBT.out.size)⟩
  · go_simp
    refine hK.out _ _ (HK.out.next HB1.out) (fun hHeld15 => ?_)
    clear hK K
    (try simp only [Act.put, List.getElem_toArray, List.getElem_cons_succ, List.getElem_cons_zero, List.setIfInBounds_toArray, List.set_cons_zero, List.set_cons_succ])
    refine wpAnyF_ready (rs := [14]) (by kernel_rfl) (by simp) ?_
    refine AllReadyF.cons (o := _) rfl (fun K hK => ?_) AllReadyF.nil
    go_simp
    refine hK.out _ _ (HK.out.next HB2.out) (fun hHeld14 => ?_)
    clear hK K
    (try simp only [Act.put, List.getElem_toArray, List.getElem_cons_succ, List.getElem_cons_zero, List.setIfInBounds_toArray, List.set_cons_zero, List.set_cons_succ])
    rw [← HV0.out]
    have HP := Lib.hid (put2 HF2.out HF1.out (by omega) x y)
    have HBS : Hid (Below w.heap.size w (V0.setCells (w.heap.size + 1) 0 x.cells)) := Lib.hid (below_setCells _ _ _ HF3.out (by omega))
    have HBT : Hid (Below w.heap.size w ((V0.setCells (w.heap.size + 1) 0 x.cells).setCells (w.heap.size) 0 y.cells)) := Lib.hid (below_setCells _ _ _ HBS.out (by omega))
    have H8 : Hid ((V0.setCells (w.heap.size + 1) 0 x.cells).heap[w.heap.size]? = some zeroEn) := Lib.hid ((heap_setCells _ _ _ _ _ (by omega)).trans HF1.out)
    refine wpAnyF_ready (rs := [16]) (by kernel_rfl) (by simp) ?_
    refine AllReadyF.cons (o := _) rfl (fun K hK => ?_) AllReadyF.nil
    rw [if_pos (by rfl)]
    refine wp_store_mid EnT (.tmp 7) (.tmp 15) rfl (w.heap.size + 1) 0 x.cells.toArray rfl rfl (there3 HF2.out (by decide)) HI.out (all_oneCell_toArray (cells_one _)) ?_
    refine hK.out _ _ (HK0.out.next HBS.out) (fun hHeld16 => ?_)
    clear hK K
    (try simp only [Act.put, List.getElem_toArray, List.getElem_cons_succ, List.getElem_cons_zero, List.setIfInBounds_toArray, List.set_cons_zero, List.set_cons_succ])
    refine wpAnyF_ready (rs := [17]) (by kernel_rfl) (by simp) ?_
    refine AllReadyF.cons (o := _) rfl (fun K hK => ?_) AllReadyF.nil
    rw [if_pos (by rfl)]
    refine wp_store_mid EnT (.tmp 8) (.tmp 22) rfl (w.heap.size) 0 y.cells.toArray rfl rfl (there3 H8.out (by decide)) HI.out (all_oneCell_toArray (cells_one _)) ?_
    refine hK.out _ _ (HK0.out.next HBT.out) (fun hHeld17 => ?_)
    clear hK K
    (try simp only [Act.put, List.getElem_toArray, List.getElem_cons_succ, List.getElem_cons_zero, List.setIfInBounds_toArray, List.set_cons_zero, List.set_cons_succ])
    refine wpAnyF_done (by kernel_rfl) ?_ _
    generalize (V0.setCells (w.heap.size + 1) 0 x.cells).setCells (w.heap.size) 0 y.cells = V at HP HBT ⊢
    have HC0 : Hid (∀ W, After V W → W.cell? ⟨g, 0, none⟩ = some (.func (Fn.func 17) #[] #[])) := Lib.hid (fun W hW => HF.out W (Below.trans HBT.out (Below.mono hW HBT.out.size)))
    have HCX : Hid (∀ W, After V W → W.rangeAt (w.heap.size + 1) 0 [.int .i64 x.n, .int .i64 x.m]) := Lib.hid (fun W hW => range2 ((Below.block hW _ (blk_lt HP.out.1)).trans HP.out.1))
    have HCY : Hid (∀ W, After V W → W.rangeAt (w.heap.size) 0 [.int .i64 y.n, .int .i64 y.m]) := Lib.hid (fun W hW => range2 ((Below.block hW _ (blk_lt HP.out.2)).trans HP.out.2))
    have HTX : Hid (∀ W, After V W → W.cell? ⟨w.heap.size + 1, 2, none⟩ = some (.int .u64 (x.t : Int))) := Lib.hid (fun W hW => turn2 ((Below.block hW _ (blk_lt HP.out.1)).trans HP.out.1))
    have HTY : Hid (∀ W, After V W → W.cell? ⟨w.heap.size, 2, none⟩ = some (.int .u64 (y.t : Int))) := Lib.hid (fun W hW => turn2 ((Below.block hW _ (blk_lt HP.out.2)).trans HP.out.2))
    go_wp2_with fail
    refine wp_region_class (After V) (by kernel_rfl) (by kernel_rfl) (After.drew V) ?_
    repeat (first
      | go_big_quiet_skip
      | (go_big_quiet_want; first
        | (with_reducible refine quiet_cell 46 _ rfl _ _ rfl _ _ (fun W h => HC0.out W h) Try.underlying46 rfl ?_; (simp only [Act.put, List.setIfInBounds_toArray, List.set_cons_zero, List.set_cons_succ]); go_big_quiet_on)
        | (with_reducible refine quiet_load 45 _ rfl _ _ rfl [.int .i64 x.n, .int .i64 x.m] _ (fun W h => HCX.out W h) Try.underlying45 rfl HIX.out ?_; (simp only [Act.put, List.setIfInBounds_toArray, List.set_cons_zero, List.set_cons_succ]); go_big_quiet_on)
        | (with_reducible refine quiet_load 45 _ rfl _ _ rfl [.int .i64 y.n, .int .i64 y.m] _ (fun W h => HCY.out W h) Try.underlying45 rfl HIY.out ?_; (simp only [Act.put, List.setIfInBounds_toArray, List.set_cons_zero, List.set_cons_succ]); go_big_quiet_on)
        | (with_reducible refine quiet_cell 22 _ rfl _ _ rfl (.int .u64 (x.t : Int)) _ (fun W h => HTX.out W h) Try.underlying22 rfl ?_; (simp only [Act.put, List.setIfInBounds_toArray, List.set_cons_zero, List.set_cons_succ]); go_big_quiet_on)
        | (with_reducible refine quiet_cell 22 _ rfl _ _ rfl (.int .u64 (y.t : Int)) _ (fun W h => HTY.out W h) Try.underlying22 rfl ?_; (simp only [Act.put, List.setIfInBounds_toArray, List.set_cons_zero, List.set_cons_succ]); go_big_quiet_on)
        | (go_big_quiet_op; first
          | go_big_quiet_on
          | ((with_reducible refine ⟨_, fun _ _ => rfl, ?_⟩); go_big_quiet_on)
          | ((with_reducible refine ⟨_, fun _ _ => ⟨rfl, rfl⟩, ?_⟩); go_big_quiet_on)
          | ((with_reducible refine ⟨_, fun W hW => calls_after hW (H1.out W), ?_⟩); go_big_quiet_on)
          | ((with_reducible refine ⟨_, fun W hW => calls_after hW (H2.out W), ?_⟩); go_big_quiet_on))))
    refine wpQuiet_nil ?_
    intro W4 hW4
    go_wp2
    go_ret
    exact ⟨by rw [HR.out]; rfl, HBT.out.trans (hW4.mono HBT.out.size)⟩
set_option maxHeartbeats 2000000 in
set_option maxRecDepth 100000 in
theorem rowless_3 (g i j b cap n : Nat) (x y : En) (w : World) (k1 : LS g b n cap i j x y w) (k0 : w.cell? ⟨g, 0, none⟩ = some (.func (Fn.func 17) #[] #[])) (hi : i < n) (hj : j < n) (hm : n ≤ 1000000000) (q : Bool) (c1 : decide (x.n < y.n) = false) (c2 : decide (x.t < y.t) = true) (c3 : decide (y.n < x.n) = q) :
    Calls Try.prog 66 #[.pointer (some ⟨g, 0, none⟩), .int .i64 (i : Int), .int .i64 (j : Int)] w fun e w' => e = .returned (.bool (enLt x y)) ∧ Below w.heap.size w w' := by
  have HK := Lib.hid (show LS g b n cap i j x y w.drew from k1)
  have HK0 := Lib.hid k1
  have HI := Lib.hid info_en
  have HIX := Lib.hid (info_th2 x)
  have HIY := Lib.hid (info_th2 y)
  obtain ⟨V0, hV0, f1, f2, f3⟩ := new2 w
  have HV0 := Lib.hid hV0
  have HF1 := Lib.hid f1
  have HF2 := Lib.hid f2
  have HF3 := Lib.hid f3
  have HKV : Hid (LS g b n cap i j x y V0) := Lib.hid (k1.next f3)
  clear hV0 f1 f2 f3
  have HB1 : Hid (Below w.drew.heap.size w.drew (w.drew.alloc zeroEn)) := Lib.hid ((Below.refl _ _).alloc (Nat.le_refl _) _)
  have HB2 : Hid (Below w.drew.heap.size w.drew ((w.drew.alloc zeroEn).alloc zeroEn)) := Lib.hid (((Below.refl _ _).alloc (Nat.le_refl _) _).alloc (by simp) _)
  have hpost : ∀ p : Bool, Hid (enLt x y = p) → True := fun _ _ => trivial
  clear hpost k1
  have HF : Hid (∀ W, After w W → W.cell? ⟨g, 0, none⟩ = some (.func (Fn.func 17) #[] #[])) := Lib.hid (fun W hW => cell_next k0 hW)
  clear k0
  have H1 := Lib.hid (lessY x y c1)
  have H2 := Lib.hid (lessY y x c3)
  have HR : Hid (enLt x y = !q) := Lib.hid (by unfold enLt; rw [c1, c2, c3]; rfl)
  have c2b : decide ((x.t : Int) < (y.t : Int)) = true := by rw [decide_eq_true_eq] at c2 ⊢; omega
  clear c1 c3
  go_enter Try.func66, Try.ntmps66
  go_wp2_with fail
  refine wp_region_F (S := LS g b n cap i j x y) [] (by kernel_rfl) HK.out (fun hHeld => ?_)
  refine wpAnyF_take (i := 0) (oi := _) (v := ?_) rfl (by kernel_rfl) (by kernel_rfl) (by kernel_rfl) (by kernel_rfl) (fun _ _ _ h => h) (Or.inl ⟨by rfl, ?_⟩) (by assumption) ?_
  rotate_left 1
  · intro w hSw
    simp only [LS] at hSw
    (first | (go_simp; done) | (go_simp; with_reducible rfl))
  (try simp only [Act.put, List.getElem_toArray, List.getElem_cons_succ, List.getElem_cons_zero, List.setIfInBounds_toArray, List.set_cons_zero, List.set_cons_succ])
  refine wpAnyF_take (i := 1) (oi := _) (v := ?_) rfl (by kernel_rfl) (by kernel_rfl) (by kernel_rfl) (by kernel_rfl) (fun _ _ _ h => h) (Or.inl ⟨by rfl, ?_⟩) (by assumption) ?_
  rotate_left 1
  · intro w hSw
    simp only [LS] at hSw
    (first | (go_simp; done) | (go_simp; with_reducible rfl))
  (try simp only [Act.put, List.getElem_toArray, List.getElem_cons_succ, List.getElem_cons_zero, List.setIfInBounds_toArray, List.set_cons_zero, List.set_cons_succ])
  refine wpAnyF_take (i := 2) (oi := _) (v := ?_) rfl (by kernel_rfl) (by kernel_rfl) (by kernel_rfl) (by kernel_rfl) (fun _ _ _ h => h) (Or.inl ⟨by rfl, ?_⟩) (by assumption) ?_
  rotate_left 1
  · intro w hSw
    simp only [LS] at hSw
    (first | (go_simp; done) | (go_simp; with_reducible rfl))
  (try simp only [Act.put, List.getElem_toArray, List.getElem_cons_succ, List.getElem_cons_zero, List.setIfInBounds_toArray, List.set_cons_zero, List.set_cons_succ])
  refine wpAnyF_take (i := 3) (oi := _) (v := ?_) rfl (by kernel_rfl) (by kernel_rfl) (by kernel_rfl) (by kernel_rfl) (fun _ _ _ h => h) (Or.inl ⟨by rfl, ?_⟩) (by assumption) ?_
  rotate_left 1
  · intro w hSw
    simp only [LS] at hSw
    (first | (go_simp; done) | (go_simp; with_reducible rfl))
  (try simp only [Act.put, List.getElem_toArray, List.getElem_cons_succ, List.getElem_cons_zero, List.setIfInBounds_toArray, List.set_cons_zero, List.set_cons_succ])
  refine wpAnyF_take (i := 4) (oi := _) (v := ?_) rfl (by kernel_rfl) (by kernel_rfl) (by kernel_rfl) (by kernel_rfl) (fun _ _ _ h => h) (Or.inl ⟨by rfl, ?_⟩) (by assumption) ?_
  rotate_left 1
  · intro w hSw
    simp only [LS] at hSw
    (first | (go_simp; done) | (go_simp; with_reducible rfl))
  (try simp only [Act.put, List.getElem_toArray, List.getElem_cons_succ, List.getElem_cons_zero, List.setIfInBounds_toArray, List.set_cons_zero, List.set_cons_succ])
  refine wpAnyF_take (i := 5) (oi := _) (v := ?_) rfl (by kernel_rfl) (by kernel_rfl) (by kernel_rfl) (by kernel_rfl) (fun _ _ _ h => h) (Or.inl ⟨by rfl, ?_⟩) (by assumption) ?_
  rotate_left 1
  · intro w hSw
    simp only [LS] at hSw
    (first | (go_simp; done) | (go_simp; with_reducible rfl))
  (try simp only [Act.put, List.getElem_toArray, List.getElem_cons_succ, List.getElem_cons_zero, List.setIfInBounds_toArray, List.set_cons_zero, List.set_cons_succ])
  refine wpAnyF_take (i := 6) (oi := _) (v := ?_) rfl (by kernel_rfl) (by kernel_rfl) (by kernel_rfl) (by kernel_rfl) (fun _ _ _ h => h) (Or.inl ⟨by rfl, ?_⟩) (by assumption) ?_
  rotate_left 1
  · intro w hSw
    simp only [LS] at hSw
    (first | (go_simp; done) | (go_simp; with_reducible rfl))
  (try simp only [Act.put, List.getElem_toArray, List.getElem_cons_succ, List.getElem_cons_zero, List.setIfInBounds_toArray, List.set_cons_zero, List.set_cons_succ])
  refine wpAnyF_take (i := 7) (oi := _) (v := ?_) rfl (by kernel_rfl) (by kernel_rfl) (by kernel_rfl) (by kernel_rfl) (fun _ _ _ h => h) (Or.inl ⟨by rfl, ?_⟩) (by assumption) ?_
  rotate_left 1
  · intro w hSw
    simp only [LS] at hSw
    (first | (go_simp; done) | (go_simp; with_reducible rfl))
  (try simp only [Act.put, List.getElem_toArray, List.getElem_cons_succ, List.getElem_cons_zero, List.setIfInBounds_toArray, List.set_cons_zero, List.set_cons_succ])
  refine wpAnyF_take (i := 8) (oi := _) (v := ?_) rfl (by kernel_rfl) (by kernel_rfl) (by kernel_rfl) (by kernel_rfl) (fun _ _ _ h => h) (Or.inl ⟨by rfl, ?_⟩) (by assumption) ?_
  rotate_left 1
  · intro w hSw
    simp only [LS] at hSw
    (first | (go_simp; done) | (go_simp; with_reducible rfl))
  (try simp only [Act.put, List.getElem_toArray, List.getElem_cons_succ, List.getElem_cons_zero, List.setIfInBounds_toArray, List.set_cons_zero, List.set_cons_succ])
  refine wpAnyF_take (i := 9) (oi := _) (v := ?_) rfl (by kernel_rfl) (by kernel_rfl) (by kernel_rfl) (by kernel_rfl) (fun _ _ _ h => h) (Or.inl ⟨by rfl, ?_⟩) (by assumption) ?_
  rotate_left 1
  · intro w hSw
    simp only [LS] at hSw
    (first | (go_simp; done) | (go_simp; with_reducible rfl))
  (try simp only [Act.put, List.getElem_toArray, List.getElem_cons_succ, List.getElem_cons_zero, List.setIfInBounds_toArray, List.set_cons_zero, List.set_cons_succ])
  refine wpAnyF_take (i := 10) (oi := _) (v := ?_) rfl (by kernel_rfl) (by kernel_rfl) (by kernel_rfl) (by kernel_rfl) (fun _ _ _ h => h) (Or.inl ⟨by rfl, ?_⟩) (by assumption) ?_
  rotate_left 1
  · intro w hSw
    simp only [LS] at hSw
    (first | (go_simp; done) | (go_simp; with_reducible rfl))
  (try simp only [Act.put, List.getElem_toArray, List.getElem_cons_succ, List.getElem_cons_zero, List.setIfInBounds_toArray, List.set_cons_zero, List.set_cons_succ])
  refine wpAnyF_take (i := 11) (oi := _) (v := ?_) rfl (by kernel_rfl) (by kernel_rfl) (by kernel_rfl) (by kernel_rfl) (fun _ _ _ h => h) (Or.inl ⟨by rfl, ?_⟩) (by assumption) ?_
  rotate_left 1
  · intro w hSw
    simp only [LS] at hSw
    (first | (go_simp; done) | (go_simp; with_reducible rfl))
  (try simp only [Act.put, List.getElem_toArray, List.getElem_cons_succ, List.getElem_cons_zero, List.setIfInBounds_toArray, List.set_cons_zero, List.set_cons_succ])
  refine wpAnyF_take (i := 12) (oi := _) (v := ?_) rfl (by kernel_rfl) (by kernel_rfl) (by kernel_rfl) (by kernel_rfl) (fun _ _ _ h => h) (Or.inl ⟨by rfl, ?_⟩) (by assumption) ?_
  rotate_left 1
  · intro w hSw
    simp only [LS] at hSw
    (first | (go_simp; done) | (go_simp; with_reducible rfl))
  (try simp only [Act.put, List.getElem_toArray, List.getElem_cons_succ, List.getElem_cons_zero, List.setIfInBounds_toArray, List.set_cons_zero, List.set_cons_succ])
  refine wpAnyF_take (i := 13) (oi := _) (v := ?_) rfl (by kernel_rfl) (by kernel_rfl) (by kernel_rfl) (by kernel_rfl) (fun _ _ _ h => h) (Or.inl ⟨by rfl, ?_⟩) (by assumption) ?_
  rotate_left 1
  · intro w hSw
    simp only [LS] at hSw
    (first | (go_simp; done) | (go_simp; with_reducible rfl))
  (try simp only [Act.put, List.getElem_toArray, List.getElem_cons_succ, List.getElem_cons_zero, List.setIfInBounds_toArray, List.set_cons_zero, List.set_cons_succ])
  refine wpAnyF_ready (rs := [14, 15]) (by kernel_rfl) (by simp) ?_
  refine AllReadyF.cons (o := _) rfl (fun K hK => ?_) (AllReadyF.cons (o := _) rfl (fun K hK => ?_) AllReadyF.nil)
  · go_simp
    refine hK.out _ _ (HK.out.next HB1.out) (fun hHeld14 => ?_)
    clear hK K
    (try simp only [Act.put, List.getElem_toArray, List.getElem_cons_succ, List.getElem_cons_zero, List.setIfInBounds_toArray, List.set_cons_zero, List.set_cons_succ])
    refine wpAnyF_ready (rs := [15]) (by kernel_rfl) (by simp) ?_
    refine AllReadyF.cons (o := _) rfl (fun K hK => ?_) AllReadyF.nil
    go_simp
    refine hK.out _ _ (HK.out.next HB2.out) (fun hHeld15 => ?_)
    clear hK K
    (try simp only [Act.put, List.getElem_toArray, List.getElem_cons_succ, List.getElem_cons_zero, List.setIfInBounds_toArray, List.set_cons_zero, List.set_cons_succ])
    rw [← HV0.out]
    have HP := Lib.hid (put2 HF1.out HF2.out (by omega) x y)
    have HBS : Hid (Below w.heap.size w (V0.setCells (w.heap.size) 0 x.cells)) := Lib.hid (below_setCells _ _ _ HF3.out (by omega))
    have HBT : Hid (Below w.heap.size w ((V0.setCells (w.heap.size) 0 x.cells).setCells (w.heap.size + 1) 0 y.cells)) := Lib.hid (below_setCells _ _ _ HBS.out (by omega))
    have H8 : Hid ((V0.setCells (w.heap.size) 0 x.cells).heap[w.heap.size + 1]? = some zeroEn) := Lib.hid ((heap_setCells _ _ _ _ _ (by omega)).trans HF2.out)
    refine wpAnyF_ready (rs := [16]) (by kernel_rfl) (by simp) ?_
    refine AllReadyF.cons (o := _) rfl (fun K hK => ?_) AllReadyF.nil
    rw [if_pos (by rfl)]
    refine wp_store_mid EnT (.tmp 7) (.tmp 15) rfl (w.heap.size) 0 x.cells.toArray rfl rfl (there3 HF1.out (by decide)) HI.out (all_oneCell_toArray (cells_one _)) ?_
    refine hK.out _ _ (HK0.out.next HBS.out) (fun hHeld16 => ?_)
    clear hK K
    (try simp only [Act.put, List.getElem_toArray, List.getElem_cons_succ, List.getElem_cons_zero, List.setIfInBounds_toArray, List.set_cons_zero, List.set_cons_succ])
    refine wpAnyF_ready (rs := [17]) (by kernel_rfl) (by simp) ?_
    refine AllReadyF.cons (o := _) rfl (fun K hK => ?_) AllReadyF.nil
    rw [if_pos (by rfl)]
    refine wp_store_mid EnT (.tmp 8) (.tmp 22) rfl (w.heap.size + 1) 0 y.cells.toArray rfl rfl (there3 H8.out (by decide)) HI.out (all_oneCell_toArray (cells_one _)) ?_
    refine hK.out _ _ (HK0.out.next HBT.out) (fun hHeld17 => ?_)
    clear hK K
    (try simp only [Act.put, List.getElem_toArray, List.getElem_cons_succ, List.getElem_cons_zero, List.setIfInBounds_toArray, List.set_cons_zero, List.set_cons_succ])
    refine wpAnyF_done (by kernel_rfl) ?_ _
    generalize (V0.setCells (w.heap.size) 0 x.cells).setCells (w.heap.size + 1) 0 y.cells = V at HP HBT ⊢
    have HC0 : Hid (∀ W, After V W → W.cell? ⟨g, 0, none⟩ = some (.func (Fn.func 17) #[] #[])) := Lib.hid (fun W hW => HF.out W (Below.trans HBT.out (Below.mono hW HBT.out.size)))
    have HCX : Hid (∀ W, After V W → W.rangeAt (w.heap.size) 0 [.int .i64 x.n, .int .i64 x.m]) := Lib.hid (fun W hW => range2 ((Below.block hW _ (blk_lt HP.out.1)).trans HP.out.1))
    have HCY : Hid (∀ W, After V W → W.rangeAt (w.heap.size + 1) 0 [.int .i64 y.n, .int .i64 y.m]) := Lib.hid (fun W hW => range2 ((Below.block hW _ (blk_lt HP.out.2)).trans HP.out.2))
    have HTX : Hid (∀ W, After V W → W.cell? ⟨w.heap.size, 2, none⟩ = some (.int .u64 (x.t : Int))) := Lib.hid (fun W hW => turn2 ((Below.block hW _ (blk_lt HP.out.1)).trans HP.out.1))
    have HTY : Hid (∀ W, After V W → W.cell? ⟨w.heap.size + 1, 2, none⟩ = some (.int .u64 (y.t : Int))) := Lib.hid (fun W hW => turn2 ((Below.block hW _ (blk_lt HP.out.2)).trans HP.out.2))
    go_wp2_with fail
    refine wp_region_class (After V) (by kernel_rfl) (by kernel_rfl) (After.drew V) ?_
    repeat (first
      | go_big_quiet_skip
      | (go_big_quiet_want; first
        | (with_reducible refine quiet_cell 46 _ rfl _ _ rfl _ _ (fun W h => HC0.out W h) Try.underlying46 rfl ?_; (simp only [Act.put, List.setIfInBounds_toArray, List.set_cons_zero, List.set_cons_succ]); go_big_quiet_on)
        | (with_reducible refine quiet_load 45 _ rfl _ _ rfl [.int .i64 x.n, .int .i64 x.m] _ (fun W h => HCX.out W h) Try.underlying45 rfl HIX.out ?_; (simp only [Act.put, List.setIfInBounds_toArray, List.set_cons_zero, List.set_cons_succ]); go_big_quiet_on)
        | (with_reducible refine quiet_load 45 _ rfl _ _ rfl [.int .i64 y.n, .int .i64 y.m] _ (fun W h => HCY.out W h) Try.underlying45 rfl HIY.out ?_; (simp only [Act.put, List.setIfInBounds_toArray, List.set_cons_zero, List.set_cons_succ]); go_big_quiet_on)
        | (with_reducible refine quiet_cell 22 _ rfl _ _ rfl (.int .u64 (x.t : Int)) _ (fun W h => HTX.out W h) Try.underlying22 rfl ?_; (simp only [Act.put, List.setIfInBounds_toArray, List.set_cons_zero, List.set_cons_succ]); go_big_quiet_on)
        | (with_reducible refine quiet_cell 22 _ rfl _ _ rfl (.int .u64 (y.t : Int)) _ (fun W h => HTY.out W h) Try.underlying22 rfl ?_; (simp only [Act.put, List.setIfInBounds_toArray, List.set_cons_zero, List.set_cons_succ]); go_big_quiet_on)
        | (go_big_quiet_op; first
          | go_big_quiet_on
          | ((with_reducible refine ⟨_, fun _ _ => rfl, ?_⟩); go_big_quiet_on)
          | ((with_reducible refine ⟨_, fun _ _ => ⟨rfl, rfl⟩, ?_⟩); go_big_quiet_on)
          | ((with_reducible refine ⟨_, fun W hW => calls_after hW (H1.out W), ?_⟩); go_big_quiet_on)
          | ((with_reducible refine ⟨_, fun W hW => calls_after hW (H2.out W), ?_⟩); go_big_quiet_on))))
    refine wpQuiet_nil ?_
    intro W4 hW4
    go_wp2
    go_ret
    exact ⟨by rw [HR.out]; rfl, HBT.out.trans (hW4.mono HBT.out.size)⟩
  · go_simp
    refine hK.out _ _ (HK.out.next HB1.out) (fun hHeld15 => ?_)
    clear hK K
    (try simp only [Act.put, List.getElem_toArray, List.getElem_cons_succ, List.getElem_cons_zero, List.setIfInBounds_toArray, List.set_cons_zero, List.set_cons_succ])
    refine wpAnyF_ready (rs := [14]) (by kernel_rfl) (by simp) ?_
    refine AllReadyF.cons (o := _) rfl (fun K hK => ?_) AllReadyF.nil
    go_simp
    refine hK.out _ _ (HK.out.next HB2.out) (fun hHeld14 => ?_)
    clear hK K
    (try simp only [Act.put, List.getElem_toArray, List.getElem_cons_succ, List.getElem_cons_zero, List.setIfInBounds_toArray, List.set_cons_zero, List.set_cons_succ])
    rw [← HV0.out]
    have HP := Lib.hid (put2 HF2.out HF1.out (by omega) x y)
    have HBS : Hid (Below w.heap.size w (V0.setCells (w.heap.size + 1) 0 x.cells)) := Lib.hid (below_setCells _ _ _ HF3.out (by omega))
    have HBT : Hid (Below w.heap.size w ((V0.setCells (w.heap.size + 1) 0 x.cells).setCells (w.heap.size) 0 y.cells)) := Lib.hid (below_setCells _ _ _ HBS.out (by omega))
    have H8 : Hid ((V0.setCells (w.heap.size + 1) 0 x.cells).heap[w.heap.size]? = some zeroEn) := Lib.hid ((heap_setCells _ _ _ _ _ (by omega)).trans HF1.out)
    refine wpAnyF_ready (rs := [16]) (by kernel_rfl) (by simp) ?_
    refine AllReadyF.cons (o := _) rfl (fun K hK => ?_) AllReadyF.nil
    rw [if_pos (by rfl)]
    refine wp_store_mid EnT (.tmp 7) (.tmp 15) rfl (w.heap.size + 1) 0 x.cells.toArray rfl rfl (there3 HF2.out (by decide)) HI.out (all_oneCell_toArray (cells_one _)) ?_
    refine hK.out _ _ (HK0.out.next HBS.out) (fun hHeld16 => ?_)
    clear hK K
    (try simp only [Act.put, List.getElem_toArray, List.getElem_cons_succ, List.getElem_cons_zero, List.setIfInBounds_toArray, List.set_cons_zero, List.set_cons_succ])
    refine wpAnyF_ready (rs := [17]) (by kernel_rfl) (by simp) ?_
    refine AllReadyF.cons (o := _) rfl (fun K hK => ?_) AllReadyF.nil
    rw [if_pos (by rfl)]
    refine wp_store_mid EnT (.tmp 8) (.tmp 22) rfl (w.heap.size) 0 y.cells.toArray rfl rfl (there3 H8.out (by decide)) HI.out (all_oneCell_toArray (cells_one _)) ?_
    refine hK.out _ _ (HK0.out.next HBT.out) (fun hHeld17 => ?_)
    clear hK K
    (try simp only [Act.put, List.getElem_toArray, List.getElem_cons_succ, List.getElem_cons_zero, List.setIfInBounds_toArray, List.set_cons_zero, List.set_cons_succ])
    refine wpAnyF_done (by kernel_rfl) ?_ _
    generalize (V0.setCells (w.heap.size + 1) 0 x.cells).setCells (w.heap.size) 0 y.cells = V at HP HBT ⊢
    have HC0 : Hid (∀ W, After V W → W.cell? ⟨g, 0, none⟩ = some (.func (Fn.func 17) #[] #[])) := Lib.hid (fun W hW => HF.out W (Below.trans HBT.out (Below.mono hW HBT.out.size)))
    have HCX : Hid (∀ W, After V W → W.rangeAt (w.heap.size + 1) 0 [.int .i64 x.n, .int .i64 x.m]) := Lib.hid (fun W hW => range2 ((Below.block hW _ (blk_lt HP.out.1)).trans HP.out.1))
    have HCY : Hid (∀ W, After V W → W.rangeAt (w.heap.size) 0 [.int .i64 y.n, .int .i64 y.m]) := Lib.hid (fun W hW => range2 ((Below.block hW _ (blk_lt HP.out.2)).trans HP.out.2))
    have HTX : Hid (∀ W, After V W → W.cell? ⟨w.heap.size + 1, 2, none⟩ = some (.int .u64 (x.t : Int))) := Lib.hid (fun W hW => turn2 ((Below.block hW _ (blk_lt HP.out.1)).trans HP.out.1))
    have HTY : Hid (∀ W, After V W → W.cell? ⟨w.heap.size, 2, none⟩ = some (.int .u64 (y.t : Int))) := Lib.hid (fun W hW => turn2 ((Below.block hW _ (blk_lt HP.out.2)).trans HP.out.2))
    go_wp2_with fail
    refine wp_region_class (After V) (by kernel_rfl) (by kernel_rfl) (After.drew V) ?_
    repeat (first
      | go_big_quiet_skip
      | (go_big_quiet_want; first
        | (with_reducible refine quiet_cell 46 _ rfl _ _ rfl _ _ (fun W h => HC0.out W h) Try.underlying46 rfl ?_; (simp only [Act.put, List.setIfInBounds_toArray, List.set_cons_zero, List.set_cons_succ]); go_big_quiet_on)
        | (with_reducible refine quiet_load 45 _ rfl _ _ rfl [.int .i64 x.n, .int .i64 x.m] _ (fun W h => HCX.out W h) Try.underlying45 rfl HIX.out ?_; (simp only [Act.put, List.setIfInBounds_toArray, List.set_cons_zero, List.set_cons_succ]); go_big_quiet_on)
        | (with_reducible refine quiet_load 45 _ rfl _ _ rfl [.int .i64 y.n, .int .i64 y.m] _ (fun W h => HCY.out W h) Try.underlying45 rfl HIY.out ?_; (simp only [Act.put, List.setIfInBounds_toArray, List.set_cons_zero, List.set_cons_succ]); go_big_quiet_on)
        | (with_reducible refine quiet_cell 22 _ rfl _ _ rfl (.int .u64 (x.t : Int)) _ (fun W h => HTX.out W h) Try.underlying22 rfl ?_; (simp only [Act.put, List.setIfInBounds_toArray, List.set_cons_zero, List.set_cons_succ]); go_big_quiet_on)
        | (with_reducible refine quiet_cell 22 _ rfl _ _ rfl (.int .u64 (y.t : Int)) _ (fun W h => HTY.out W h) Try.underlying22 rfl ?_; (simp only [Act.put, List.setIfInBounds_toArray, List.set_cons_zero, List.set_cons_succ]); go_big_quiet_on)
        | (go_big_quiet_op; first
          | go_big_quiet_on
          | ((with_reducible refine ⟨_, fun _ _ => rfl, ?_⟩); go_big_quiet_on)
          | ((with_reducible refine ⟨_, fun _ _ => ⟨rfl, rfl⟩, ?_⟩); go_big_quiet_on)
          | ((with_reducible refine ⟨_, fun W hW => calls_after hW (H1.out W), ?_⟩); go_big_quiet_on)
          | ((with_reducible refine ⟨_, fun W hW => calls_after hW (H2.out W), ?_⟩); go_big_quiet_on))))
    refine wpQuiet_nil ?_
    intro W4 hW4
    go_wp2
    go_ret
    exact ⟨by rw [HR.out]; rfl, HBT.out.trans (hW4.mono HBT.out.size)⟩
theorem rowless_any (g i j b cap n : Nat) (x y : En) (w : World) (k1 : LS g b n cap i j x y w) (k0 : w.cell? ⟨g, 0, none⟩ = some (.func (Fn.func 17) #[] #[])) (hi : i < n) (hj : j < n) (hm : n ≤ 1000000000) :
    Calls Try.prog 66 #[.pointer (some ⟨g, 0, none⟩), .int .i64 (i : Int), .int .i64 (j : Int)] w fun e w' => e = .returned (.bool (enLt x y)) ∧ Below w.heap.size w w' := by
  cases c1 : decide (x.n < y.n)
  · cases c2 : decide (x.t < y.t)
    · exact rowless_2 g i j b cap n x y w k1 k0 hi hj hm c1 c2
    · exact rowless_3 g i j b cap n x y w k1 k0 hi hj hm _ c1 c2 rfl
  · exact rowless_1 g i j b cap n x y w k1 k0 hi hj hm c1
end Go.Proofs.Ytoioflbgmofgfab
