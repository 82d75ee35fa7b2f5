/-
  Package script: two acts are held against one another; fits.
-/
import Derived.Test.YtcaogiaoabdkdaaDoorZScE
namespace Go.Proofs.YtcaogiaoabdkdaaDoor
open Go.RowKit Go
set_option linter.unusedVariables false
set_option linter.unusedSimpArgs false
set_option maxRecDepth 100000
theorem plain_int : Tryd.prog.plainKey 3 = true := by kernel_rfl
theorem cells_int : Tryd.prog.cellsOf 3 = 1 := by kernel_rfl
theorem info_int : (Tryd.prog.info? 3).isSome = true := by kernel_rfl
theorem eq4 (a b c d a' b' c' d' : Int) (W : World) : (Op.equalIn 9999 93 (.agg #[.int .i64 a, .int .i64 b, .int .i64 c, .int .i64 d]) (.agg #[.int .i64 a', .int .i64 b', .int .i64 c', .int .i64 d'])).run Tryd.prog W = .ok (decide (a = a' ∧ b = b' ∧ c = c' ∧ d = d')) W := by
  obtain ⟨i, hi⟩ := Option.isSome_iff_exists.mp info_int
  have p : ∀ (xs : Array Value) (j : Nat) (v : Value), xs[j]? = some v → (part 3 xs j).run Tryd.prog W = .ok v W := fun xs j v h => by exact Go.run_part_plain W plain_int h
  have p0 : ∀ a b c d : Int, (part 3 #[.int .i64 a, .int .i64 b, .int .i64 c, .int .i64 d] 0).run Tryd.prog W = .ok (.int .i64 a) W := fun a b c d => p _ 0 _ rfl
  have p1 : ∀ a b c d : Int, (part 3 #[.int .i64 a, .int .i64 b, .int .i64 c, .int .i64 d] 1).run Tryd.prog W = .ok (.int .i64 b) W := fun a b c d => p _ 1 _ rfl
  have p2 : ∀ a b c d : Int, (part 3 #[.int .i64 a, .int .i64 b, .int .i64 c, .int .i64 d] 2).run Tryd.prog W = .ok (.int .i64 c) W := fun a b c d => p _ 2 _ rfl
  have p3 : ∀ a b c d : Int, (part 3 #[.int .i64 a, .int .i64 b, .int .i64 c, .int .i64 d] 3).run Tryd.prog W = .ok (.int .i64 d) W := fun a b c d => p _ 3 _ rfl
  have q : ∀ (d : Nat) (x y : Int), (Op.equalIn (d + 1) 3 (.int .i64 x) (.int .i64 y)).run Tryd.prog W = .ok (decide (x = y)) W := fun d x y => run_equalIn_int W d 3 .i64 .i64 _ _ Tryd.underlying3
  rw [show (9999 : Nat) = 9997 + 1 + 1 from rfl, Go.run_equalIn_array W 9998 _ _ Tryd.underlying93 hi, cells_int, show List.range 4 = [0, 1, 2, 3] from rfl]
  simp only [Op.eqItems, Nat.mul_one, Sem.run_bind, p0, p1, p2, p3, q, Result.andThen_ok]
  by_cases h0 : a = a'
  · by_cases h1 : b = b'
    · by_cases h2 : c = c'
      · by_cases h3 : d = d'
        · simp [h0, h1, h2, h3, p0, p1, p2, p3, q]
        · simp [h0, h1, h2, h3, p0, p1, p2, p3, q]
      · simp [h0, h1, h2, p0, p1, p2, p3, q]
    · simp [h0, h1, p0, p1, p2, p3, q]
  · simp [h0, p0, p1, p2, p3, q]
def sameH (kd kd' z1 z1' z2 z2' z3 z3' z4 z4' : Int) (y y' : Bool) : Bool := decide (kd = kd' ∧ y = y' ∧ z1 = z1' ∧ z2 = z2' ∧ z3 = z3' ∧ z4 = z4')
theorem head_eq (kd kd' z1 z1' z2 z2' z3 z3' z4 z4' : Int) (y y' : Bool) (W : World) : (binOp .eql 95 (.agg #[.int .i64 kd, .bool y, .int .i64 z1, .int .i64 z2, .int .i64 z3, .int .i64 z4]) (.agg #[.int .i64 kd', .bool y', .int .i64 z1', .int .i64 z2', .int .i64 z3', .int .i64 z4'])).run Tryd.prog W = .ok (.bool (sameH kd kd' z1 z1' z2 z2' z3 z3' z4 z4' y y')) W := by
  generalize hr : sameH kd kd' z1 z1' z2 z2' z3 z3' z4 z4' y y' = r
  go_simp
  rw [eq4 z1 z2 z3 z4 z1' z2' z3' z4' W, ← hr]
  unfold sameH
  by_cases h0 : kd = kd'
  · by_cases h1 : y = y'
    · by_cases h2 : z1 = z1' ∧ z2 = z2' ∧ z3 = z3' ∧ z4 = z4'
      · rw [if_pos h0, if_pos h1, decide_eq_true h2, decide_eq_true ⟨h0, h1, h2⟩]; simp
      · rw [if_pos h0, if_pos h1, decide_eq_false h2, decide_eq_false (fun h => h2 h.2.2)]; simp
    · rw [if_pos h0, if_neg h1, decide_eq_false (fun h => h1 h.2.1)]
  · rw [if_neg h0, decide_eq_false (fun h => h0 h.1)]
theorem head_guard (x y : Operand) (a b : Array Value) (W : World) : (eqGuard .eql 95 x y (.agg a) (.agg b)).run Tryd.prog W = .ok () W := by kernel_rfl
theorem exec_bin {P : Program} {o : Oper} {a : Act} {w : World} (op : BinOp) (t t2 : TypeId) (x y : Operand) (ho : o.op = .binOp op t x y t2) (vx vy v : Value) (hx : a.eval x = vx) (hy : a.eval y = vy) (hg : (eqGuard op t x y vx vy).run P w = .ok () w) (hr : (binOp op t vx vy).run P w = .ok v w) : (execOp a.eval o).run P w = .ok (.value v) w := by
  unfold execOp
  simp [ho, hx, hy, hg, hr, Result.andThen]
theorem two_blk (w : World) (o1 o2 : Obj) : ∃ W0, W0 = (w.alloc o1).alloc o2 ∧ Below w.heap.size w W0 ∧ W0.heap.size = w.heap.size + 1 + 1 ∧ W0.heap[w.heap.size]? = some o1 ∧ W0.heap[w.heap.size + 1]? = some o2 := by
  have e1 : (w.alloc o1).heap.size = w.heap.size + 1 := by simp
  refine ⟨_, rfl, (al1 _ _).alloc (by omega) _, by simp, (Below.heap_alloc _ _ _ (by omega)).trans (heap_alloc_new w o1), ?_⟩
  rw [← e1]; exact heap_alloc_new _ o2
def SameTo (w : World) (r : Bool) (e : Ending) (w' : World) : Prop := e = .returned (.bool r) ∧ Below w.heap.size w w'
set_option maxHeartbeats 4000000 in
theorem same_in (kd : Int) (y : Bool) (z1 z2 z3 z4 : Int) (A : Option Addr) (n c : Nat) (kd' : Int) (y' : Bool) (z1' z2' z3' z4' : Int) (A' : Option Addr) (n' c' : Nat) (l l' : List Nat) (w : World) (hs : BS w w.heap.size A n c l) (hs' : BS w w.heap.size A' n' c' l') :
    Calls Tryd.prog 35 #[.agg #[.int .i64 kd, .bool y, .int .i64 z1, .int .i64 z2, .int .i64 z3, .int .i64 z4, .slice A n c], .agg #[.int .i64 kd', .bool y', .int .i64 z1', .int .i64 z2', .int .i64 z3', .int .i64 z4', .slice A' n' c']] w (SameTo w (sameH kd kd' z1 z1' z2 z2' z3 z3' z4 z4' y y' && decide (l = l'))) := by
  obtain ⟨W0, hW, hb0, hsz, hx, hx'⟩ := two_blk w (.cells #[.int .i64 kd, .bool y, .int .i64 z1, .int .i64 z2, .int .i64 z3, .int .i64 z4, .slice A n c] 30) (.cells #[.int .i64 kd', .bool y', .int .i64 z1', .int .i64 z2', .int .i64 z3', .int .i64 z4', .slice A' n' c'] 30)
  have HX := Lib.hid hx
  have HX' := Lib.hid hx'
  have HLT : Hid (w.heap.size < W0.heap.size ∧ w.heap.size + 1 < W0.heap.size) := Lib.hid (by omega)
  have KS : Hid (∀ w', After W0 w' → (w'.cell? ⟨w.heap.size, 0, none⟩ = some (.int .i64 kd) ∧ w'.cell? ⟨w.heap.size, 1, none⟩ = some (.bool y) ∧ w'.cell? ⟨w.heap.size, 2, none⟩ = some (.int .i64 z1) ∧ w'.cell? ⟨w.heap.size, 3, none⟩ = some (.int .i64 z2) ∧ w'.cell? ⟨w.heap.size, 4, none⟩ = some (.int .i64 z3) ∧ w'.cell? ⟨w.heap.size, 5, none⟩ = some (.int .i64 z4) ∧ w'.cell? ⟨w.heap.size, 6, none⟩ = some (.slice A n c)) ∧ (w'.cell? ⟨w.heap.size + 1, 0, none⟩ = some (.int .i64 kd') ∧ w'.cell? ⟨w.heap.size + 1, 1, none⟩ = some (.bool y') ∧ w'.cell? ⟨w.heap.size + 1, 2, none⟩ = some (.int .i64 z1') ∧ w'.cell? ⟨w.heap.size + 1, 3, none⟩ = some (.int .i64 z2') ∧ w'.cell? ⟨w.heap.size + 1, 4, none⟩ = some (.int .i64 z3') ∧ w'.cell? ⟨w.heap.size + 1, 5, none⟩ = some (.int .i64 z4') ∧ w'.cell? ⟨w.heap.size + 1, 6, none⟩ = some (.slice A' n' c'))) := Lib.hid (fun w' hw => ⟨⟨blk_cell ((Below.block hw _ HLT.out.1).trans HX.out) 0, blk_cell ((Below.block hw _ HLT.out.1).trans HX.out) 1, blk_cell ((Below.block hw _ HLT.out.1).trans HX.out) 2, blk_cell ((Below.block hw _ HLT.out.1).trans HX.out) 3, blk_cell ((Below.block hw _ HLT.out.1).trans HX.out) 4, blk_cell ((Below.block hw _ HLT.out.1).trans HX.out) 5, blk_cell ((Below.block hw _ HLT.out.1).trans HX.out) 6⟩, ⟨blk_cell ((Below.block hw _ HLT.out.2).trans HX'.out) 0, blk_cell ((Below.block hw _ HLT.out.2).trans HX'.out) 1, blk_cell ((Below.block hw _ HLT.out.2).trans HX'.out) 2, blk_cell ((Below.block hw _ HLT.out.2).trans HX'.out) 3, blk_cell ((Below.block hw _ HLT.out.2).trans HX'.out) 4, blk_cell ((Below.block hw _ HLT.out.2).trans HX'.out) 5, blk_cell ((Below.block hw _ HLT.out.2).trans HX'.out) 6⟩⟩)
  have HB0 := Lib.hid hb0
  have HW := Lib.hid hW.symm
  have HS := Lib.hid hs
  have HS' := Lib.hid hs'
  have HSB := Lib.hid (sameB_dec hs.byte hs'.byte)
  have HEQ := Lib.hid (head_eq kd kd' z1 z1' z2 z2' z3 z3' z4 z4' y y')
  have HF : Hid (∀ w', After W0 w' → Below w.heap.size w w') := Lib.hid (fun w' hw => HB0.out.trans (Below.mono hw HB0.out.size))
  clear hW hx hx' hb0 hs hs'
  generalize hr : sameH kd kd' z1 z1' z2 z2' z3 z3' z4 z4' y y' = r at *
  clear hr
  go_enter Tryd.func35, Tryd.ntmps35
  go_upto_region 1 with (fail)
  rw [HW.out]
  cases r
  · refine wp_region_F (S := (fun w' => (w'.cell? ⟨w.heap.size, 0, none⟩ = some (.int .i64 kd) ∧ w'.cell? ⟨w.heap.size, 1, none⟩ = some (.bool y) ∧ w'.cell? ⟨w.heap.size, 2, none⟩ = some (.int .i64 z1) ∧ w'.cell? ⟨w.heap.size, 3, none⟩ = some (.int .i64 z2) ∧ w'.cell? ⟨w.heap.size, 4, none⟩ = some (.int .i64 z3) ∧ w'.cell? ⟨w.heap.size, 5, none⟩ = some (.int .i64 z4) ∧ w'.cell? ⟨w.heap.size, 6, none⟩ = some (.slice A n c)) ∧ (w'.cell? ⟨w.heap.size + 1, 0, none⟩ = some (.int .i64 kd') ∧ w'.cell? ⟨w.heap.size + 1, 1, none⟩ = some (.bool y') ∧ w'.cell? ⟨w.heap.size + 1, 2, none⟩ = some (.int .i64 z1') ∧ w'.cell? ⟨w.heap.size + 1, 3, none⟩ = some (.int .i64 z2') ∧ w'.cell? ⟨w.heap.size + 1, 4, none⟩ = some (.int .i64 z3') ∧ w'.cell? ⟨w.heap.size + 1, 5, none⟩ = some (.int .i64 z4') ∧ w'.cell? ⟨w.heap.size + 1, 6, none⟩ = some (.slice A' n' c')))) [] (by kernel_rfl) (KS.out _ (After.drew W0)) (fun hHeld => ?_)
    refine wpAnyF_take (i := 0) (oi := _) (v := ?_) rfl (by kernel_rfl) (by kernel_rfl) (by kernel_rfl) (by kernel_rfl) (fun _ _ _ h => h) (Or.inl ⟨by rfl, ?_⟩) (by assumption) ?_
    rotate_left 1
    · intro w hSw
      (try dsimp only at hSw)
      (first | (go_simp; done) | (go_simp; with_reducible rfl))
    (try simp only [Act.put, List.getElem_toArray, List.getElem_cons_succ, List.getElem_cons_zero, List.setIfInBounds_toArray, List.set_cons_zero, List.set_cons_succ])
    refine wpAnyF_take (i := 2) (oi := _) (v := ?_) rfl (by kernel_rfl) (by kernel_rfl) (by kernel_rfl) (by kernel_rfl) (fun _ _ _ h => h) (Or.inl ⟨by rfl, ?_⟩) (by assumption) ?_
    rotate_left 1
    · intro w hSw
      (try dsimp only at hSw)
      (first | (go_simp; done) | (go_simp; with_reducible rfl))
    (try simp only [Act.put, List.getElem_toArray, List.getElem_cons_succ, List.getElem_cons_zero, List.setIfInBounds_toArray, List.set_cons_zero, List.set_cons_succ])
    refine wpAnyF_ready (rs := [1]) (by kernel_rfl) (by simp) ?_
    refine AllReadyF.cons (o := _) rfl (fun K hK => ?_) AllReadyF.nil
    go_simp
    refine (head_any kd y z1 z2 z3 z4 A n c _).mono ?_
    rintro e w1 ⟨rfl, hb1⟩
    have HA1 : Hid (After W0 w1) := Lib.hid (After.of_drew hb1)
    clear hb1
    refine hK.out _ _ (KS.out _ HA1.out) (fun hHeld1 => ?_)
    clear hK K
    (try simp only [Act.put, List.getElem_toArray, List.getElem_cons_succ, List.getElem_cons_zero, List.setIfInBounds_toArray, List.set_cons_zero, List.set_cons_succ])
    refine wpAnyF_ready (rs := [3]) (by kernel_rfl) (by simp) ?_
    refine AllReadyF.cons (o := _) rfl (fun K hK => ?_) AllReadyF.nil
    go_simp
    refine (head_any kd' y' z1' z2' z3' z4' A' n' c' _).mono ?_
    rintro e w2 ⟨rfl, hb2⟩
    have HA2 : Hid (After W0 w2) := Lib.hid (After.next HA1.out hb2)
    clear hb2
    refine hK.out _ _ (KS.out _ HA2.out) (fun hHeld3 => ?_)
    clear hK K
    (try simp only [Act.put, List.getElem_toArray, List.getElem_cons_succ, List.getElem_cons_zero, List.setIfInBounds_toArray, List.set_cons_zero, List.set_cons_succ])
    refine wpAnyF_take (i := 4) (oi := _) (v := _) rfl (by kernel_rfl) (by kernel_rfl) (by kernel_rfl) (by kernel_rfl) (fun _ _ _ h => h) (.inl ⟨by with_unfolding_all rfl, fun w h => exec_bin .eql 95 95 (.tmp 6) (.tmp 8) rfl (.agg #[.int .i64 kd, .bool y, .int .i64 z1, .int .i64 z2, .int .i64 z3, .int .i64 z4]) (.agg #[.int .i64 kd', .bool y', .int .i64 z1', .int .i64 z2', .int .i64 z3', .int .i64 z4']) (.bool false) rfl rfl (head_guard _ _ _ _ _) (HEQ.out w)⟩) (by assumption) ?_
    (try simp only [Act.put, List.getElem_toArray, List.getElem_cons_succ, List.getElem_cons_zero, List.setIfInBounds_toArray, List.set_cons_zero, List.set_cons_succ])
    refine wpAnyF_take (i := 5) (oi := _) (v := ?_) rfl (by kernel_rfl) (by kernel_rfl) (by kernel_rfl) (by kernel_rfl) (fun _ _ _ h => h) (Or.inl ⟨by rfl, ?_⟩) (by assumption) ?_
    rotate_left 1
    · intro w hSw
      (try dsimp only at hSw)
      (first | (go_simp; done) | (go_simp; with_reducible rfl))
    (try simp only [Act.put, List.getElem_toArray, List.getElem_cons_succ, List.getElem_cons_zero, List.setIfInBounds_toArray, List.set_cons_zero, List.set_cons_succ])
    refine wpAnyF_take (i := 6) (oi := _) (v := undef) rfl (by kernel_rfl) (by kernel_rfl) (by kernel_rfl) (by kernel_rfl) (fun _ _ _ h => h) (Or.inr ⟨by rfl, rfl⟩) (by assumption) ?_
    (try simp only [Act.put, List.getElem_toArray, List.getElem_cons_succ, List.getElem_cons_zero, List.setIfInBounds_toArray, List.set_cons_zero, List.set_cons_succ])
    refine wpAnyF_take (i := 7) (oi := _) (v := undef) rfl (by kernel_rfl) (by kernel_rfl) (by kernel_rfl) (by kernel_rfl) (fun _ _ _ h => h) (Or.inr ⟨by rfl, rfl⟩) (by assumption) ?_
    (try simp only [Act.put, List.getElem_toArray, List.getElem_cons_succ, List.getElem_cons_zero, List.setIfInBounds_toArray, List.set_cons_zero, List.set_cons_succ])
    refine wpAnyF_take (i := 8) (oi := _) (v := undef) rfl (by kernel_rfl) (by kernel_rfl) (by kernel_rfl) (by kernel_rfl) (fun _ _ _ h => h) (Or.inr ⟨by rfl, rfl⟩) (by assumption) ?_
    (try simp only [Act.put, List.getElem_toArray, List.getElem_cons_succ, List.getElem_cons_zero, List.setIfInBounds_toArray, List.set_cons_zero, List.set_cons_succ])
    refine wpAnyF_take (i := 9) (oi := _) (v := undef) rfl (by kernel_rfl) (by kernel_rfl) (by kernel_rfl) (by kernel_rfl) (fun _ _ _ h => h) (Or.inr ⟨by rfl, rfl⟩) (by assumption) ?_
    (try simp only [Act.put, List.getElem_toArray, List.getElem_cons_succ, List.getElem_cons_zero, List.setIfInBounds_toArray, List.set_cons_zero, List.set_cons_succ])
    refine wpAnyF_take (i := 10) (oi := _) (v := undef) rfl (by kernel_rfl) (by kernel_rfl) (by kernel_rfl) (by kernel_rfl) (fun _ _ _ h => h) (Or.inr ⟨by rfl, rfl⟩) (by assumption) ?_
    (try simp only [Act.put, List.getElem_toArray, List.getElem_cons_succ, List.getElem_cons_zero, List.setIfInBounds_toArray, List.set_cons_zero, List.set_cons_succ])
    refine wpAnyF_take (i := 11) (oi := _) (v := ?_) rfl (by kernel_rfl) (by kernel_rfl) (by kernel_rfl) (by kernel_rfl) (fun _ _ _ h => h) (Or.inl ⟨by rfl, ?_⟩) (by assumption) ?_
    rotate_left 1
    · intro w hSw
      (try dsimp only at hSw)
      (first | (go_simp; done) | (go_simp; with_reducible rfl))
    (try simp only [Act.put, List.getElem_toArray, List.getElem_cons_succ, List.getElem_cons_zero, List.setIfInBounds_toArray, List.set_cons_zero, List.set_cons_succ])
    refine wpAnyF_take (i := 12) (oi := _) (v := ?_) rfl (by kernel_rfl) (by kernel_rfl) (by kernel_rfl) (by kernel_rfl) (fun _ _ _ h => h) (Or.inl ⟨by rfl, ?_⟩) (by assumption) ?_
    rotate_left 1
    · intro w hSw
      (try dsimp only at hSw)
      (first | (go_simp; done) | (go_simp; with_reducible rfl))
    (try simp only [Act.put, List.getElem_toArray, List.getElem_cons_succ, List.getElem_cons_zero, List.setIfInBounds_toArray, List.set_cons_zero, List.set_cons_succ])
    refine wpAnyF_done (by kernel_rfl) ?_ _
    go_wp2
    go_ret
    exact ⟨rfl, HF.out _ HA2.out⟩
  · refine wp_region_F (S := (fun w' => (w'.cell? ⟨w.heap.size, 0, none⟩ = some (.int .i64 kd) ∧ w'.cell? ⟨w.heap.size, 1, none⟩ = some (.bool y) ∧ w'.cell? ⟨w.heap.size, 2, none⟩ = some (.int .i64 z1) ∧ w'.cell? ⟨w.heap.size, 3, none⟩ = some (.int .i64 z2) ∧ w'.cell? ⟨w.heap.size, 4, none⟩ = some (.int .i64 z3) ∧ w'.cell? ⟨w.heap.size, 5, none⟩ = some (.int .i64 z4) ∧ w'.cell? ⟨w.heap.size, 6, none⟩ = some (.slice A n c)) ∧ (w'.cell? ⟨w.heap.size + 1, 0, none⟩ = some (.int .i64 kd') ∧ w'.cell? ⟨w.heap.size + 1, 1, none⟩ = some (.bool y') ∧ w'.cell? ⟨w.heap.size + 1, 2, none⟩ = some (.int .i64 z1') ∧ w'.cell? ⟨w.heap.size + 1, 3, none⟩ = some (.int .i64 z2') ∧ w'.cell? ⟨w.heap.size + 1, 4, none⟩ = some (.int .i64 z3') ∧ w'.cell? ⟨w.heap.size + 1, 5, none⟩ = some (.int .i64 z4') ∧ w'.cell? ⟨w.heap.size + 1, 6, none⟩ = some (.slice A' n' c')))) [] (by kernel_rfl) (KS.out _ (After.drew W0)) (fun hHeld => ?_)
    refine wpAnyF_take (i := 0) (oi := _) (v := ?_) rfl (by kernel_rfl) (by kernel_rfl) (by kernel_rfl) (by kernel_rfl) (fun _ _ _ h => h) (Or.inl ⟨by rfl, ?_⟩) (by assumption) ?_
    rotate_left 1
    · intro w hSw
      (try dsimp only at hSw)
      (first | (go_simp; done) | (go_simp; with_reducible rfl))
    (try simp only [Act.put, List.getElem_toArray, List.getElem_cons_succ, List.getElem_cons_zero, List.setIfInBounds_toArray, List.set_cons_zero, List.set_cons_succ])
    refine wpAnyF_take (i := 2) (oi := _) (v := ?_) rfl (by kernel_rfl) (by kernel_rfl) (by kernel_rfl) (by kernel_rfl) (fun _ _ _ h => h) (Or.inl ⟨by rfl, ?_⟩) (by assumption) ?_
    rotate_left 1
    · intro w hSw
      (try dsimp only at hSw)
      (first | (go_simp; done) | (go_simp; with_reducible rfl))
    (try simp only [Act.put, List.getElem_toArray, List.getElem_cons_succ, List.getElem_cons_zero, List.setIfInBounds_toArray, List.set_cons_zero, List.set_cons_succ])
    refine wpAnyF_ready (rs := [1]) (by kernel_rfl) (by simp) ?_
    refine AllReadyF.cons (o := _) rfl (fun K hK => ?_) AllReadyF.nil
    go_simp
    refine (head_any kd y z1 z2 z3 z4 A n c _).mono ?_
    rintro e w1 ⟨rfl, hb1⟩
    have HA1 : Hid (After W0 w1) := Lib.hid (After.of_drew hb1)
    clear hb1
    refine hK.out _ _ (KS.out _ HA1.out) (fun hHeld1 => ?_)
    clear hK K
    (try simp only [Act.put, List.getElem_toArray, List.getElem_cons_succ, List.getElem_cons_zero, List.setIfInBounds_toArray, List.set_cons_zero, List.set_cons_succ])
    refine wpAnyF_ready (rs := [3]) (by kernel_rfl) (by simp) ?_
    refine AllReadyF.cons (o := _) rfl (fun K hK => ?_) AllReadyF.nil
    go_simp
    refine (head_any kd' y' z1' z2' z3' z4' A' n' c' _).mono ?_
    rintro e w2 ⟨rfl, hb2⟩
    have HA2 : Hid (After W0 w2) := Lib.hid (After.next HA1.out hb2)
    clear hb2
    refine hK.out _ _ (KS.out _ HA2.out) (fun hHeld3 => ?_)
    clear hK K
    (try simp only [Act.put, List.getElem_toArray, List.getElem_cons_succ, List.getElem_cons_zero, List.setIfInBounds_toArray, List.set_cons_zero, List.set_cons_succ])
    refine wpAnyF_take (i := 4) (oi := _) (v := _) rfl (by kernel_rfl) (by kernel_rfl) (by kernel_rfl) (by kernel_rfl) (fun _ _ _ h => h) (.inl ⟨by with_unfolding_all rfl, fun w h => exec_bin .eql 95 95 (.tmp 6) (.tmp 8) rfl (.agg #[.int .i64 kd, .bool y, .int .i64 z1, .int .i64 z2, .int .i64 z3, .int .i64 z4]) (.agg #[.int .i64 kd', .bool y', .int .i64 z1', .int .i64 z2', .int .i64 z3', .int .i64 z4']) (.bool true) rfl rfl (head_guard _ _ _ _ _) (HEQ.out w)⟩) (by assumption) ?_
    (try simp only [Act.put, List.getElem_toArray, List.getElem_cons_succ, List.getElem_cons_zero, List.setIfInBounds_toArray, List.set_cons_zero, List.set_cons_succ])
    refine wpAnyF_take (i := 5) (oi := _) (v := ?_) rfl (by kernel_rfl) (by kernel_rfl) (by kernel_rfl) (by kernel_rfl) (fun _ _ _ h => h) (Or.inl ⟨by rfl, ?_⟩) (by assumption) ?_
    rotate_left 1
    · intro w hSw
      (try dsimp only at hSw)
      (first | (go_simp; done) | (go_simp; with_reducible rfl))
    (try simp only [Act.put, List.getElem_toArray, List.getElem_cons_succ, List.getElem_cons_zero, List.setIfInBounds_toArray, List.set_cons_zero, List.set_cons_succ])
    refine wpAnyF_take (i := 6) (oi := _) (v := ?_) rfl (by kernel_rfl) (by kernel_rfl) (by kernel_rfl) (by kernel_rfl) (fun _ _ _ h => h) (Or.inl ⟨by rfl, ?_⟩) (by assumption) ?_
    rotate_left 1
    · intro w hSw
      (try dsimp only at hSw)
      (first | (go_simp; done) | (go_simp; with_reducible rfl))
    (try simp only [Act.put, List.getElem_toArray, List.getElem_cons_succ, List.getElem_cons_zero, List.setIfInBounds_toArray, List.set_cons_zero, List.set_cons_succ])
    refine wpAnyF_take (i := 7) (oi := _) (v := ?_) rfl (by kernel_rfl) (by kernel_rfl) (by kernel_rfl) (by kernel_rfl) (fun _ _ _ h => h) (Or.inl ⟨by rfl, ?_⟩) (by assumption) ?_
    rotate_left 1
    · intro w hSw
      (try dsimp only at hSw)
      (first | (go_simp; done) | (go_simp; with_reducible rfl))
    (try simp only [Act.put, List.getElem_toArray, List.getElem_cons_succ, List.getElem_cons_zero, List.setIfInBounds_toArray, List.set_cons_zero, List.set_cons_succ])
    refine wpAnyF_take (i := 8) (oi := _) (v := ?_) rfl (by kernel_rfl) (by kernel_rfl) (by kernel_rfl) (by kernel_rfl) (fun _ _ _ h => h) (Or.inl ⟨by rfl, ?_⟩) (by assumption) ?_
    rotate_left 1
    · intro w hSw
      (try dsimp only at hSw)
      (first | (go_simp; done) | (go_simp; with_reducible rfl))
    (try simp only [Act.put, List.getElem_toArray, List.getElem_cons_succ, List.getElem_cons_zero, List.setIfInBounds_toArray, List.set_cons_zero, List.set_cons_succ])
    refine wpAnyF_take (i := 9) (oi := _) (v := ?_) rfl (by kernel_rfl) (by kernel_rfl) (by kernel_rfl) (by kernel_rfl) (fun _ _ _ h => h) (Or.inl ⟨by rfl, ?_⟩) (by assumption) ?_
    rotate_left 1
    · intro w hSw
      (try dsimp only at hSw)
      (first | (go_simp; done) | (go_simp; with_reducible rfl))
    (try simp only [Act.put, List.getElem_toArray, List.getElem_cons_succ, List.getElem_cons_zero, List.setIfInBounds_toArray, List.set_cons_zero, List.set_cons_succ])
    refine wpAnyF_ready (rs := [10]) (by kernel_rfl) (by simp) ?_
    refine AllReadyF.cons (o := _) rfl (fun K hK => ?_) AllReadyF.nil
    go_simp
    refine (same_any A A' n c n' c' w.heap.size l l' _ (HS.out.below (HF.out _ HA2.out)) (HS'.out.below (HF.out _ HA2.out))).mono ?_
    rintro e w3 ⟨rfl, rfl⟩
    rw [HSB.out]
    refine hK.out _ _ (KS.out _ HA2.out) (fun hHeld10 => ?_)
    clear hK K
    (try simp only [Act.put, List.getElem_toArray, List.getElem_cons_succ, List.getElem_cons_zero, List.setIfInBounds_toArray, List.set_cons_zero, List.set_cons_succ])
    refine wpAnyF_take (i := 11) (oi := _) (v := ?_) rfl (by kernel_rfl) (by kernel_rfl) (by kernel_rfl) (by kernel_rfl) (fun _ _ _ h => h) (Or.inl ⟨by rfl, ?_⟩) (by assumption) ?_
    rotate_left 1
    · intro w hSw
      (try dsimp only at hSw)
      (first | (go_simp; done) | (go_simp; with_reducible rfl))
    (try simp only [Act.put, List.getElem_toArray, List.getElem_cons_succ, List.getElem_cons_zero, List.setIfInBounds_toArray, List.set_cons_zero, List.set_cons_succ])
    refine wpAnyF_take (i := 12) (oi := _) (v := ?_) rfl (by kernel_rfl) (by kernel_rfl) (by kernel_rfl) (by kernel_rfl) (fun _ _ _ h => h) (Or.inl ⟨by rfl, ?_⟩) (by assumption) ?_
    rotate_left 1
    · intro w hSw
      (try dsimp only at hSw)
      (first | (go_simp; done) | (go_simp; with_reducible rfl))
    (try simp only [Act.put, List.getElem_toArray, List.getElem_cons_succ, List.getElem_cons_zero, List.setIfInBounds_toArray, List.set_cons_zero, List.set_cons_succ])
    refine wpAnyF_done (by kernel_rfl) ?_ _
    go_wp2
    go_ret
    exact ⟨rfl, HF.out _ HA2.out⟩
theorem sameH_F (p q : Ac) : (sameH p.kind q.kind p.which q.which p.k q.k p.n q.n p.pos q.pos p.yes q.yes && decide (p.b = q.b)) = sameF false p q := by
  rw [Bool.eq_iff_iff, sameF_iff, Bool.and_eq_true, decide_eq_true_eq]
  unfold sameH
  rw [decide_eq_true_eq]
  constructor
  · rintro ⟨⟨h1, h2, h3, h4, h5, h6⟩, h7⟩
    exact Ac.ext' h1 h2 h3 h4 h5 h6 h7
  · rintro rfl
    exact ⟨⟨rfl, rfl, rfl, rfl, rfl, rfl⟩, rfl⟩
end Go.Proofs.YtcaogiaoabdkdaaDoor
