/-
  BookNil.
-/
import Derived.Test.YtgblgnmblbmnjaaBkK
namespace Go.Proofs.Ytgblgnmblbmnjaa
open Go.RowKit Go
set_option linter.unusedVariables false
set_option linter.unusedSimpArgs false
theorem zero_eq (W : World) : (binOp .eql 33 (.agg (zeros 32)) (.agg (zeros 32))).run Try.prog W = .ok (.bool true) W := by
  obtain ⟨z, hz⟩ : ∃ z : List Nat, z = List.replicate 32 0 := ⟨_, rfl⟩
  have hl : z.length = 32 := by rw [hz, List.length_replicate]
  have e1 : zeros 32 = rowV (bF z) 32 := rowV_ext (by simp [zeros]) fun i hi => by
    rw [zeros_at hi]
    unfold bF u8
    rw [hz, repl0]
    rfl
  have h := equal_row 33 32 Try.underlying33 z z hl hl W
  rw [decide_eq_true rfl] at h
  rw [e1]
  clear hz
  simp [binOp, Op.equal, Op.maxDepth, h, Result.andThen]
set_option maxHeartbeats 4000000 in
set_option maxRecDepth 100000 in
theorem bookNil_any (g : Array Value) (u : World) (h : TxOf u g) : Calls Try.prog 6 #[.agg g] u fun e w' => e = .returned (.bool true) ∧ Below u.heap.size u w' := by
  obtain ⟨kd, A1, A2, n1, n2, c1, c2, l1, l2, hkd, rfl, b1, b2, z1, z2⟩ := h
  have k1 := b1.cap.1
  have k2 := b2.cap.1
  have hz := zero32
  have e1 : (u.alloc (.cells #[.int .u8 (kd : Int), .slice A1 n1 c1, .slice A2 n2 c2] 29)).heap.size = u.heap.size + 1 := by simp
  have hx := heap_alloc_new u (.cells #[.int .u8 (kd : Int), .slice A1 n1 c1, .slice A2 n2 c2] 29)
  have hb : Below u.heap.size u (u.alloc (.cells #[.int .u8 (kd : Int), .slice A1 n1 c1, .slice A2 n2 c2] 29)) := (Below.refl _ _).alloc (Nat.le_refl _) _
  have HX := Lib.hid hx
  have HB := Lib.hid hb
  have HS := Lib.hid e1
  have HI : Hid ((Try.prog.info? 29).map (·.size) = some [Value.int .u8 (kd : Int), .slice A1 n1 c1, .slice A2 n2 c2].length) := Lib.hid (by rw [show [Value.int .u8 (kd : Int), .slice A1 n1 c1, .slice A2 n2 c2].length = 3 from rfl]; kernel_rfl)
  have HI2 : Hid ((Try.prog.info? 32).map (·.size) = some (zeros 32).toList.length) := Lib.hid (by rw [show (zeros 32).toList.length = 32 by simp [zeros]]; kernel_rfl)
  clear hx hb e1 b1 b2 z1 z2
  go_enter Try.func6, Try.ntmps6
  go_wp2_with fail
  generalize u.alloc (.cells #[.int .u8 (kd : Int), .slice A1 n1 c1, .slice A2 n2 c2] 29) = W1 at *
  refine (bk_clash_nil W1).mono ?_
  rintro e w2 ⟨rfl, rfl⟩
  go_wp2_with fail
  have HY : Hid ((W1.alloc (.cells (zeros 32) 32)).heap[W1.heap.size]? = some (.cells (zeros 32) 32 (0, 0))) := Lib.hid (heap_alloc_new W1 _)
  have HB2 : Hid (Below u.heap.size u (W1.alloc (.cells (zeros 32) 32))) := Lib.hid (HB.out.alloc HB.out.size _)
  have HX2 : Hid ((W1.alloc (.cells (zeros 32) 32)).heap[u.heap.size]? = some (.cells #[.int .u8 (kd : Int), .slice A1 n1 c1, .slice A2 n2 c2] 29 (0, 0))) := Lib.hid (blk_alloc HX.out _)
  generalize hW2 : W1.alloc (.cells (zeros 32) 32) = W2 at *
  clear hW2
  have KS : Hid (∀ W, After W2 W → W.cell? ⟨u.heap.size, 0, none⟩ = some (.int .u8 (kd : Int)) ∧ W.rangeAt u.heap.size 0 [Value.int .u8 (kd : Int), .slice A1 n1 c1, .slice A2 n2 c2] ∧ W.rangeAt W1.heap.size 0 (zeros 32).toList ∧ After W2 W) := Lib.hid fun W hW => by
    have h8 := (Below.block hW _ (blk_lt HX2.out)).trans HX2.out
    have h9 := (Below.block hW _ (blk_lt HY.out)).trans HY.out
    refine ⟨blk_cell h8 0, fun j v hv => ?_, fun j v hv => ?_, hW⟩
    · rw [Nat.zero_add]
      have := blk_cell h8 j
      rw [this]; simpa using hv
    · rw [Nat.zero_add]
      have := blk_cell h9 j
      rw [this]; simpa using hv
  refine wp_region_F (S := (fun w' => w'.cell? ⟨u.heap.size, 0, none⟩ = some (.int .u8 (kd : Int)) ∧ w'.rangeAt u.heap.size 0 [Value.int .u8 (kd : Int), .slice A1 n1 c1, .slice A2 n2 c2] ∧ w'.rangeAt W1.heap.size 0 (zeros 32).toList ∧ After W2 w')) [] (by kernel_rfl) (KS.out _ (After.drew W2)) (fun hHeld => ?_)
  refine wpAnyF_take (i := 0) (oi := _) (v := ?_) rfl (by kernel_rfl) (by kernel_rfl) (by kernel_rfl) (by kernel_rfl) (fun _ _ _ h => h) (Or.inl ⟨by rfl, ?_⟩) (by assumption) ?_
  rotate_left 1
  · intro w hSw
    (try dsimp only at hSw)
    (first | (go_simp; done) | (go_simp; with_reducible rfl))
  (try simp only [Act.put, List.getElem_toArray, List.getElem_cons_succ, List.getElem_cons_zero, List.setIfInBounds_toArray, List.set_cons_zero, List.set_cons_succ])
  refine wpAnyF_take (i := 1) (oi := _) (v := ?_) rfl (by kernel_rfl) (by kernel_rfl) (by kernel_rfl) (by kernel_rfl) (fun _ _ _ h => h) (Or.inl ⟨by rfl, ?_⟩) (by assumption) ?_
  rotate_left 1
  · intro w hSw
    (try dsimp only at hSw)
    (first | (go_simp; done) | (go_simp; with_reducible rfl))
  (try simp only [Act.put, List.getElem_toArray, List.getElem_cons_succ, List.getElem_cons_zero, List.setIfInBounds_toArray, List.set_cons_zero, List.set_cons_succ])
  refine wpAnyF_take (i := 2) (oi := _) (v := ?_) rfl (by kernel_rfl) (by kernel_rfl) (by kernel_rfl) (by kernel_rfl) (fun _ _ _ h => h) (Or.inl ⟨by rfl, ?_⟩) (by assumption) ?_
  rotate_left 1
  · intro w hSw
    (try dsimp only at hSw)
    (first | (go_simp; done) | (go_simp; with_reducible rfl))
  (try simp only [Act.put, List.getElem_toArray, List.getElem_cons_succ, List.getElem_cons_zero, List.setIfInBounds_toArray, List.set_cons_zero, List.set_cons_succ])
  refine wpAnyF_take (i := 3) (oi := _) (v := (.agg #[.int .u8 (kd : Int), .slice A1 n1 c1, .slice A2 n2 c2])) rfl (by kernel_rfl) (by kernel_rfl) (by kernel_rfl) (by kernel_rfl) (fun _ _ _ h => h) (Or.inl ⟨by rfl, ?_⟩) (by assumption) ?_
  · intro w hSw
    (try dsimp only at hSw)
    exact exec_row 29 (.tmp 1) (by rfl) _ 0 (by rfl) _ _ hSw.2.1 Try.underlying29 (by rfl) HI.out
  (try simp only [Act.put, List.getElem_toArray, List.getElem_cons_succ, List.getElem_cons_zero, List.setIfInBounds_toArray, List.set_cons_zero, List.set_cons_succ])
  refine wpAnyF_take (i := 6) (oi := _) (v := (.agg (zeros 32))) rfl (by kernel_rfl) (by kernel_rfl) (by kernel_rfl) (by kernel_rfl) (fun _ _ _ h => h) (Or.inl ⟨by rfl, ?_⟩) (by assumption) ?_
  · intro w hSw
    (try dsimp only at hSw)
    exact exec_rowA 32 (.tmp 7) (by rfl) _ 0 (by rfl) _ _ hSw.2.2.1 Try.underlying32 (by rfl) HI2.out
  (try simp only [Act.put, List.getElem_toArray, List.getElem_cons_succ, List.getElem_cons_zero, List.setIfInBounds_toArray, List.set_cons_zero, List.set_cons_succ])
  refine wpAnyF_ready (rs := [4]) (by kernel_rfl) (by simp) ?_
  refine AllReadyF.cons (o := _) rfl (fun K hK => ?_) AllReadyF.nil
  go_simp
  (go_at_call 9)
  refine (parts_any (kd : Int) A1 A2 n1 n2 c1 c2 _ k1 k2).mono ?_
  rintro e w3 ⟨rfl, hb3, _, _⟩
  have HA3 : Hid (After W2 w3) := Lib.hid ((After.drew W2).next hb3)
  clear hb3
  refine hK.out _ _ (KS.out _ HA3.out) (fun hHeld4 => ?_)
  clear hK K
  (try simp only [Act.put, List.getElem_toArray, List.getElem_cons_succ, List.getElem_cons_zero, List.setIfInBounds_toArray, List.set_cons_zero, List.set_cons_succ])
  refine wpAnyF_ready (rs := [5]) (by kernel_rfl) (by simp) ?_
  refine AllReadyF.cons (o := _) rfl (fun K hK => ?_) AllReadyF.nil
  go_simp
  (go_at_call 10)
  refine (bk_sum_nil kd _ w3).mono ?_
  rintro e w4 ⟨rfl, hb4⟩
  unfold zeroD
  have HA4 : Hid (After W2 w4) := Lib.hid (HA3.out.next hb4)
  clear hb4
  refine hK.out _ _ (KS.out _ HA4.out) (fun hHeld5 => ?_)
  clear hK K
  (try simp only [Act.put, List.getElem_toArray, List.getElem_cons_succ, List.getElem_cons_zero, List.setIfInBounds_toArray, List.set_cons_zero, List.set_cons_succ])
  refine wpAnyF_take (i := 7) (oi := _) (v := (.bool true)) rfl (by kernel_rfl) (by kernel_rfl) (by kernel_rfl) (by kernel_rfl) (fun _ _ _ h => h) (Or.inl ⟨by rfl, ?_⟩) (by assumption) ?_
  · intro w hSw
    (try dsimp only at hSw)
    exact exec_bin .eql 33 _ (.tmp 19) (.tmp 20) (by rfl) _ _ _ (by rfl) (by rfl) (bk_guard _ _ _ _ _) (zero_eq w)
  (try simp only [Act.put, List.getElem_toArray, List.getElem_cons_succ, List.getElem_cons_zero, List.setIfInBounds_toArray, List.set_cons_zero, List.set_cons_succ])
  refine wpAnyF_take (i := 8) (oi := _) (v := ?_) rfl (by kernel_rfl) (by kernel_rfl) (by kernel_rfl) (by kernel_rfl) (fun _ _ _ h => h) (Or.inl ⟨by rfl, ?_⟩) (by assumption) ?_
  rotate_left 1
  · intro w hSw
    (try dsimp only at hSw)
    (first | (go_simp; done) | (go_simp; with_reducible rfl))
  (try simp only [Act.put, List.getElem_toArray, List.getElem_cons_succ, List.getElem_cons_zero, List.setIfInBounds_toArray, List.set_cons_zero, List.set_cons_succ])
  refine wpAnyF_take (i := 9) (oi := _) (v := ?_) rfl (by kernel_rfl) (by kernel_rfl) (by kernel_rfl) (by kernel_rfl) (fun _ _ _ h => h) (Or.inl ⟨by rfl, ?_⟩) (by assumption) ?_
  rotate_left 1
  · intro w hSw
    (try dsimp only at hSw)
    (first | (go_simp; done) | (go_simp; with_reducible rfl))
  (try simp only [Act.put, List.getElem_toArray, List.getElem_cons_succ, List.getElem_cons_zero, List.setIfInBounds_toArray, List.set_cons_zero, List.set_cons_succ])
  refine wpAnyF_ready (rs := [10]) (by kernel_rfl) (by simp) ?_
  refine AllReadyF.cons (o := _) rfl (fun K hK => ?_) AllReadyF.nil
  go_simp
  (go_at_call 16)
  refine (bk_len_nil w4).mono ?_
  rintro e w5 ⟨rfl, rfl⟩
  refine hK.out _ _ (KS.out _ HA4.out) (fun hHeld10 => ?_)
  clear hK K
  (try simp only [Act.put, List.getElem_toArray, List.getElem_cons_succ, List.getElem_cons_zero, List.setIfInBounds_toArray, List.set_cons_zero, List.set_cons_succ])
  refine wpAnyF_take (i := 11) (oi := _) (v := ?_) rfl (by kernel_rfl) (by kernel_rfl) (by kernel_rfl) (by kernel_rfl) (fun _ _ _ h => h) (Or.inl ⟨by rfl, ?_⟩) (by assumption) ?_
  rotate_left 1
  · intro w hSw
    (try dsimp only at hSw)
    (first | (go_simp; done) | (go_simp; with_reducible rfl))
  (try simp only [Act.put, List.getElem_toArray, List.getElem_cons_succ, List.getElem_cons_zero, List.setIfInBounds_toArray, List.set_cons_zero, List.set_cons_succ])
  refine wpAnyF_take (i := 12) (oi := _) (v := ?_) rfl (by kernel_rfl) (by kernel_rfl) (by kernel_rfl) (by kernel_rfl) (fun _ _ _ h => h) (Or.inl ⟨by rfl, ?_⟩) (by assumption) ?_
  rotate_left 1
  · intro w hSw
    (try dsimp only at hSw)
    (first | (go_simp; done) | (go_simp; with_reducible rfl))
  (try simp only [Act.put, List.getElem_toArray, List.getElem_cons_succ, List.getElem_cons_zero, List.setIfInBounds_toArray, List.set_cons_zero, List.set_cons_succ])
  refine wpAnyF_take (i := 13) (oi := _) (v := ?_) rfl (by kernel_rfl) (by kernel_rfl) (by kernel_rfl) (by kernel_rfl) (fun _ _ _ h => h) (Or.inl ⟨by rfl, ?_⟩) (by assumption) ?_
  rotate_left 1
  · intro w hSw
    (try dsimp only at hSw)
    (first | (go_simp; done) | (go_simp; with_reducible rfl))
  (try simp only [Act.put, List.getElem_toArray, List.getElem_cons_succ, List.getElem_cons_zero, List.setIfInBounds_toArray, List.set_cons_zero, List.set_cons_succ])
  refine wpAnyF_take (i := 14) (oi := _) (v := ?_) rfl (by kernel_rfl) (by kernel_rfl) (by kernel_rfl) (by kernel_rfl) (fun _ _ _ h => h) (Or.inl ⟨by rfl, ?_⟩) (by assumption) ?_
  rotate_left 1
  · intro w hSw
    (try dsimp only at hSw)
    (first | (go_simp; done) | (go_simp; with_reducible rfl))
  (try simp only [Act.put, List.getElem_toArray, List.getElem_cons_succ, List.getElem_cons_zero, List.setIfInBounds_toArray, List.set_cons_zero, List.set_cons_succ])
  refine wpAnyF_take (i := 15) (oi := _) (v := ?_) rfl (by kernel_rfl) (by kernel_rfl) (by kernel_rfl) (by kernel_rfl) (fun _ _ _ h => h) (Or.inl ⟨by rfl, ?_⟩) (by assumption) ?_
  rotate_left 1
  · intro w hSw
    (try dsimp only at hSw)
    (first | (go_simp; done) | (go_simp; with_reducible rfl))
  (try simp only [Act.put, List.getElem_toArray, List.getElem_cons_succ, List.getElem_cons_zero, List.setIfInBounds_toArray, List.set_cons_zero, List.set_cons_succ])
  refine wpAnyF_take (i := 16) (oi := _) (v := ?_) rfl (by kernel_rfl) (by kernel_rfl) (by kernel_rfl) (by kernel_rfl) (fun _ _ _ h => h) (Or.inl ⟨by rfl, ?_⟩) (by assumption) ?_
  rotate_left 1
  · intro w hSw
    (try dsimp only at hSw)
    (first | (go_simp; done) | (go_simp; with_reducible rfl))
  (try simp only [Act.put, List.getElem_toArray, List.getElem_cons_succ, List.getElem_cons_zero, List.setIfInBounds_toArray, List.set_cons_zero, List.set_cons_succ])
  refine wpAnyF_take (i := 17) (oi := _) (v := ?_) rfl (by kernel_rfl) (by kernel_rfl) (by kernel_rfl) (by kernel_rfl) (fun _ _ _ h => h) (Or.inl ⟨by rfl, ?_⟩) (by assumption) ?_
  rotate_left 1
  · intro w hSw
    (try dsimp only at hSw)
    (first | (go_simp; done) | (go_simp; with_reducible rfl))
  (try simp only [Act.put, List.getElem_toArray, List.getElem_cons_succ, List.getElem_cons_zero, List.setIfInBounds_toArray, List.set_cons_zero, List.set_cons_succ])
  refine wpAnyF_ready (rs := [18]) (by kernel_rfl) (by simp) ?_
  refine AllReadyF.cons (o := _) rfl (fun K hK => ?_) AllReadyF.nil
  go_simp
  (go_at_call 7)
  refine (bk_new_nil w4).mono ?_
  rintro e w6 ⟨rfl, rfl⟩
  refine hK.out _ _ (KS.out _ HA4.out) (fun hHeld18 => ?_)
  clear hK K
  (try simp only [Act.put, List.getElem_toArray, List.getElem_cons_succ, List.getElem_cons_zero, List.setIfInBounds_toArray, List.set_cons_zero, List.set_cons_succ])
  refine wpAnyF_take (i := 19) (oi := _) (v := ?_) rfl (by kernel_rfl) (by kernel_rfl) (by kernel_rfl) (by kernel_rfl) (fun _ _ _ h => h) (Or.inl ⟨by rfl, ?_⟩) (by assumption) ?_
  rotate_left 1
  · intro w hSw
    (try dsimp only at hSw)
    (first | (go_simp; done) | (go_simp; with_reducible rfl))
  (try simp only [Act.put, List.getElem_toArray, List.getElem_cons_succ, List.getElem_cons_zero, List.setIfInBounds_toArray, List.set_cons_zero, List.set_cons_succ])
  refine wpAnyF_take (i := 20) (oi := _) (v := ?_) rfl (by kernel_rfl) (by kernel_rfl) (by kernel_rfl) (by kernel_rfl) (fun _ _ _ h => h) (Or.inl ⟨by rfl, ?_⟩) (by assumption) ?_
  rotate_left 1
  · intro w hSw
    (try dsimp only at hSw)
    (first | (go_simp; done) | (go_simp; with_reducible rfl))
  (try simp only [Act.put, List.getElem_toArray, List.getElem_cons_succ, List.getElem_cons_zero, List.setIfInBounds_toArray, List.set_cons_zero, List.set_cons_succ])
  refine wpAnyF_take (i := 21) (oi := _) (v := ?_) rfl (by kernel_rfl) (by kernel_rfl) (by kernel_rfl) (by kernel_rfl) (fun _ _ _ h => h) (Or.inl ⟨by rfl, ?_⟩) (by assumption) ?_
  rotate_left 1
  · intro w hSw
    (try dsimp only at hSw)
    (first | (go_simp; done) | (go_simp; with_reducible rfl))
  (try simp only [Act.put, List.getElem_toArray, List.getElem_cons_succ, List.getElem_cons_zero, List.setIfInBounds_toArray, List.set_cons_zero, List.set_cons_succ])
  refine wpAnyF_ready (rs := [22]) (by kernel_rfl) (by simp) ?_
  refine AllReadyF.cons (o := _) rfl (fun K hK => ?_) AllReadyF.nil
  go_simp
  (go_at_call 13)
  refine (awake4_any w4).mono ?_
  rintro e w7 ⟨rfl, hb7⟩
  have HA7 : Hid (After W2 w7) := Lib.hid (HA4.out.next hb7)
  clear hb7
  refine hK.out _ _ (KS.out _ HA7.out) (fun hHeld22 => ?_)
  clear hK K
  (try simp only [Act.put, List.getElem_toArray, List.getElem_cons_succ, List.getElem_cons_zero, List.setIfInBounds_toArray, List.set_cons_zero, List.set_cons_succ])
  refine wpAnyF_take (i := 23) (oi := _) (v := ?_) rfl (by kernel_rfl) (by kernel_rfl) (by kernel_rfl) (by kernel_rfl) (fun _ _ _ h => h) (Or.inl ⟨by rfl, ?_⟩) (by assumption) ?_
  rotate_left 1
  · intro w hSw
    (try dsimp only at hSw)
    (first | (go_simp; done) | (go_simp; with_reducible rfl))
  (try simp only [Act.put, List.getElem_toArray, List.getElem_cons_succ, List.getElem_cons_zero, List.setIfInBounds_toArray, List.set_cons_zero, List.set_cons_succ])
  refine wpAnyF_take (i := 24) (oi := _) (v := ?_) rfl (by kernel_rfl) (by kernel_rfl) (by kernel_rfl) (by kernel_rfl) (fun _ _ _ h => h) (Or.inl ⟨by rfl, ?_⟩) (by assumption) ?_
  rotate_left 1
  · intro w hSw
    (try dsimp only at hSw)
    (first | (go_simp; done) | (go_simp; with_reducible rfl))
  (try simp only [Act.put, List.getElem_toArray, List.getElem_cons_succ, List.getElem_cons_zero, List.setIfInBounds_toArray, List.set_cons_zero, List.set_cons_succ])
  refine wpAnyF_done (by kernel_rfl) ?_ _
  go_wp2
  go_ret
  exact ⟨rfl, HB2.out.trans (Below.mono HA7.out HB2.out.size)⟩
end Go.Proofs.Ytgblgnmblbmnjaa
