/-
  A register: Set, whatever befalls the power of its device.
-/
import Derived.Test.YtbanknppdgiflaaTrD
import Derived.Test.YtbanknppdgiflaaNvI
namespace Go.Proofs.Ytbanknppdgiflaa
open Go.RowKit Go
set_option linter.unusedVariables false
set_option linter.unusedSimpArgs false
/-- what a Set leaves: it is OK and the register holds the new one, whose count is higher, or it is not and holds the old one -/
def SetE (w : World) (t g b L c9 k c c' : Nat) (l l' : List Nat) (av : Value) (e : Ending) (w' : World) : Prop :=
  ∃ (r : Int) (c1 : Nat) (l1 : List Nat) (off' : Bool) (av' : Value) (k' : Nat) (al' : List Value) (u' : Int), e = .returned (.int .i64 r) ∧ TrustB w' t g (regF c1 l1) ∧ DevQ w' g b L c9 off' av' k' al' u' (.slice none 0 0) ∧ k' ≤ k + 1 ∧ 0 ≤ u' ∧ u' ≤ 9223372036854775807 ∧
    Turns (fun j => j = t ∨ j = g ∨ av.ownBlock = some j) w w' ∧ (av'.ownBlock = av.ownBlock ∨ ∃ j, w.heap.size ≤ j ∧ av'.ownBlock = some j) ∧ ((r = 0 ∧ c1 = c' ∧ l1 = l' ∧ c < c') ∨ (r ≠ 0 ∧ c1 = c ∧ l1 = l))
set_option maxHeartbeats 2000000 in
set_option maxRecDepth 100000 in
theorem setU_low (t g b c c' L c9 k : Nat) (l l' : List Nat) (av : Value) (al : List Value) (u : Int) (w : World) (h : TrustB w t g (regF c l)) (hd : DevQ w g b L c9 false av k al u (.slice none 0 0)) (hc : c' ≤ c) :
    Calls Try.prog 7 #[.pointer (some ⟨t, 0, none⟩), .agg (rowV (regF c' l') 33)] w fun e w' => e = .returned (.int .i64 3) ∧ Below w.heap.size w w' := by
  have hal := heap_alloc_new w (.cells (rowV (regF c' l') 33) 26)
  have hT : TrustB (w.alloc (.cells (rowV (regF c' l') 33) 26)) t g (regF c l) := Cells.alloc h _
  have hD : DevQ (w.alloc (.cells (rowV (regF c' l') 33) 26)) g b L c9 false av k al u (.slice none 0 0) := hd.next ((Below.refl _ _).alloc (Nat.le_refl _) _)
  have hb0 : Below w.heap.size w (w.alloc (.cells (rowV (regF c' l') 33) 26)) := (Below.refl _ _).alloc (Nat.le_refl _) _
  have k0 : (w.alloc (.cells (rowV (regF c' l') 33) 26)).cell? ⟨w.heap.size, 0, none⟩ = some (.int .u64 (c' : Int)) := (blk_cell hal 0).trans (rowV_at _ (by omega))
  have k1 : (w.alloc (.cells (rowV (regF c' l') 33) 26)).cell? ⟨t, 0, none⟩ = some (.int .u64 (c : Int)) := hT.cell 0 (by omega)
  have k33 : (w.alloc (.cells (rowV (regF c' l') 33) 26)).cell? ⟨t, 33, none⟩ = some (.func (Fn.func 17) #[.pointer (some ⟨g, 0, none⟩)] #[]) := hT.cell 33 (by omega)
  have k34 : (w.alloc (.cells (rowV (regF c' l') 33) 26)).cell? ⟨t, 34, none⟩ = some (.func (Fn.func 20) #[.pointer (some ⟨g, 0, none⟩)] #[]) := hT.cell 34 (by omega)
  have hfn : ∀ W, (binOp .eql 58 (.func (Fn.func 20) #[.pointer (some ⟨g, 0, none⟩)] #[]) .nilFunc).run Try.prog W = .ok (.bool false) W := fun W => by kernel_rfl
  have HDN := Lib.hid (fun W (hW : DevQ W g b L c9 false av k al u (.slice none 0 0)) => down8_any g _ false av (.slice none 0 0) u W hW.dev.dev)
  have hcc : (c' : Int) ≤ (c : Int) := by omega
  have HB0 := Lib.hid hb0
  have HD := Lib.hid hD
  obtain ⟨rr, hrr⟩ : ∃ z, z = rowV (regF c' l') 33 := ⟨_, rfl⟩
  rw [← hrr] at k0 k1 k33 k34 HB0 HD
  rw [← hrr]
  clear hal hT hD hb0 hrr h hd hc
  go_enter Try.func7, Try.ntmps7
  go_wp2_with fail
  generalize w.alloc (.cells rr 26) = V at *
  refine (HDN.out _ HD.out).mono ?_
  rintro e w1 ⟨rfl, rfl⟩
  go_wp2_with fail
  refine wp_region_F (S := (fun W => W.cell? ⟨w.heap.size, 0, none⟩ = some (.int .u64 (c' : Int)) ∧ W.cell? ⟨t, 0, none⟩ = some (.int .u64 (c : Int)))) [] (by kernel_rfl) (⟨k0, k1⟩) (fun hHeld => ?_)
  refine wpAnyF_take (i := 0) (oi := _) (v := ?_) rfl (by kernel_rfl) (by kernel_rfl) (by kernel_rfl) (by kernel_rfl) (fun _ _ _ h => h) (Or.inl ⟨by rfl, ?_⟩) (by assumption) ?_
  rotate_left 1
  · intro w hSw
    (try dsimp only at hSw)
    (first | (go_simp; done) | (go_simp; with_reducible rfl))
  (try simp only [Act.put, List.getElem_toArray, List.getElem_cons_succ, List.getElem_cons_zero, List.setIfInBounds_toArray, List.set_cons_zero, List.set_cons_succ])
  refine wpAnyF_take (i := 1) (oi := _) (v := ?_) rfl (by kernel_rfl) (by kernel_rfl) (by kernel_rfl) (by kernel_rfl) (fun _ _ _ h => h) (Or.inl ⟨by rfl, ?_⟩) (by assumption) ?_
  rotate_left 1
  · intro w hSw
    (try dsimp only at hSw)
    (first | (go_simp; done) | (go_simp; with_reducible rfl))
  (try simp only [Act.put, List.getElem_toArray, List.getElem_cons_succ, List.getElem_cons_zero, List.setIfInBounds_toArray, List.set_cons_zero, List.set_cons_succ])
  refine wpAnyF_take (i := 2) (oi := _) (v := ?_) rfl (by kernel_rfl) (by kernel_rfl) (by kernel_rfl) (by kernel_rfl) (fun _ _ _ h => h) (Or.inl ⟨by rfl, ?_⟩) (by assumption) ?_
  rotate_left 1
  · intro w hSw
    (try dsimp only at hSw)
    (first | (go_simp; done) | (go_simp; with_reducible rfl))
  (try simp only [Act.put, List.getElem_toArray, List.getElem_cons_succ, List.getElem_cons_zero, List.setIfInBounds_toArray, List.set_cons_zero, List.set_cons_succ])
  refine wpAnyF_take (i := 3) (oi := _) (v := ?_) rfl (by kernel_rfl) (by kernel_rfl) (by kernel_rfl) (by kernel_rfl) (fun _ _ _ h => h) (Or.inl ⟨by rfl, ?_⟩) (by assumption) ?_
  rotate_left 1
  · intro w hSw
    (try dsimp only at hSw)
    (first | (go_simp; done) | (go_simp; with_reducible rfl))
  (try simp only [Act.put, List.getElem_toArray, List.getElem_cons_succ, List.getElem_cons_zero, List.setIfInBounds_toArray, List.set_cons_zero, List.set_cons_succ])
  refine wpAnyF_take (i := 4) (oi := _) (v := ?_) rfl (by kernel_rfl) (by kernel_rfl) (by kernel_rfl) (by kernel_rfl) (fun _ _ _ h => h) (Or.inl ⟨by rfl, ?_⟩) (by assumption) ?_
  rotate_left 1
  · intro w hSw
    (try dsimp only at hSw)
    (first | (go_simp; done) | (go_simp; with_reducible rfl))
  (try simp only [Act.put, List.getElem_toArray, List.getElem_cons_succ, List.getElem_cons_zero, List.setIfInBounds_toArray, List.set_cons_zero, List.set_cons_succ])
  refine wpAnyF_take (i := 5) (oi := _) (v := ?_) rfl (by kernel_rfl) (by kernel_rfl) (by kernel_rfl) (by kernel_rfl) (fun _ _ _ h => h) (Or.inl ⟨by rfl, ?_⟩) (by assumption) ?_
  rotate_left 1
  · intro w hSw
    (try dsimp only at hSw)
    (first | (go_simp; done) | (go_simp; with_reducible rfl))
  (try simp only [Act.put, List.getElem_toArray, List.getElem_cons_succ, List.getElem_cons_zero, List.setIfInBounds_toArray, List.set_cons_zero, List.set_cons_succ])
  refine wpAnyF_take (i := 6) (oi := _) (v := ?_) rfl (by kernel_rfl) (by kernel_rfl) (by kernel_rfl) (by kernel_rfl) (fun _ _ _ h => h) (Or.inl ⟨by rfl, ?_⟩) (by assumption) ?_
  rotate_left 1
  · intro w hSw
    (try dsimp only at hSw)
    (first | (go_simp; done) | (go_simp; with_reducible rfl))
  (try simp only [Act.put, List.getElem_toArray, List.getElem_cons_succ, List.getElem_cons_zero, List.setIfInBounds_toArray, List.set_cons_zero, List.set_cons_succ])
  refine wpAnyF_take (i := 7) (oi := _) (v := ?_) rfl (by kernel_rfl) (by kernel_rfl) (by kernel_rfl) (by kernel_rfl) (fun _ _ _ h => h) (Or.inl ⟨by rfl, ?_⟩) (by assumption) ?_
  rotate_left 1
  · intro w hSw
    (try dsimp only at hSw)
    (first | (go_simp; done) | (go_simp; with_reducible rfl))
  (try simp only [Act.put, List.getElem_toArray, List.getElem_cons_succ, List.getElem_cons_zero, List.setIfInBounds_toArray, List.set_cons_zero, List.set_cons_succ])
  refine wpAnyF_take (i := 8) (oi := _) (v := ?_) rfl (by kernel_rfl) (by kernel_rfl) (by kernel_rfl) (by kernel_rfl) (fun _ _ _ h => h) (Or.inl ⟨by rfl, ?_⟩) (by assumption) ?_
  rotate_left 1
  · intro w hSw
    (try dsimp only at hSw)
    (first | (go_simp; done) | (go_simp; with_reducible rfl))
  (try simp only [Act.put, List.getElem_toArray, List.getElem_cons_succ, List.getElem_cons_zero, List.setIfInBounds_toArray, List.set_cons_zero, List.set_cons_succ])
  refine wpAnyF_done (by kernel_rfl) ?_ _
  have HF := Lib.hid HB0.out.drew
  go_wp2
  go_ret
  exact ⟨rfl, HF.out⟩
set_option maxHeartbeats 2000000 in
set_option maxRecDepth 100000 in
theorem setU_down (t g b c c' L c9 k : Nat) (l l' : List Nat) (av : Value) (al : List Value) (u : Int) (w : World) (h : TrustB w t g (regF c l)) (hd : DevQ w g b L c9 true av k al u (.slice none 0 0)) :
    Calls Try.prog 7 #[.pointer (some ⟨t, 0, none⟩), .agg (rowV (regF c' l') 33)] w fun e w' => e = .returned (.int .i64 8) ∧ Below w.heap.size w w' := by
  have hal := heap_alloc_new w (.cells (rowV (regF c' l') 33) 26)
  have hT : TrustB (w.alloc (.cells (rowV (regF c' l') 33) 26)) t g (regF c l) := Cells.alloc h _
  have hD : DevQ (w.alloc (.cells (rowV (regF c' l') 33) 26)) g b L c9 true av k al u (.slice none 0 0) := hd.next ((Below.refl _ _).alloc (Nat.le_refl _) _)
  have hb0 : Below w.heap.size w (w.alloc (.cells (rowV (regF c' l') 33) 26)) := (Below.refl _ _).alloc (Nat.le_refl _) _
  have k0 : (w.alloc (.cells (rowV (regF c' l') 33) 26)).cell? ⟨w.heap.size, 0, none⟩ = some (.int .u64 (c' : Int)) := (blk_cell hal 0).trans (rowV_at _ (by omega))
  have k1 : (w.alloc (.cells (rowV (regF c' l') 33) 26)).cell? ⟨t, 0, none⟩ = some (.int .u64 (c : Int)) := hT.cell 0 (by omega)
  have k33 : (w.alloc (.cells (rowV (regF c' l') 33) 26)).cell? ⟨t, 33, none⟩ = some (.func (Fn.func 17) #[.pointer (some ⟨g, 0, none⟩)] #[]) := hT.cell 33 (by omega)
  have k34 : (w.alloc (.cells (rowV (regF c' l') 33) 26)).cell? ⟨t, 34, none⟩ = some (.func (Fn.func 20) #[.pointer (some ⟨g, 0, none⟩)] #[]) := hT.cell 34 (by omega)
  have hfn : ∀ W, (binOp .eql 58 (.func (Fn.func 20) #[.pointer (some ⟨g, 0, none⟩)] #[]) .nilFunc).run Try.prog W = .ok (.bool false) W := fun W => by kernel_rfl
  have HDN := Lib.hid (fun W (hW : DevQ W g b L c9 true av k al u (.slice none 0 0)) => down8_any g _ true av (.slice none 0 0) u W hW.dev.dev)
  have HB0 := Lib.hid hb0
  have HD := Lib.hid hD
  obtain ⟨rr, hrr⟩ : ∃ z, z = rowV (regF c' l') 33 := ⟨_, rfl⟩
  rw [← hrr] at k0 k1 k33 k34 HB0 HD
  rw [← hrr]
  clear hal hT hD hb0 hrr h hd
  go_enter Try.func7, Try.ntmps7
  go_wp2_with fail
  generalize w.alloc (.cells rr 26) = V at *
  refine (HDN.out _ HD.out).mono ?_
  rintro e w1 ⟨rfl, rfl⟩
  have HF := Lib.hid HB0.out
  go_wp2
  go_ret
  exact ⟨rfl, HF.out⟩
set_option maxHeartbeats 2000000 in
set_option maxRecDepth 100000 in
theorem setU_act (t g b c c' L c9 k : Nat) (l l' : List Nat) (av : Value) (al : List Value) (u : Int) (w : World) (h : TrustB w t g (regF c l)) (hd : DevQ w g b L c9 false av k al u (.slice none 0 0)) (hc : c < c') (hc2 : c' < 2 ^ 64) (hk : k < 16384) (hne : t ≠ g) (hnb : t ≠ b) (hav : av.ownBlock ≠ some t) (hu : 0 ≤ u) (hu2 : u ≤ 9223372036854775807) :
    Calls Try.prog 7 #[.pointer (some ⟨t, 0, none⟩), .agg (rowV (regF c' l') 33)] w (SetE w t g b L c9 k c c' l l' av) := by
  have hal := heap_alloc_new w (.cells (rowV (regF c' l') 33) 26)
  have hT : TrustB (w.alloc (.cells (rowV (regF c' l') 33) 26)) t g (regF c l) := Cells.alloc h _
  have hD : DevQ (w.alloc (.cells (rowV (regF c' l') 33) 26)) g b L c9 false av k al u (.slice none 0 0) := hd.next ((Below.refl _ _).alloc (Nat.le_refl _) _)
  have hb0 : Below w.heap.size w (w.alloc (.cells (rowV (regF c' l') 33) 26)) := (Below.refl _ _).alloc (Nat.le_refl _) _
  have k0 : (w.alloc (.cells (rowV (regF c' l') 33) 26)).cell? ⟨w.heap.size, 0, none⟩ = some (.int .u64 (c' : Int)) := (blk_cell hal 0).trans (rowV_at _ (by omega))
  have k1 : (w.alloc (.cells (rowV (regF c' l') 33) 26)).cell? ⟨t, 0, none⟩ = some (.int .u64 (c : Int)) := hT.cell 0 (by omega)
  have k33 : (w.alloc (.cells (rowV (regF c' l') 33) 26)).cell? ⟨t, 33, none⟩ = some (.func (Fn.func 17) #[.pointer (some ⟨g, 0, none⟩)] #[]) := hT.cell 33 (by omega)
  have k34 : (w.alloc (.cells (rowV (regF c' l') 33) 26)).cell? ⟨t, 34, none⟩ = some (.func (Fn.func 20) #[.pointer (some ⟨g, 0, none⟩)] #[]) := hT.cell 34 (by omega)
  have hfn : ∀ W, (binOp .eql 58 (.func (Fn.func 20) #[.pointer (some ⟨g, 0, none⟩)] #[]) .nilFunc).run Try.prog W = .ok (.bool false) W := fun W => by kernel_rfl
  have HDN := Lib.hid (fun W (hW : DevQ W g b L c9 false av k al u (.slice none 0 0)) => down8_any g _ false av (.slice none 0 0) u W hW.dev.dev)
  have hcc : ¬ (c' : Int) ≤ (c : Int) := by omega
  have HB0 := Lib.hid hb0
  have HD := Lib.hid hD
  have HDO := Lib.hid (doQ_any g b L c9 k false av al u _ (show DevQ (w.alloc (.cells (rowV (regF c' l') 33) 26)).drew g b L c9 false av k al u (.slice none 0 0) from hD.next ((Below.refl _ _).drew)) hk hu hu2)
  have HT := Lib.hid hT
  have HAL := Lib.hid hal
  have hown := hd.dev.own.lt
  have hgl := hd.dev.dev.lt
  have hcc2 : c < c' := hc
  have htl := h.lt
  obtain ⟨rr, hrr⟩ : ∃ z, z = rowV (regF c' l') 33 := ⟨_, rfl⟩
  have HIA : Hid ((Try.prog.info? 26).map (·.size) = some rr.size) := Lib.hid (by rw [hrr]; exact info_reg _)
  have HON : Hid (rr.all (·.oneCell') = true) := Lib.hid (by rw [hrr]; exact one_reg _ _)
  have HRR := Lib.hid hrr
  have hsz : (w.alloc (.cells (rowV (regF c' l') 33) 26)).heap.size = w.heap.size + 1 := by simp
  rw [← hrr] at k0 k1 k33 k34 HB0 HD HDO HT HAL hsz
  rw [← hrr]
  have HSZ := Lib.hid hsz
  clear hal hT hD hb0 hrr h hd hc hsz
  go_enter Try.func7, Try.ntmps7
  go_wp2_with fail
  generalize w.alloc (.cells rr 26) = V at *
  refine (HDN.out _ HD.out).mono ?_
  rintro e w1 ⟨rfl, rfl⟩
  go_wp2_with fail
  refine wp_region_F (S := (fun W => W.cell? ⟨w.heap.size, 0, none⟩ = some (.int .u64 (c' : Int)) ∧ W.cell? ⟨t, 0, none⟩ = some (.int .u64 (c : Int)))) [] (by kernel_rfl) (⟨k0, k1⟩) (fun hHeld => ?_)
  refine wpAnyF_take (i := 0) (oi := _) (v := ?_) rfl (by kernel_rfl) (by kernel_rfl) (by kernel_rfl) (by kernel_rfl) (fun _ _ _ h => h) (Or.inl ⟨by rfl, ?_⟩) (by assumption) ?_
  rotate_left 1
  · intro w hSw
    (try dsimp only at hSw)
    (first | (go_simp; done) | (go_simp; with_reducible rfl))
  (try simp only [Act.put, List.getElem_toArray, List.getElem_cons_succ, List.getElem_cons_zero, List.setIfInBounds_toArray, List.set_cons_zero, List.set_cons_succ])
  refine wpAnyF_take (i := 1) (oi := _) (v := ?_) rfl (by kernel_rfl) (by kernel_rfl) (by kernel_rfl) (by kernel_rfl) (fun _ _ _ h => h) (Or.inl ⟨by rfl, ?_⟩) (by assumption) ?_
  rotate_left 1
  · intro w hSw
    (try dsimp only at hSw)
    (first | (go_simp; done) | (go_simp; with_reducible rfl))
  (try simp only [Act.put, List.getElem_toArray, List.getElem_cons_succ, List.getElem_cons_zero, List.setIfInBounds_toArray, List.set_cons_zero, List.set_cons_succ])
  refine wpAnyF_take (i := 2) (oi := _) (v := ?_) rfl (by kernel_rfl) (by kernel_rfl) (by kernel_rfl) (by kernel_rfl) (fun _ _ _ h => h) (Or.inl ⟨by rfl, ?_⟩) (by assumption) ?_
  rotate_left 1
  · intro w hSw
    (try dsimp only at hSw)
    (first | (go_simp; done) | (go_simp; with_reducible rfl))
  (try simp only [Act.put, List.getElem_toArray, List.getElem_cons_succ, List.getElem_cons_zero, List.setIfInBounds_toArray, List.set_cons_zero, List.set_cons_succ])
  refine wpAnyF_take (i := 3) (oi := _) (v := ?_) rfl (by kernel_rfl) (by kernel_rfl) (by kernel_rfl) (by kernel_rfl) (fun _ _ _ h => h) (Or.inl ⟨by rfl, ?_⟩) (by assumption) ?_
  rotate_left 1
  · intro w hSw
    (try dsimp only at hSw)
    (first | (go_simp; done) | (go_simp; with_reducible rfl))
  (try simp only [Act.put, List.getElem_toArray, List.getElem_cons_succ, List.getElem_cons_zero, List.setIfInBounds_toArray, List.set_cons_zero, List.set_cons_succ])
  refine wpAnyF_take (i := 4) (oi := _) (v := ?_) rfl (by kernel_rfl) (by kernel_rfl) (by kernel_rfl) (by kernel_rfl) (fun _ _ _ h => h) (Or.inl ⟨by rfl, ?_⟩) (by assumption) ?_
  rotate_left 1
  · intro w hSw
    (try dsimp only at hSw)
    (first | (go_simp; done) | (go_simp; with_reducible rfl))
  (try simp only [Act.put, List.getElem_toArray, List.getElem_cons_succ, List.getElem_cons_zero, List.setIfInBounds_toArray, List.set_cons_zero, List.set_cons_succ])
  refine wpAnyF_take (i := 5) (oi := _) (v := ?_) rfl (by kernel_rfl) (by kernel_rfl) (by kernel_rfl) (by kernel_rfl) (fun _ _ _ h => h) (Or.inl ⟨by rfl, ?_⟩) (by assumption) ?_
  rotate_left 1
  · intro w hSw
    (try dsimp only at hSw)
    (first | (go_simp; done) | (go_simp; with_reducible rfl))
  (try simp only [Act.put, List.getElem_toArray, List.getElem_cons_succ, List.getElem_cons_zero, List.setIfInBounds_toArray, List.set_cons_zero, List.set_cons_succ])
  refine wpAnyF_take (i := 6) (oi := _) (v := ?_) rfl (by kernel_rfl) (by kernel_rfl) (by kernel_rfl) (by kernel_rfl) (fun _ _ _ h => h) (Or.inl ⟨by rfl, ?_⟩) (by assumption) ?_
  rotate_left 1
  · intro w hSw
    (try dsimp only at hSw)
    (first | (go_simp; done) | (go_simp; with_reducible rfl))
  (try simp only [Act.put, List.getElem_toArray, List.getElem_cons_succ, List.getElem_cons_zero, List.setIfInBounds_toArray, List.set_cons_zero, List.set_cons_succ])
  refine wpAnyF_take (i := 7) (oi := _) (v := ?_) rfl (by kernel_rfl) (by kernel_rfl) (by kernel_rfl) (by kernel_rfl) (fun _ _ _ h => h) (Or.inl ⟨by rfl, ?_⟩) (by assumption) ?_
  rotate_left 1
  · intro w hSw
    (try dsimp only at hSw)
    (first | (go_simp; done) | (go_simp; with_reducible rfl))
  (try simp only [Act.put, List.getElem_toArray, List.getElem_cons_succ, List.getElem_cons_zero, List.setIfInBounds_toArray, List.set_cons_zero, List.set_cons_succ])
  refine wpAnyF_take (i := 8) (oi := _) (v := ?_) rfl (by kernel_rfl) (by kernel_rfl) (by kernel_rfl) (by kernel_rfl) (fun _ _ _ h => h) (Or.inl ⟨by rfl, ?_⟩) (by assumption) ?_
  rotate_left 1
  · intro w hSw
    (try dsimp only at hSw)
    (first | (go_simp; done) | (go_simp; with_reducible rfl))
  (try simp only [Act.put, List.getElem_toArray, List.getElem_cons_succ, List.getElem_cons_zero, List.setIfInBounds_toArray, List.set_cons_zero, List.set_cons_succ])
  refine wpAnyF_done (by kernel_rfl) ?_ _
  go_wp2_with fail
  refine HDO.out.mono ?_
  rintro e w2 ⟨r, off2, av', k2, al2, u2, rfl, hr, hd2, hk2, hu3, hu4, ht2, ho2⟩
  have hw2 : w2.heap[w.heap.size]? = some (.cells rr 26 (0, 0)) := (ht2.block w.heap.size (by show w.heap.size < V.heap.size; rw [HSZ.out]; omega) (fun q => by
    rcases q with q | q
    · omega
    · have := (hown _ q).2; omega)).trans HAL.out
  have hT2 : TrustB w2 t g (regF c l) := Cells.same HT.out ht2.size (ht2.block t (by show t < V.heap.size; rw [HSZ.out]; omega) (fun q => by
    rcases q with q | q
    · exact hne q
    · exact hav q))
  have hth : w2.there t 0 rr.size := hT2.there (by rw [HRR.out, rowV_size]; omega)
  have htv := hd2.dev.own.lt
  have hnt : av'.ownBlock ≠ some t := fun q => by
    rcases ho2 with q2 | ⟨j, hj, q2⟩
    · exact hav (q2 ▸ q)
    · have : j = t := by rw [q] at q2; exact (Option.some.inj q2).symm
      have h9 : w.heap.size ≤ V.heap.size := by rw [HSZ.out]; omega
      have h10 : V.heap.size ≤ j := hj
      omega
  have t0 : Turns (fun j => j = t ∨ j = g ∨ av.ownBlock = some j) w V.drew := Turns.of_below HB0.out.drew
  have t1 : Turns (fun j => j = t ∨ j = g ∨ av.ownBlock = some j) w w2 := t0.trans ht2 (fun j _ q => .inr q)
  have ho3 : av'.ownBlock = av.ownBlock ∨ ∃ j, w.heap.size ≤ j ∧ av'.ownBlock = some j := by
    rcases ho2 with q2 | ⟨j, hj, q2⟩
    · exact .inl q2
    · exact .inr ⟨j, by have h9 : V.heap.size ≤ j := hj
                        have := HSZ.out
                        omega, q2⟩
  rcases hr with rfl | rfl
  · have HEND : Hid (SetE w t g b L c9 k c c' l l' av (.returned (.int .i64 0)) (w2.setCells t 0 rr.toList)) := Lib.hid (by
      have hdk : DevK (w2.setCells t 0 rr.toList) g (.slice (some ⟨b, 0, none⟩) L c9) off2 av' k2 al2 u2 (.slice none 0 0) := by
        refine ⟨(heap_setCells t _ _ _ g (fun q => hne q.symm)).trans hd2.dev.dev, ?_⟩
        obtain ⟨h1, h2⟩ := hd2.dev.own
        refine ⟨h1, ?_⟩
        rcases h2 with h2 | ⟨b9, cap, cur, hv, hbg, hh, hr⟩
        · exact .inl h2
        · exact .inr ⟨b9, cap, cur, hv, hbg, (heap_setCells t _ _ _ b9 (fun q => hnt (by rw [hv, q]; rfl))).trans hh, hr⟩
      refine ⟨0, c', l', off2, av', k2, al2, u2, rfl, trust_store hT2 HRR.out, hd2.of hdk (heap_setCells t _ _ _ b (fun q => hnb q.symm)), hk2, hu3, hu4, ?_, ho3, .inl ⟨rfl, rfl, rfl, hcc2⟩⟩
      exact t1.trans (S' := fun j => j = t) ⟨os_setCells t _ _ _, tape_setCells t _ _ _, output_setCells t _ _ _, by rw [size_setCells]; exact Nat.le_refl _, fun j _ hn => heap_setCells t _ _ _ j hn⟩ (fun j _ q => .inl q))
    have HW2 := Lib.hid hw2
    have HTH := Lib.hid hth
    clear hd2 ht2 ho2 ho3 t0 t1 hw2 hT2 hth htv hnt HAL HT HDO hown
    go_wp2_with (first
      | (with_reducible refine wpList_load_row rfl 26 (.tmp 3) rfl _ rfl 26 _ _ _ HW2.out Try.underlying26 rfl HIA.out ?_)
      | (with_reducible refine wpList_store_mid rfl 26 (.tmp 41) (.tmp 39) rfl t 0 rr rfl rfl HTH.out HIA.out HON.out ?_))
    go_ret
    exact HEND.out
  · have HEND : Hid (SetE w t g b L c9 k c c' l l' av (.returned (.int .i64 8)) w2) := Lib.hid ⟨8, c, l, off2, av', k2, al2, u2, rfl, hT2, hd2, hk2, hu3, hu4, t1, ho3, .inr ⟨by decide, rfl, rfl⟩⟩
    clear hd2 ht2 ho2 ho3 t0 t1 hw2 hT2 hth htv hnt HAL HT HDO hown
    go_wp2
    go_ret
    exact HEND.out
theorem setU_any (t g b c c' L c9 k : Nat) (l l' : List Nat) (off : Bool) (av : Value) (al : List Value) (u : Int) (w : World) (h : TrustB w t g (regF c l)) (hd : DevQ w g b L c9 off av k al u (.slice none 0 0)) (hc2 : c' < 2 ^ 64) (hk : k < 16384) (hne : t ≠ g) (hnb : t ≠ b) (hav : av.ownBlock ≠ some t) (hu : 0 ≤ u) (hu2 : u ≤ 9223372036854775807) :
    Calls Try.prog 7 #[.pointer (some ⟨t, 0, none⟩), .agg (rowV (regF c' l') 33)] w (SetE w t g b L c9 k c c' l l' av) := by
  cases off
  · by_cases hcc : c < c'
    · exact setU_act t g b c c' L c9 k l l' av al u w h hd hcc hc2 hk hne hnb hav hu hu2
    · refine (setU_low t g b c c' L c9 k l l' av al u w h hd (by omega)).mono ?_
      rintro e w' ⟨he, hb⟩
      exact ⟨3, c, l, false, av, k, al, u, he, Cells.after h hb, hd.next hb, by omega, hu, hu2, Turns.of_below hb, .inl rfl, .inr ⟨by decide, rfl, rfl⟩⟩
  · refine (setU_down t g b c c' L c9 k l l' av al u w h hd).mono ?_
    rintro e w' ⟨he, hb⟩
    exact ⟨8, c, l, true, av, k, al, u, he, Cells.after h hb, hd.next hb, by omega, hu, hu2, Turns.of_below hb, .inl rfl, .inr ⟨by decide, rfl, rfl⟩⟩
end Go.Proofs.Ytbanknppdgiflaa
