/-
  A register: Set.
-/
import Derived.Test.YtbanknppdgiflaaTrC
import Derived.WalkSpells
namespace Go.Proofs.Ytbanknppdgiflaa
open Go.RowKit Go
set_option linter.unusedVariables false
set_option linter.unusedSimpArgs false
set_option maxHeartbeats 2000000 in
set_option maxRecDepth 100000 in
theorem set9_low (t g c c' L c9 k : Nat) (l l' : List Nat) (A : Option Addr) (av pv : Value) (al : List Value) (w : World) (h : TrustB w t g (regF c l)) (hd : DevK w g (.slice A L c9) false av k al 0 pv) (hc : c' ≤ c) :
    Calls Try.prog 7 #[.pointer (some ⟨t, 0, none⟩), .agg (rowV (regF c' l') 33)] w fun e w' => e = .returned (.int .i64 3) ∧ Below w.heap.size w w' := by
  have hal := heap_alloc_new w (.cells (rowV (regF c' l') 33) 26)
  have hT : TrustB (w.alloc (.cells (rowV (regF c' l') 33) 26)) t g (regF c l) := Cells.alloc h _
  have hD : DevK (w.alloc (.cells (rowV (regF c' l') 33) 26)) g (.slice A L c9) false av k al 0 pv := hd.next ((Below.refl _ _).alloc (Nat.le_refl _) _)
  have hb0 : Below w.heap.size w (w.alloc (.cells (rowV (regF c' l') 33) 26)) := (Below.refl _ _).alloc (Nat.le_refl _) _
  have k0 : (w.alloc (.cells (rowV (regF c' l') 33) 26)).cell? ⟨w.heap.size, 0, none⟩ = some (.int .u64 (c' : Int)) := (blk_cell hal 0).trans (rowV_at _ (by omega))
  have k1 : (w.alloc (.cells (rowV (regF c' l') 33) 26)).cell? ⟨t, 0, none⟩ = some (.int .u64 (c : Int)) := hT.cell 0 (by omega)
  have k33 : (w.alloc (.cells (rowV (regF c' l') 33) 26)).cell? ⟨t, 33, none⟩ = some (.func (Fn.func 17) #[.pointer (some ⟨g, 0, none⟩)] #[]) := hT.cell 33 (by omega)
  have k34 : (w.alloc (.cells (rowV (regF c' l') 33) 26)).cell? ⟨t, 34, none⟩ = some (.func (Fn.func 20) #[.pointer (some ⟨g, 0, none⟩)] #[]) := hT.cell 34 (by omega)
  have hfn : ∀ W, (binOp .eql 58 (.func (Fn.func 20) #[.pointer (some ⟨g, 0, none⟩)] #[]) .nilFunc).run Try.prog W = .ok (.bool false) W := fun W => by kernel_rfl
  have HDN := Lib.hid (fun W (hW : DevK W g (.slice A L c9) false av k al 0 pv) => down8_any g _ false av pv 0 W hW.dev)
  have hcc : (c' : Int) ≤ (c : Int) := by omega
  have HB0 := Lib.hid hb0
  have HD := Lib.hid hD
  obtain ⟨rr, hrr⟩ : ∃ z, z = rowV (regF c' l') 33 := ⟨_, rfl⟩
  rw [← hrr] at k0 k1 k33 k34 HB0 HD
  rw [← hrr]
  clear hal hT hD hb0 hrr h hd hc
  go_enter Try.func7, Try.ntmps7
  go_wp2_with fail
  generalize w.alloc (.cells rr 26) = V at *
  refine (HDN.out _ HD.out).mono ?_
  rintro e w1 ⟨rfl, rfl⟩
  go_wp2_with fail
  refine wp_region_F (S := (fun W => W.cell? ⟨w.heap.size, 0, none⟩ = some (.int .u64 (c' : Int)) ∧ W.cell? ⟨t, 0, none⟩ = some (.int .u64 (c : Int)))) [] (by kernel_rfl) (⟨k0, k1⟩) (fun hHeld => ?_)
  refine wpAnyF_take (i := 0) (oi := _) (v := ?_) rfl (by kernel_rfl) (by kernel_rfl) (by kernel_rfl) (by kernel_rfl) (fun _ _ _ h => h) (Or.inl ⟨by rfl, ?_⟩) (by assumption) ?_
  rotate_left 1
  · intro w hSw
    (try dsimp only at hSw)
    (first | (go_simp; done) | (go_simp; with_reducible rfl))
  (try simp only [Act.put, List.getElem_toArray, List.getElem_cons_succ, List.getElem_cons_zero, List.setIfInBounds_toArray, List.set_cons_zero, List.set_cons_succ])
  refine wpAnyF_take (i := 1) (oi := _) (v := ?_) rfl (by kernel_rfl) (by kernel_rfl) (by kernel_rfl) (by kernel_rfl) (fun _ _ _ h => h) (Or.inl ⟨by rfl, ?_⟩) (by assumption) ?_
  rotate_left 1
  · intro w hSw
    (try dsimp only at hSw)
    (first | (go_simp; done) | (go_simp; with_reducible rfl))
  (try simp only [Act.put, List.getElem_toArray, List.getElem_cons_succ, List.getElem_cons_zero, List.setIfInBounds_toArray, List.set_cons_zero, List.set_cons_succ])
  refine wpAnyF_take (i := 2) (oi := _) (v := ?_) rfl (by kernel_rfl) (by kernel_rfl) (by kernel_rfl) (by kernel_rfl) (fun _ _ _ h => h) (Or.inl ⟨by rfl, ?_⟩) (by assumption) ?_
  rotate_left 1
  · intro w hSw
    (try dsimp only at hSw)
    (first | (go_simp; done) | (go_simp; with_reducible rfl))
  (try simp only [Act.put, List.getElem_toArray, List.getElem_cons_succ, List.getElem_cons_zero, List.setIfInBounds_toArray, List.set_cons_zero, List.set_cons_succ])
  refine wpAnyF_take (i := 3) (oi := _) (v := ?_) rfl (by kernel_rfl) (by kernel_rfl) (by kernel_rfl) (by kernel_rfl) (fun _ _ _ h => h) (Or.inl ⟨by rfl, ?_⟩) (by assumption) ?_
  rotate_left 1
  · intro w hSw
    (try dsimp only at hSw)
    (first | (go_simp; done) | (go_simp; with_reducible rfl))
  (try simp only [Act.put, List.getElem_toArray, List.getElem_cons_succ, List.getElem_cons_zero, List.setIfInBounds_toArray, List.set_cons_zero, List.set_cons_succ])
  refine wpAnyF_take (i := 4) (oi := _) (v := ?_) rfl (by kernel_rfl) (by kernel_rfl) (by kernel_rfl) (by kernel_rfl) (fun _ _ _ h => h) (Or.inl ⟨by rfl, ?_⟩) (by assumption) ?_
  rotate_left 1
  · intro w hSw
    (try dsimp only at hSw)
    (first | (go_simp; done) | (go_simp; with_reducible rfl))
  (try simp only [Act.put, List.getElem_toArray, List.getElem_cons_succ, List.getElem_cons_zero, List.setIfInBounds_toArray, List.set_cons_zero, List.set_cons_succ])
  refine wpAnyF_take (i := 5) (oi := _) (v := ?_) rfl (by kernel_rfl) (by kernel_rfl) (by kernel_rfl) (by kernel_rfl) (fun _ _ _ h => h) (Or.inl ⟨by rfl, ?_⟩) (by assumption) ?_
  rotate_left 1
  · intro w hSw
    (try dsimp only at hSw)
    (first | (go_simp; done) | (go_simp; with_reducible rfl))
  (try simp only [Act.put, List.getElem_toArray, List.getElem_cons_succ, List.getElem_cons_zero, List.setIfInBounds_toArray, List.set_cons_zero, List.set_cons_succ])
  refine wpAnyF_take (i := 6) (oi := _) (v := ?_) rfl (by kernel_rfl) (by kernel_rfl) (by kernel_rfl) (by kernel_rfl) (fun _ _ _ h => h) (Or.inl ⟨by rfl, ?_⟩) (by assumption) ?_
  rotate_left 1
  · intro w hSw
    (try dsimp only at hSw)
    (first | (go_simp; done) | (go_simp; with_reducible rfl))
  (try simp only [Act.put, List.getElem_toArray, List.getElem_cons_succ, List.getElem_cons_zero, List.setIfInBounds_toArray, List.set_cons_zero, List.set_cons_succ])
  refine wpAnyF_take (i := 7) (oi := _) (v := ?_) rfl (by kernel_rfl) (by kernel_rfl) (by kernel_rfl) (by kernel_rfl) (fun _ _ _ h => h) (Or.inl ⟨by rfl, ?_⟩) (by assumption) ?_
  rotate_left 1
  · intro w hSw
    (try dsimp only at hSw)
    (first | (go_simp; done) | (go_simp; with_reducible rfl))
  (try simp only [Act.put, List.getElem_toArray, List.getElem_cons_succ, List.getElem_cons_zero, List.setIfInBounds_toArray, List.set_cons_zero, List.set_cons_succ])
  refine wpAnyF_take (i := 8) (oi := _) (v := ?_) rfl (by kernel_rfl) (by kernel_rfl) (by kernel_rfl) (by kernel_rfl) (fun _ _ _ h => h) (Or.inl ⟨by rfl, ?_⟩) (by assumption) ?_
  rotate_left 1
  · intro w hSw
    (try dsimp only at hSw)
    (first | (go_simp; done) | (go_simp; with_reducible rfl))
  (try simp only [Act.put, List.getElem_toArray, List.getElem_cons_succ, List.getElem_cons_zero, List.setIfInBounds_toArray, List.set_cons_zero, List.set_cons_succ])
  refine wpAnyF_done (by kernel_rfl) ?_ _
  have HF := Lib.hid HB0.out.drew
  go_wp2
  go_ret
  exact ⟨rfl, HF.out⟩
/-- what a Set that is OK leaves -/
def Sets9 (w : World) (t g : Nat) (lv av pv : Value) (k : Nat) (al : List Value) (f : Nat → Value) (e : Ending) (w' : World) : Prop :=
  ∃ av', e = .returned (.int .i64 0) ∧ DevK w' g lv false av' (k + 1) (al ++ actV 4 0 0) 0 pv ∧ TrustB w' t g f ∧ Turns (fun j => j = t ∨ j = g ∨ av.ownBlock = some j) w w' ∧ (av'.ownBlock = av.ownBlock ∨ ∃ j, w.heap.size ≤ j ∧ av'.ownBlock = some j)
set_option maxHeartbeats 2000000 in
set_option maxRecDepth 100000 in
theorem set9_ok (t g c c' L c9 k : Nat) (l l' : List Nat) (A : Option Addr) (av pv : Value) (al : List Value) (w : World) (h : TrustB w t g (regF c l)) (hd : DevK w g (.slice A L c9) false av k al 0 pv) (hc : c < c') (hc2 : c' < 2 ^ 64) (hL : L ≤ 1024) (hk : k < 16384) (hne : t ≠ g) (hav : av.ownBlock ≠ some t) :
    Calls Try.prog 7 #[.pointer (some ⟨t, 0, none⟩), .agg (rowV (regF c' l') 33)] w (Sets9 w t g (.slice A L c9) av pv k al (regF c' l')) := by
  have hal := heap_alloc_new w (.cells (rowV (regF c' l') 33) 26)
  have hT : TrustB (w.alloc (.cells (rowV (regF c' l') 33) 26)) t g (regF c l) := Cells.alloc h _
  have hD : DevK (w.alloc (.cells (rowV (regF c' l') 33) 26)) g (.slice A L c9) false av k al 0 pv := hd.next ((Below.refl _ _).alloc (Nat.le_refl _) _)
  have hb0 : Below w.heap.size w (w.alloc (.cells (rowV (regF c' l') 33) 26)) := (Below.refl _ _).alloc (Nat.le_refl _) _
  have k0 : (w.alloc (.cells (rowV (regF c' l') 33) 26)).cell? ⟨w.heap.size, 0, none⟩ = some (.int .u64 (c' : Int)) := (blk_cell hal 0).trans (rowV_at _ (by omega))
  have k1 : (w.alloc (.cells (rowV (regF c' l') 33) 26)).cell? ⟨t, 0, none⟩ = some (.int .u64 (c : Int)) := hT.cell 0 (by omega)
  have k33 : (w.alloc (.cells (rowV (regF c' l') 33) 26)).cell? ⟨t, 33, none⟩ = some (.func (Fn.func 17) #[.pointer (some ⟨g, 0, none⟩)] #[]) := hT.cell 33 (by omega)
  have k34 : (w.alloc (.cells (rowV (regF c' l') 33) 26)).cell? ⟨t, 34, none⟩ = some (.func (Fn.func 20) #[.pointer (some ⟨g, 0, none⟩)] #[]) := hT.cell 34 (by omega)
  have hfn : ∀ W, (binOp .eql 58 (.func (Fn.func 20) #[.pointer (some ⟨g, 0, none⟩)] #[]) .nilFunc).run Try.prog W = .ok (.bool false) W := fun W => by kernel_rfl
  have HDN := Lib.hid (fun W (hW : DevK W g (.slice A L c9) false av k al 0 pv) => down8_any g _ false av pv 0 W hW.dev)
  have hcc : ¬ (c' : Int) ≤ (c : Int) := by omega
  have HB0 := Lib.hid hb0
  have HD := Lib.hid hD
  have HDO := Lib.hid (do8_any g k L c9 A av pv al _ (show DevK (w.alloc (.cells (rowV (regF c' l') 33) 26)).drew g (.slice A L c9) false av k al 0 pv from hD.next ((Below.refl _ _).drew)) hL hk)
  have HT := Lib.hid hT
  have HAL := Lib.hid hal
  have hown := hd.own.lt
  have hgl := hd.dev.lt
  have htl := h.lt
  obtain ⟨rr, hrr⟩ : ∃ z, z = rowV (regF c' l') 33 := ⟨_, rfl⟩
  have HIA : Hid ((Try.prog.info? 26).map (·.size) = some rr.size) := Lib.hid (by rw [hrr]; exact info_reg _)
  have HON : Hid (rr.all (·.oneCell') = true) := Lib.hid (by rw [hrr]; exact one_reg _ _)
  have HRR := Lib.hid hrr
  have hsz : (w.alloc (.cells (rowV (regF c' l') 33) 26)).heap.size = w.heap.size + 1 := by simp
  rw [← hrr] at k0 k1 k33 k34 HB0 HD HDO HT HAL hsz
  rw [← hrr]
  have HSZ := Lib.hid hsz
  clear hal hT hD hb0 hrr h hd hc hsz
  go_enter Try.func7, Try.ntmps7
  go_wp2_with fail
  generalize w.alloc (.cells rr 26) = V at *
  refine (HDN.out _ HD.out).mono ?_
  rintro e w1 ⟨rfl, rfl⟩
  go_wp2_with fail
  refine wp_region_F (S := (fun W => W.cell? ⟨w.heap.size, 0, none⟩ = some (.int .u64 (c' : Int)) ∧ W.cell? ⟨t, 0, none⟩ = some (.int .u64 (c : Int)))) [] (by kernel_rfl) (⟨k0, k1⟩) (fun hHeld => ?_)
  refine wpAnyF_take (i := 0) (oi := _) (v := ?_) rfl (by kernel_rfl) (by kernel_rfl) (by kernel_rfl) (by kernel_rfl) (fun _ _ _ h => h) (Or.inl ⟨by rfl, ?_⟩) (by assumption) ?_
  rotate_left 1
  · intro w hSw
    (try dsimp only at hSw)
    (first | (go_simp; done) | (go_simp; with_reducible rfl))
  (try simp only [Act.put, List.getElem_toArray, List.getElem_cons_succ, List.getElem_cons_zero, List.setIfInBounds_toArray, List.set_cons_zero, List.set_cons_succ])
  refine wpAnyF_take (i := 1) (oi := _) (v := ?_) rfl (by kernel_rfl) (by kernel_rfl) (by kernel_rfl) (by kernel_rfl) (fun _ _ _ h => h) (Or.inl ⟨by rfl, ?_⟩) (by assumption) ?_
  rotate_left 1
  · intro w hSw
    (try dsimp only at hSw)
    (first | (go_simp; done) | (go_simp; with_reducible rfl))
  (try simp only [Act.put, List.getElem_toArray, List.getElem_cons_succ, List.getElem_cons_zero, List.setIfInBounds_toArray, List.set_cons_zero, List.set_cons_succ])
  refine wpAnyF_take (i := 2) (oi := _) (v := ?_) rfl (by kernel_rfl) (by kernel_rfl) (by kernel_rfl) (by kernel_rfl) (fun _ _ _ h => h) (Or.inl ⟨by rfl, ?_⟩) (by assumption) ?_
  rotate_left 1
  · intro w hSw
    (try dsimp only at hSw)
    (first | (go_simp; done) | (go_simp; with_reducible rfl))
  (try simp only [Act.put, List.getElem_toArray, List.getElem_cons_succ, List.getElem_cons_zero, List.setIfInBounds_toArray, List.set_cons_zero, List.set_cons_succ])
  refine wpAnyF_take (i := 3) (oi := _) (v := ?_) rfl (by kernel_rfl) (by kernel_rfl) (by kernel_rfl) (by kernel_rfl) (fun _ _ _ h => h) (Or.inl ⟨by rfl, ?_⟩) (by assumption) ?_
  rotate_left 1
  · intro w hSw
    (try dsimp only at hSw)
    (first | (go_simp; done) | (go_simp; with_reducible rfl))
  (try simp only [Act.put, List.getElem_toArray, List.getElem_cons_succ, List.getElem_cons_zero, List.setIfInBounds_toArray, List.set_cons_zero, List.set_cons_succ])
  refine wpAnyF_take (i := 4) (oi := _) (v := ?_) rfl (by kernel_rfl) (by kernel_rfl) (by kernel_rfl) (by kernel_rfl) (fun _ _ _ h => h) (Or.inl ⟨by rfl, ?_⟩) (by assumption) ?_
  rotate_left 1
  · intro w hSw
    (try dsimp only at hSw)
    (first | (go_simp; done) | (go_simp; with_reducible rfl))
  (try simp only [Act.put, List.getElem_toArray, List.getElem_cons_succ, List.getElem_cons_zero, List.setIfInBounds_toArray, List.set_cons_zero, List.set_cons_succ])
  refine wpAnyF_take (i := 5) (oi := _) (v := ?_) rfl (by kernel_rfl) (by kernel_rfl) (by kernel_rfl) (by kernel_rfl) (fun _ _ _ h => h) (Or.inl ⟨by rfl, ?_⟩) (by assumption) ?_
  rotate_left 1
  · intro w hSw
    (try dsimp only at hSw)
    (first | (go_simp; done) | (go_simp; with_reducible rfl))
  (try simp only [Act.put, List.getElem_toArray, List.getElem_cons_succ, List.getElem_cons_zero, List.setIfInBounds_toArray, List.set_cons_zero, List.set_cons_succ])
  refine wpAnyF_take (i := 6) (oi := _) (v := ?_) rfl (by kernel_rfl) (by kernel_rfl) (by kernel_rfl) (by kernel_rfl) (fun _ _ _ h => h) (Or.inl ⟨by rfl, ?_⟩) (by assumption) ?_
  rotate_left 1
  · intro w hSw
    (try dsimp only at hSw)
    (first | (go_simp; done) | (go_simp; with_reducible rfl))
  (try simp only [Act.put, List.getElem_toArray, List.getElem_cons_succ, List.getElem_cons_zero, List.setIfInBounds_toArray, List.set_cons_zero, List.set_cons_succ])
  refine wpAnyF_take (i := 7) (oi := _) (v := ?_) rfl (by kernel_rfl) (by kernel_rfl) (by kernel_rfl) (by kernel_rfl) (fun _ _ _ h => h) (Or.inl ⟨by rfl, ?_⟩) (by assumption) ?_
  rotate_left 1
  · intro w hSw
    (try dsimp only at hSw)
    (first | (go_simp; done) | (go_simp; with_reducible rfl))
  (try simp only [Act.put, List.getElem_toArray, List.getElem_cons_succ, List.getElem_cons_zero, List.setIfInBounds_toArray, List.set_cons_zero, List.set_cons_succ])
  refine wpAnyF_take (i := 8) (oi := _) (v := ?_) rfl (by kernel_rfl) (by kernel_rfl) (by kernel_rfl) (by kernel_rfl) (fun _ _ _ h => h) (Or.inl ⟨by rfl, ?_⟩) (by assumption) ?_
  rotate_left 1
  · intro w hSw
    (try dsimp only at hSw)
    (first | (go_simp; done) | (go_simp; with_reducible rfl))
  (try simp only [Act.put, List.getElem_toArray, List.getElem_cons_succ, List.getElem_cons_zero, List.setIfInBounds_toArray, List.set_cons_zero, List.set_cons_succ])
  refine wpAnyF_done (by kernel_rfl) ?_ _
  go_wp2_with fail
  refine HDO.out.mono ?_
  rintro e w2 ⟨av', rfl, hd2, ht2, ho2⟩
  have hw2 : w2.heap[w.heap.size]? = some (.cells rr 26 (0, 0)) := (ht2.block w.heap.size (by show w.heap.size < V.heap.size; rw [HSZ.out]; omega) (fun q => by
    rcases q with q | q
    · omega
    · have := (hown _ q).2; omega)).trans HAL.out
  have hT2 : TrustB w2 t g (regF c l) := Cells.same HT.out ht2.size (ht2.block t (by show t < V.heap.size; rw [HSZ.out]; omega) (fun q => by
    rcases q with q | q
    · exact hne q
    · exact hav q))
  have hth : w2.there t 0 rr.size := hT2.there (by rw [HRR.out, rowV_size]; omega)
  have htv := hd2.own.lt
  have hnt : av'.ownBlock ≠ some t := fun q => by
    rcases ho2 with q2 | ⟨j, hj, q2⟩
    · exact hav (q2 ▸ q)
    · have : j = t := by rw [q] at q2; exact (Option.some.inj q2).symm
      have h9 : w.heap.size ≤ V.heap.size := by rw [HSZ.out]; omega
      have h10 : V.heap.size ≤ j := hj
      omega
  have HEND : Hid (Sets9 w t g (.slice A L c9) av pv k al (regF c' l') (.returned (.int .i64 0)) (w2.setCells t 0 rr.toList)) := Lib.hid (by
    refine ⟨av', rfl, ⟨?_, ?_⟩, trust_store hT2 HRR.out, ?_, ?_⟩
    · exact (heap_setCells t _ _ _ g (fun q => hne q.symm)).trans hd2.dev
    · obtain ⟨h1, h2⟩ := hd2.own
      refine ⟨h1, ?_⟩
      rcases h2 with h2 | ⟨b9, cap, cur, hv, hbg, hh, hr⟩
      · exact .inl h2
      · exact .inr ⟨b9, cap, cur, hv, hbg, (heap_setCells t _ _ _ b9 (fun q => hnt (by rw [hv, q]; rfl))).trans hh, hr⟩
    · have t0 : Turns (fun j => j = t ∨ j = g ∨ av.ownBlock = some j) w V.drew := Turns.of_below HB0.out.drew
      have t1 := t0.trans ht2 (fun j _ q => .inr q)
      exact t1.trans (S' := fun j => j = t) ⟨(below_setCells t rr.toList 0 (Below.refl 0 w2) (Nat.zero_le _)).os, (below_setCells t rr.toList 0 (Below.refl 0 w2) (Nat.zero_le _)).tape, (below_setCells t rr.toList 0 (Below.refl 0 w2) (Nat.zero_le _)).output, by rw [size_setCells]; exact Nat.le_refl _, fun j _ hn => heap_setCells t _ _ _ j hn⟩ (fun j _ q => .inl q)
    · rcases ho2 with q2 | ⟨j, hj, q2⟩
      · exact .inl q2
      · exact .inr ⟨j, by have h9 : V.heap.size ≤ j := hj
                          have := HSZ.out
                          omega, q2⟩)
  have HW2 := Lib.hid hw2
  have HTH := Lib.hid hth
  clear hd2 ht2 ho2 hw2 hT2 hth htv hnt HAL HT HDO hown
  go_wp2_with (first
    | (with_reducible refine wpList_load_row rfl 26 (.tmp 3) rfl _ rfl 26 _ _ _ HW2.out Try.underlying26 rfl HIA.out ?_)
    | (with_reducible refine wpList_store_mid rfl 26 (.tmp 41) (.tmp 39) rfl t 0 rr rfl rfl HTH.out HIA.out HON.out ?_))
  go_ret
  exact HEND.out
end Go.Proofs.Ytbanknppdgiflaa
