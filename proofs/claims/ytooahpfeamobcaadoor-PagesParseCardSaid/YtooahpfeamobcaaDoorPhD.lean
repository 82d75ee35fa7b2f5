/-
  Sixteen pages out of a block: the document's Parse.
-/
import Derived.Test.YtooahpfeamobcaaDoorPhB
namespace Go.Proofs.YtooahpfeamobcaaDoor
open Go.RowKit Go Go.Shelf
set_option linter.unusedVariables false
set_option linter.unusedSimpArgs false
set_option maxRecDepth 100000
def RParseTo (w : World) (b : List Nat) (e : Ending) (w' : World) : Prop := Below w.heap.size w w' ∧
  (((rd16 b).all oneP = false ∧ e = .returned (.tuple #[.slice none 0 0, .bool false])) ∨
   ((rd16 b).all oneP = true ∧ ∃ A c, e = .returned (.tuple #[.slice A 16 c, .bool true]) ∧ PS w' A 16 c (rd16 b)))
theorem get_at {w : World} {B bb oo c : Nat} {b : List Nat} (h : BS w B (some ⟨bb, oo, none⟩) 256 c b) (s m : Nat) (h1 : 1 ≤ m) (h8 : m ≤ 8) (hs : s + m ≤ 256) (W : World) (hW : Below B w W) :
    Calls Tryd.prog 22 #[.slice (some ⟨bb, oo + s, none⟩) m (c - s)] W fun e w' => e = .returned (.int .u64 ((num ((b.drop s).take m) : Nat) : Int)) ∧ W = w' := by
  have hd := ((h.below hW).drop (k := s) (by omega)).take (k := m) (by omega)
  have hc := h.cap.1
  rw [if_neg (by omega)] at hd
  have e : (some (⟨bb, oo, none⟩ : Addr)).map (·.add s) = some ⟨bb, oo + s, none⟩ := by simp [Go.WideShapes.add_plain]
  rw [e] at hd
  have := refGet_any _ _ _ _ W B hd
  rw [List.take_take, Nat.min_eq_right h8] at this
  exact this
theorem num_one {b : List Nat} (s : Nat) (h : s < b.length) : num ((b.drop s).take 1) = b.getD s 0 := by
  rw [List.drop_eq_getElem_cons h, List.getD_eq_getElem?_getD, List.getElem?_eq_getElem h, List.take_succ_cons, List.take_zero]
  show num [] * 256 + b[s] = b[s]
  simp [num]
set_option maxHeartbeats 8000000 in
theorem rparse_any (A : Option Addr) (c : Nat) (b : List Nat) (w : World) (hs : BS w w.heap.size A 256 c b) (hS : SZ w) :
    Calls Tryd.prog 8 #[.slice A 256 c] w (RParseTo w b) := by
  have HSZ := Lib.hid hS
  have HLB := Lib.hid hs.len
  have HBYT := Lib.hid hs.byte
  have hcn := hs.cap
  obtain ⟨bb, oo, rfl, hbb, hcell⟩ := hs.at_ (by omega)
  have HCELL := Lib.hid hcell
  have HS := Lib.hid hs
  clear hs hS hcell
  go_enter Tryd.func8, Tryd.ntmps8
  go_wp2
  go_loopw [4, 5] (fun v i W => ∃ k : Nat, i = .int .i64 ((16 * k : Nat) : Int) ∧ k ≤ 16 ∧ OwnP W w.heap.size RT v ((rd16 b).take k) ∧ (∀ j, j < k → oneP (pg (rd16 b) j) = true) ∧ Below w.heap.size w W) (fun _ i _ => 256 - (intOf i).toNat)
  case atStart => exact ⟨0, rfl, Nat.zero_le _, OwnP.nil _ _ _, fun j hj => absurd hj (by omega), Below.refl _ _⟩
  case round =>
    obtain ⟨k, rfl, hk, ho, hone, hb⟩ := hrel
    have HO := Lib.hid ho
    have HONE := Lib.hid hone
    have HB := Lib.hid hb
    clear ho hone hb
    obtain ⟨z, hz⟩ : ∃ z, z = 16 * k := ⟨_, rfl⟩
    rw [← hz]
    by_cases hlt : k < 16
    · have hz1 : z + 16 ≤ 256 := by omega
      have HZ := Lib.hid hz
      clear hz
      have hzI : (z : Int) < 256 := by omega
      have HC0 : Hid (∀ W, Below w.heap.size w W → W.cell? ⟨bb, oo + z, none⟩ = some (.int .u8 ((b.getD z 0 : Nat) : Int)) ∧ W.cell? ⟨bb, oo + (z + 1), none⟩ = some (.int .u8 ((b.getD (z + 1) 0 : Nat) : Int))) := Lib.hid (fun W hW => ⟨(hW.cell (p := ⟨bb, oo + z, none⟩) hbb).trans (HCELL.out z (by omega)), (hW.cell (p := ⟨bb, oo + (z + 1), none⟩) hbb).trans (HCELL.out (z + 1) (by omega))⟩)
      obtain ⟨z1, hz1'⟩ : ∃ z1, z1 = z + 1 := ⟨_, rfl⟩
      obtain ⟨z2, hz2'⟩ : ∃ z2, z2 = z + 2 := ⟨_, rfl⟩
      obtain ⟨z4, hz4'⟩ : ∃ z4, z4 = z + 4 := ⟨_, rfl⟩
      obtain ⟨z8, hz8'⟩ : ∃ z8, z8 = z + 8 := ⟨_, rfl⟩
      obtain ⟨y, hy'⟩ : ∃ y, y = z + 16 := ⟨_, rfl⟩
      have e1 : IntKind.i64.wrap ((z : Int) + 1) = (z1 : Int) := (IntWalk.i64_in _ (by omega)).trans (by omega)
      have e2 : IntKind.i64.wrap ((z : Int) + 2) = (z2 : Int) := (IntWalk.i64_in _ (by omega)).trans (by omega)
      have e4 : IntKind.i64.wrap ((z : Int) + 4) = (z4 : Int) := (IntWalk.i64_in _ (by omega)).trans (by omega)
      have e8 : IntKind.i64.wrap ((z : Int) + 8) = (z8 : Int) := (IntWalk.i64_in _ (by omega)).trans (by omega)
      have e16 : IntKind.i64.wrap ((z : Int) + 16) = (y : Int) := (IntWalk.i64_in _ (by omega)).trans (by omega)
      have f1 : (z1 : Int) < 256 := by omega
      have f2 : (z2 : Int) ≤ (z4 : Int) := by omega
      have f4 : (z4 : Int) ≤ (z8 : Int) := by omega
      have f8 : (z8 : Int) ≤ (y : Int) := by omega
      have f16 : (y : Int) ≤ (c : Int) := by omega
      have f17 : (z8 : Int) ≤ (c : Int) := by omega
      have f18 : (z4 : Int) ≤ (c : Int) := by omega
      have HZZ : Hid (z1 = z + 1 ∧ z2 = z + 2 ∧ z4 = z + 4 ∧ z8 = z + 8 ∧ y = z + 16) := Lib.hid ⟨hz1', hz2', hz4', hz8', hy'⟩
      rw [← hz1'] at HC0
      clear hz1' hz2' hz4' hz8' hy'
      have hx0 : b.getD z 0 < 256 := HBYT.out _
      have hx1 : b.getD z1 0 < 256 := HBYT.out _
      have HRP0 : Hid (pg (rd16 b) k = ⟨(b.getD z 0 : Nat), (b.getD z1 0 : Nat), (num ((b.drop z2).take 2) : Nat), (num ((b.drop z4).take 4) : Nat), (num ((b.drop z8).take 8) : Nat)⟩) := Lib.hid (by
        obtain ⟨a1, a2, a4, a8, a16⟩ := HZZ.out
        have h1 := pg_some (l := rd16 b) (i := k) (by show k < (mixP b 16).length; rw [mixP_len]; exact hlt)
        have h2 : (rd16 b)[k]? = some (rdP (b.drop (16 * k))) := by
          unfold rd16 mixP
          rw [List.getElem?_map, List.getElem?_range hlt, Option.map_some, if_pos hlt]
        rw [h2] at h1
        rw [← Option.some.inj h1, ← HZ.out, ← num_one z (by rw [HLB.out]; omega), ← num_one z1 (by rw [HLB.out]; omega), a1, a2, a4, a8]
        unfold rdP
        simp only [List.drop_drop])
      generalize b.getD z 0 = x0 at *
      generalize b.getD z1 0 = x1 at *
      have hzz := HZZ.out
      have g2 : ¬ c = z2 := by omega
      have g4 : ¬ c = z4 := by omega
      have g8 : ¬ c = z8 := by omega
      have HRP : Hid (pg (rd16 b) k = ⟨(x0 : Nat), (x1 : Nat), (num ((b.drop z2).take 2) : Nat), (num ((b.drop z4).take 4) : Nat), (num ((b.drop z8).take 8) : Nat)⟩) := HRP0
      have HG2 : Hid (∀ W, Below wr.heap.size wr W → _) := Lib.hid (fun W hW => get_at HS.out z2 2 (by omega) (by omega) (by omega) W (HB.out.trans (hW.mono HB.out.size)))
      have HG4 : Hid (∀ W, Below wr.heap.size wr W → _) := Lib.hid (fun W hW => get_at HS.out z4 4 (by omega) (by omega) (by omega) W (HB.out.trans (hW.mono HB.out.size)))
      have HG8 : Hid (∀ W, Below wr.heap.size wr W → _) := Lib.hid (fun W hW => get_at HS.out z8 8 (by omega) (by omega) (by omega) W (HB.out.trans (hW.mono HB.out.size)))
      have hx2 : num ((b.drop z2).take 2) < 4294967296 := num_small HBYT.out z2 2 (by omega)
      have hx4 : num ((b.drop z4).take 4) < 4294967296 := num_small HBYT.out z4 4 (by omega)
      generalize num ((b.drop z2).take 2) = x2 at *
      generalize num ((b.drop z4).take 4) = x4 at *
      generalize num ((b.drop z8).take 8) = x8 at *
      have q0 : IntKind.i64.wrap (x0 : Int) = (x0 : Int) := IntWalk.i64_in _ (by omega)
      have q1 : IntKind.i64.wrap (x1 : Int) = (x1 : Int) := IntWalk.i64_in _ (by omega)
      have q2 : IntKind.i64.wrap (x2 : Int) = (x2 : Int) := IntWalk.i64_in _ (by omega)
      have q4 : IntKind.i64.wrap (x4 : Int) = (x4 : Int) := IntWalk.i64_in _ (by omega)
      have i2 : z4 - z2 = 2 := by omega
      have i4 : z8 - z4 = 4 := by omega
      have i8 : y - z8 = 8 := by omega
      clear hzz
      have HK : Hid (∀ W, Below wr.heap.size wr W → (fun w' => w'.cell? ⟨bb, oo + z, none⟩ = some (.int .u8 (x0 : Int)) ∧ w'.cell? ⟨bb, oo + z1, none⟩ = some (.int .u8 (x1 : Int)) ∧ Below wr.heap.size wr w') W) := Lib.hid (fun W hW => ⟨(HC0.out W (HB.out.trans (hW.mono HB.out.size))).1, (HC0.out W (HB.out.trans (hW.mono HB.out.size))).2, hW⟩)
      go_wp2
      refine wp_region_F (S := (fun w' => w'.cell? ⟨bb, oo + z, none⟩ = some (.int .u8 (x0 : Int)) ∧ w'.cell? ⟨bb, oo + z1, none⟩ = some (.int .u8 (x1 : Int)) ∧ Below wr.heap.size wr w')) [] (by kernel_rfl) (HK.out _ ((Below.refl _ _).drew)) (fun hHeld => ?_)
      refine wpAnyF_take (i := 0) (oi := _) (v := ?_) rfl (by kernel_rfl) (by kernel_rfl) (by kernel_rfl) (by kernel_rfl) (fun _ _ _ h => h) (Or.inl ⟨by rfl, ?_⟩) (by assumption) ?_
      rotate_left 1
      · intro w hSw
        (try dsimp only at hSw)
        (first | (go_simp; done) | (go_simp; with_reducible rfl))
      (try simp only [Act.put, List.getElem_toArray, List.getElem_cons_succ, List.getElem_cons_zero, List.setIfInBounds_toArray, List.set_cons_zero, List.set_cons_succ])
      refine wpAnyF_take (i := 1) (oi := _) (v := ?_) rfl (by kernel_rfl) (by kernel_rfl) (by kernel_rfl) (by kernel_rfl) (fun _ _ _ h => h) (Or.inl ⟨by rfl, ?_⟩) (by assumption) ?_
      rotate_left 1
      · intro w hSw
        (try dsimp only at hSw)
        (first | (go_simp; done) | (go_simp; with_reducible rfl))
      (try simp only [Act.put, List.getElem_toArray, List.getElem_cons_succ, List.getElem_cons_zero, List.setIfInBounds_toArray, List.set_cons_zero, List.set_cons_succ])
      refine wpAnyF_take (i := 2) (oi := _) (v := ?_) rfl (by kernel_rfl) (by kernel_rfl) (by kernel_rfl) (by kernel_rfl) (fun _ _ _ h => h) (Or.inl ⟨by rfl, ?_⟩) (by assumption) ?_
      rotate_left 1
      · intro w hSw
        (try dsimp only at hSw)
        (first | (go_simp; done) | (go_simp; with_reducible rfl))
      (try simp only [Act.put, List.getElem_toArray, List.getElem_cons_succ, List.getElem_cons_zero, List.setIfInBounds_toArray, List.set_cons_zero, List.set_cons_succ])
      refine wpAnyF_take (i := 3) (oi := _) (v := ?_) rfl (by kernel_rfl) (by kernel_rfl) (by kernel_rfl) (by kernel_rfl) (fun _ _ _ h => h) (Or.inl ⟨by rfl, ?_⟩) (by assumption) ?_
      rotate_left 1
      · intro w hSw
        (try dsimp only at hSw)
        (first | (go_simp; done) | (go_simp; with_reducible rfl))
      (try simp only [Act.put, List.getElem_toArray, List.getElem_cons_succ, List.getElem_cons_zero, List.setIfInBounds_toArray, List.set_cons_zero, List.set_cons_succ])
      refine wpAnyF_take (i := 4) (oi := _) (v := ?_) rfl (by kernel_rfl) (by kernel_rfl) (by kernel_rfl) (by kernel_rfl) (fun _ _ _ h => h) (Or.inl ⟨by rfl, ?_⟩) (by assumption) ?_
      rotate_left 1
      · intro w hSw
        (try dsimp only at hSw)
        (first | (go_simp; done) | (go_simp; with_reducible rfl))
      (try simp only [Act.put, List.getElem_toArray, List.getElem_cons_succ, List.getElem_cons_zero, List.setIfInBounds_toArray, List.set_cons_zero, List.set_cons_succ])
      refine wpAnyF_take (i := 5) (oi := _) (v := ?_) rfl (by kernel_rfl) (by kernel_rfl) (by kernel_rfl) (by kernel_rfl) (fun _ _ _ h => h) (Or.inl ⟨by rfl, ?_⟩) (by assumption) ?_
      rotate_left 1
      · intro w hSw
        (try dsimp only at hSw)
        (first | (go_simp; done) | (go_simp; with_reducible rfl))
      (try simp only [Act.put, List.getElem_toArray, List.getElem_cons_succ, List.getElem_cons_zero, List.setIfInBounds_toArray, List.set_cons_zero, List.set_cons_succ])
      refine wpAnyF_take (i := 6) (oi := _) (v := ?_) rfl (by kernel_rfl) (by kernel_rfl) (by kernel_rfl) (by kernel_rfl) (fun _ _ _ h => h) (Or.inl ⟨by rfl, ?_⟩) (by assumption) ?_
      rotate_left 1
      · intro w hSw
        (try dsimp only at hSw)
        (first | (go_simp; done) | (go_simp; with_reducible rfl))
      (try simp only [Act.put, List.getElem_toArray, List.getElem_cons_succ, List.getElem_cons_zero, List.setIfInBounds_toArray, List.set_cons_zero, List.set_cons_succ])
      refine wpAnyF_take (i := 7) (oi := _) (v := ?_) rfl (by kernel_rfl) (by kernel_rfl) (by kernel_rfl) (by kernel_rfl) (fun _ _ _ h => h) (Or.inl ⟨by rfl, ?_⟩) (by assumption) ?_
      rotate_left 1
      · intro w hSw
        (try dsimp only at hSw)
        (first | (go_simp; done) | (go_simp; with_reducible rfl))
      (try simp only [Act.put, List.getElem_toArray, List.getElem_cons_succ, List.getElem_cons_zero, List.setIfInBounds_toArray, List.set_cons_zero, List.set_cons_succ])
      refine wpAnyF_take (i := 8) (oi := _) (v := ?_) rfl (by kernel_rfl) (by kernel_rfl) (by kernel_rfl) (by kernel_rfl) (fun _ _ _ h => h) (Or.inl ⟨by rfl, ?_⟩) (by assumption) ?_
      rotate_left 1
      · intro w hSw
        (try dsimp only at hSw)
        (first | (go_simp; done) | (go_simp; with_reducible rfl))
      (try simp only [Act.put, List.getElem_toArray, List.getElem_cons_succ, List.getElem_cons_zero, List.setIfInBounds_toArray, List.set_cons_zero, List.set_cons_succ])
      refine wpAnyF_take (i := 9) (oi := _) (v := ?_) rfl (by kernel_rfl) (by kernel_rfl) (by kernel_rfl) (by kernel_rfl) (fun _ _ _ h => h) (Or.inl ⟨by rfl, ?_⟩) (by assumption) ?_
      rotate_left 1
      · intro w hSw
        (try dsimp only at hSw)
        (first | (go_simp; done) | (go_simp; with_reducible rfl))
      (try simp only [Act.put, List.getElem_toArray, List.getElem_cons_succ, List.getElem_cons_zero, List.setIfInBounds_toArray, List.set_cons_zero, List.set_cons_succ])
      refine wpAnyF_take (i := 10) (oi := _) (v := ?_) rfl (by kernel_rfl) (by kernel_rfl) (by kernel_rfl) (by kernel_rfl) (fun _ _ _ h => h) (Or.inl ⟨by rfl, ?_⟩) (by assumption) ?_
      rotate_left 1
      · intro w hSw
        (try dsimp only at hSw)
        (first | (go_simp; done) | (go_simp; with_reducible rfl))
      (try simp only [Act.put, List.getElem_toArray, List.getElem_cons_succ, List.getElem_cons_zero, List.setIfInBounds_toArray, List.set_cons_zero, List.set_cons_succ])
      refine wpAnyF_take (i := 11) (oi := _) (v := ?_) rfl (by kernel_rfl) (by kernel_rfl) (by kernel_rfl) (by kernel_rfl) (fun _ _ _ h => h) (Or.inl ⟨by rfl, ?_⟩) (by assumption) ?_
      rotate_left 1
      · intro w hSw
        (try dsimp only at hSw)
        (first | (go_simp; done) | (go_simp; with_reducible rfl))
      (try simp only [Act.put, List.getElem_toArray, List.getElem_cons_succ, List.getElem_cons_zero, List.setIfInBounds_toArray, List.set_cons_zero, List.set_cons_succ])
      refine wpAnyF_take (i := 12) (oi := _) (v := ?_) rfl (by kernel_rfl) (by kernel_rfl) (by kernel_rfl) (by kernel_rfl) (fun _ _ _ h => h) (Or.inl ⟨by rfl, ?_⟩) (by assumption) ?_
      rotate_left 1
      · intro w hSw
        (try dsimp only at hSw)
        (first | (go_simp; done) | (go_simp; with_reducible rfl))
      (try simp only [Act.put, List.getElem_toArray, List.getElem_cons_succ, List.getElem_cons_zero, List.setIfInBounds_toArray, List.set_cons_zero, List.set_cons_succ])
      refine wpAnyF_take (i := 13) (oi := _) (v := ?_) rfl (by kernel_rfl) (by kernel_rfl) (by kernel_rfl) (by kernel_rfl) (fun _ _ _ h => h) (Or.inl ⟨by rfl, ?_⟩) (by assumption) ?_
      rotate_left 1
      · intro w hSw
        (try dsimp only at hSw)
        (first | (go_simp; done) | (go_simp; with_reducible rfl))
      (try simp only [Act.put, List.getElem_toArray, List.getElem_cons_succ, List.getElem_cons_zero, List.setIfInBounds_toArray, List.set_cons_zero, List.set_cons_succ])
      refine wpAnyF_take (i := 14) (oi := _) (v := ?_) rfl (by kernel_rfl) (by kernel_rfl) (by kernel_rfl) (by kernel_rfl) (fun _ _ _ h => h) (Or.inl ⟨by rfl, ?_⟩) (by assumption) ?_
      rotate_left 1
      · intro w hSw
        (try dsimp only at hSw)
        (first | (go_simp; done) | (go_simp; with_reducible rfl))
      (try simp only [Act.put, List.getElem_toArray, List.getElem_cons_succ, List.getElem_cons_zero, List.setIfInBounds_toArray, List.set_cons_zero, List.set_cons_succ])
      refine wpAnyF_take (i := 15) (oi := _) (v := ?_) rfl (by kernel_rfl) (by kernel_rfl) (by kernel_rfl) (by kernel_rfl) (fun _ _ _ h => h) (Or.inl ⟨by rfl, ?_⟩) (by assumption) ?_
      rotate_left 1
      · intro w hSw
        (try dsimp only at hSw)
        (first | (go_simp; done) | (go_simp; with_reducible rfl))
      (try simp only [Act.put, List.getElem_toArray, List.getElem_cons_succ, List.getElem_cons_zero, List.setIfInBounds_toArray, List.set_cons_zero, List.set_cons_succ])
      refine wpAnyF_take (i := 16) (oi := _) (v := ?_) rfl (by kernel_rfl) (by kernel_rfl) (by kernel_rfl) (by kernel_rfl) (fun _ _ _ h => h) (Or.inl ⟨by rfl, ?_⟩) (by assumption) ?_
      rotate_left 1
      · intro w hSw
        (try dsimp only at hSw)
        (first | (go_simp; done) | (go_simp; with_reducible rfl))
      (try simp only [Act.put, List.getElem_toArray, List.getElem_cons_succ, List.getElem_cons_zero, List.setIfInBounds_toArray, List.set_cons_zero, List.set_cons_succ])
      refine wpAnyF_take (i := 19) (oi := _) (v := ?_) rfl (by kernel_rfl) (by kernel_rfl) (by kernel_rfl) (by kernel_rfl) (fun _ _ _ h => h) (Or.inl ⟨by rfl, ?_⟩) (by assumption) ?_
      rotate_left 1
      · intro w hSw
        (try dsimp only at hSw)
        (first | (go_simp; done) | (go_simp; with_reducible rfl))
      (try simp only [Act.put, List.getElem_toArray, List.getElem_cons_succ, List.getElem_cons_zero, List.setIfInBounds_toArray, List.set_cons_zero, List.set_cons_succ])
      refine wpAnyF_take (i := 20) (oi := _) (v := ?_) rfl (by kernel_rfl) (by kernel_rfl) (by kernel_rfl) (by kernel_rfl) (fun _ _ _ h => h) (Or.inl ⟨by rfl, ?_⟩) (by assumption) ?_
      rotate_left 1
      · intro w hSw
        (try dsimp only at hSw)
        (first | (go_simp; done) | (go_simp; with_reducible rfl))
      (try simp only [Act.put, List.getElem_toArray, List.getElem_cons_succ, List.getElem_cons_zero, List.setIfInBounds_toArray, List.set_cons_zero, List.set_cons_succ])
      refine wpAnyF_take (i := 21) (oi := _) (v := ?_) rfl (by kernel_rfl) (by kernel_rfl) (by kernel_rfl) (by kernel_rfl) (fun _ _ _ h => h) (Or.inl ⟨by rfl, ?_⟩) (by assumption) ?_
      rotate_left 1
      · intro w hSw
        (try dsimp only at hSw)
        (first | (go_simp; done) | (go_simp; with_reducible rfl))
      (try simp only [Act.put, List.getElem_toArray, List.getElem_cons_succ, List.getElem_cons_zero, List.setIfInBounds_toArray, List.set_cons_zero, List.set_cons_succ])
      refine wpAnyF_take (i := 22) (oi := _) (v := ?_) rfl (by kernel_rfl) (by kernel_rfl) (by kernel_rfl) (by kernel_rfl) (fun _ _ _ h => h) (Or.inl ⟨by rfl, ?_⟩) (by assumption) ?_
      rotate_left 1
      · intro w hSw
        (try dsimp only at hSw)
        (first | (go_simp; done) | (go_simp; with_reducible rfl))
      (try simp only [Act.put, List.getElem_toArray, List.getElem_cons_succ, List.getElem_cons_zero, List.setIfInBounds_toArray, List.set_cons_zero, List.set_cons_succ])
      refine wpAnyF_take (i := 23) (oi := _) (v := ?_) rfl (by kernel_rfl) (by kernel_rfl) (by kernel_rfl) (by kernel_rfl) (fun _ _ _ h => h) (Or.inl ⟨by rfl, ?_⟩) (by assumption) ?_
      rotate_left 1
      · intro w hSw
        (try dsimp only at hSw)
        (first | (go_simp; done) | (go_simp; with_reducible rfl))
      (try simp only [Act.put, List.getElem_toArray, List.getElem_cons_succ, List.getElem_cons_zero, List.setIfInBounds_toArray, List.set_cons_zero, List.set_cons_succ])
      refine wpAnyF_take (i := 24) (oi := _) (v := ?_) rfl (by kernel_rfl) (by kernel_rfl) (by kernel_rfl) (by kernel_rfl) (fun _ _ _ h => h) (Or.inl ⟨by rfl, ?_⟩) (by assumption) ?_
      rotate_left 1
      · intro w hSw
        (try dsimp only at hSw)
        (first | (go_simp; done) | (go_simp; with_reducible rfl))
      (try simp only [Act.put, List.getElem_toArray, List.getElem_cons_succ, List.getElem_cons_zero, List.setIfInBounds_toArray, List.set_cons_zero, List.set_cons_succ])
      refine wpAnyF_take (i := 27) (oi := _) (v := ?_) rfl (by kernel_rfl) (by kernel_rfl) (by kernel_rfl) (by kernel_rfl) (fun _ _ _ h => h) (Or.inl ⟨by rfl, ?_⟩) (by assumption) ?_
      rotate_left 1
      · intro w hSw
        (try dsimp only at hSw)
        (first | (go_simp; done) | (go_simp; with_reducible rfl))
      (try simp only [Act.put, List.getElem_toArray, List.getElem_cons_succ, List.getElem_cons_zero, List.setIfInBounds_toArray, List.set_cons_zero, List.set_cons_succ])
      refine wpAnyF_take (i := 28) (oi := _) (v := ?_) rfl (by kernel_rfl) (by kernel_rfl) (by kernel_rfl) (by kernel_rfl) (fun _ _ _ h => h) (Or.inl ⟨by rfl, ?_⟩) (by assumption) ?_
      rotate_left 1
      · intro w hSw
        (try dsimp only at hSw)
        (first | (go_simp; done) | (go_simp; with_reducible rfl))
      (try simp only [Act.put, List.getElem_toArray, List.getElem_cons_succ, List.getElem_cons_zero, List.setIfInBounds_toArray, List.set_cons_zero, List.set_cons_succ])
      refine wpAnyF_take (i := 29) (oi := _) (v := ?_) rfl (by kernel_rfl) (by kernel_rfl) (by kernel_rfl) (by kernel_rfl) (fun _ _ _ h => h) (Or.inl ⟨by rfl, ?_⟩) (by assumption) ?_
      rotate_left 1
      · intro w hSw
        (try dsimp only at hSw)
        (first | (go_simp; done) | (go_simp; with_reducible rfl))
      (try simp only [Act.put, List.getElem_toArray, List.getElem_cons_succ, List.getElem_cons_zero, List.setIfInBounds_toArray, List.set_cons_zero, List.set_cons_succ])
      refine wpAnyF_take (i := 30) (oi := _) (v := ?_) rfl (by kernel_rfl) (by kernel_rfl) (by kernel_rfl) (by kernel_rfl) (fun _ _ _ h => h) (Or.inl ⟨by rfl, ?_⟩) (by assumption) ?_
      rotate_left 1
      · intro w hSw
        (try dsimp only at hSw)
        (first | (go_simp; done) | (go_simp; with_reducible rfl))
      (try simp only [Act.put, List.getElem_toArray, List.getElem_cons_succ, List.getElem_cons_zero, List.setIfInBounds_toArray, List.set_cons_zero, List.set_cons_succ])
      refine wpAnyF_take (i := 31) (oi := _) (v := ?_) rfl (by kernel_rfl) (by kernel_rfl) (by kernel_rfl) (by kernel_rfl) (fun _ _ _ h => h) (Or.inl ⟨by rfl, ?_⟩) (by assumption) ?_
      rotate_left 1
      · intro w hSw
        (try dsimp only at hSw)
        (first | (go_simp; done) | (go_simp; with_reducible rfl))
      (try simp only [Act.put, List.getElem_toArray, List.getElem_cons_succ, List.getElem_cons_zero, List.setIfInBounds_toArray, List.set_cons_zero, List.set_cons_succ])
      refine wpAnyF_take (i := 32) (oi := _) (v := ?_) rfl (by kernel_rfl) (by kernel_rfl) (by kernel_rfl) (by kernel_rfl) (fun _ _ _ h => h) (Or.inl ⟨by rfl, ?_⟩) (by assumption) ?_
      rotate_left 1
      · intro w hSw
        (try dsimp only at hSw)
        (first | (go_simp; done) | (go_simp; with_reducible rfl))
      (try simp only [Act.put, List.getElem_toArray, List.getElem_cons_succ, List.getElem_cons_zero, List.setIfInBounds_toArray, List.set_cons_zero, List.set_cons_succ])
      refine wpAnyF_ready (rs := [17, 35]) (by kernel_rfl) (by simp) ?_
      refine AllReadyF.cons (o := _) rfl (fun K hK => ?_) (AllReadyF.cons (o := _) rfl (fun K hK => ?_) AllReadyF.nil)
      · go_simp
        (go_at_call 22)
        refine (HG2.out _ hHeld.2.2).mono ?_
        rintro e w1 ⟨rfl, rfl⟩
        refine hK.out _ _ (hHeld) (fun hHeld1 => ?_)
        clear hK K
        (try simp only [Act.put, List.getElem_toArray, List.getElem_cons_succ, List.getElem_cons_zero, List.setIfInBounds_toArray, List.set_cons_zero, List.set_cons_succ])
        refine wpAnyF_take (i := 18) (oi := _) (v := ?_) rfl (by kernel_rfl) (by kernel_rfl) (by kernel_rfl) (by kernel_rfl) (fun _ _ _ h => h) (Or.inl ⟨by rfl, ?_⟩) (by assumption) ?_
        rotate_left 1
        · intro w hSw
          (try dsimp only at hSw)
          (first | (go_simp; done) | (go_simp; with_reducible rfl))
        (try simp only [Act.put, List.getElem_toArray, List.getElem_cons_succ, List.getElem_cons_zero, List.setIfInBounds_toArray, List.set_cons_zero, List.set_cons_succ])
        refine wpAnyF_ready (rs := [25, 35]) (by kernel_rfl) (by simp) ?_
        refine AllReadyF.cons (o := _) rfl (fun K hK => ?_) (AllReadyF.cons (o := _) rfl (fun K hK => ?_) AllReadyF.nil)
        · go_simp
          (go_at_call 22)
          refine (HG4.out _ hHeld1.2.2).mono ?_
          rintro e w2 ⟨rfl, rfl⟩
          refine hK.out _ _ (hHeld1) (fun hHeld2 => ?_)
          clear hK K
          (try simp only [Act.put, List.getElem_toArray, List.getElem_cons_succ, List.getElem_cons_zero, List.setIfInBounds_toArray, List.set_cons_zero, List.set_cons_succ])
          refine wpAnyF_take (i := 26) (oi := _) (v := ?_) rfl (by kernel_rfl) (by kernel_rfl) (by kernel_rfl) (by kernel_rfl) (fun _ _ _ h => h) (Or.inl ⟨by rfl, ?_⟩) (by assumption) ?_
          rotate_left 1
          · intro w hSw
            (try dsimp only at hSw)
            (first | (go_simp; done) | (go_simp; with_reducible rfl))
          (try simp only [Act.put, List.getElem_toArray, List.getElem_cons_succ, List.getElem_cons_zero, List.setIfInBounds_toArray, List.set_cons_zero, List.set_cons_succ])
          refine wpAnyF_ready (rs := [33, 35]) (by kernel_rfl) (by simp) ?_
          refine AllReadyF.cons (o := _) rfl (fun K hK => ?_) (AllReadyF.cons (o := _) rfl (fun K hK => ?_) AllReadyF.nil)
          · go_simp
            (go_at_call 22)
            refine (HG8.out _ hHeld2.2.2).mono ?_
            rintro e w3 ⟨rfl, rfl⟩
            refine hK.out _ _ (hHeld2) (fun hHeld3 => ?_)
            clear hK K
            (try simp only [Act.put, List.getElem_toArray, List.getElem_cons_succ, List.getElem_cons_zero, List.setIfInBounds_toArray, List.set_cons_zero, List.set_cons_succ])
            refine wpAnyF_take (i := 34) (oi := _) (v := ?_) rfl (by kernel_rfl) (by kernel_rfl) (by kernel_rfl) (by kernel_rfl) (fun _ _ _ h => h) (Or.inl ⟨by rfl, ?_⟩) (by assumption) ?_
            rotate_left 1
            · intro w hSw
              (try dsimp only at hSw)
              (first | (go_simp; done) | (go_simp; with_reducible rfl))
            (try simp only [Act.put, List.getElem_toArray, List.getElem_cons_succ, List.getElem_cons_zero, List.setIfInBounds_toArray, List.set_cons_zero, List.set_cons_succ])
            refine wpAnyF_ready (rs := [35]) (by kernel_rfl) (by simp) ?_
            refine AllReadyF.cons (o := _) rfl (fun K hK => ?_) AllReadyF.nil
            go_simp
            refine hK.out _ _ (HK.out _ (hHeld3.2.2.alloc hHeld3.2.2.size _)) (fun hHeld4 => ?_)
            clear hK K
            (try simp only [Act.put, List.getElem_toArray, List.getElem_cons_succ, List.getElem_cons_zero, List.setIfInBounds_toArray, List.set_cons_zero, List.set_cons_succ])
            refine wpAnyF_ready (rs := [36]) (by kernel_rfl) (by simp) ?_
            refine AllReadyF.cons (o := _) rfl (fun K hK => ?_) AllReadyF.nil
            go_simp
            refine hK.out _ _ (HK.out _ (bel_alloc wr _).drew) (fun hHeld99 => ?_)
            clear hK K
            (try simp only [Act.put, List.getElem_toArray, List.getElem_cons_succ, List.getElem_cons_zero, List.setIfInBounds_toArray, List.set_cons_zero, List.set_cons_succ])
            refine wpAnyF_done (by kernel_rfl) ?_ _
            have HB2 := Lib.hid (HB.out.trans ((bel_alloc wr (.cells #[.int .i64 (x0 : Int), .int .i64 (x1 : Int), .int .i64 (x2 : Int), .int .i64 (x4 : Int), .int .u64 (x8 : Int)] RT)).drew.mono HB.out.size))
            have HX0 : Hid ((wr.alloc (.cells #[.int .i64 (x0 : Int), .int .i64 (x1 : Int), .int .i64 (x2 : Int), .int .i64 (x4 : Int), .int .u64 (x8 : Int)] RT)).drew.heap[wr.heap.size]? = some (.cells #[.int .i64 (x0 : Int), .int .i64 (x1 : Int), .int .i64 (x2 : Int), .int .i64 (x4 : Int), .int .u64 (x8 : Int)] RT (0, 0))) := Lib.hid (heap_alloc_new wr (.cells #[.int .i64 (x0 : Int), .int .i64 (x1 : Int), .int .i64 (x2 : Int), .int .i64 (x4 : Int), .int .u64 (x8 : Int)] RT))
            have HO2 : Hid (OwnP (wr.alloc (.cells #[.int .i64 (x0 : Int), .int .i64 (x1 : Int), .int .i64 (x2 : Int), .int .i64 (x4 : Int), .int .u64 (x8 : Int)] RT)).drew w.heap.size RT u4 ((rd16 b).take k)) := Lib.hid (HO.out.alloc (.cells #[.int .i64 (x0 : Int), .int .i64 (x1 : Int), .int .i64 (x2 : Int), .int .i64 (x4 : Int), .int .u64 (x8 : Int)] RT))
            clear HG2 HG4 HG8 HCELL HK hHeld
            go_wp2_with fail
            refine (rone_any (⟨(x0 : Nat), (x1 : Nat), (x2 : Nat), (x4 : Nat), (x8 : Nat)⟩ : Pg) _ (HSZ.out.below HB2.out)).mono ?_
            rintro e w4 ⟨rfl, hb4⟩
            have HX4 := Lib.hid ((hb4.block _ (blk_lt HX0.out)).trans HX0.out)
            have HB4 := Lib.hid (HB2.out.trans (hb4.mono HB2.out.size))
            have HO4 := Lib.hid (HO2.out.below hb4)
            clear hb4 HX0 HB2 HO2
            obtain ⟨x, hx⟩ : ∃ x, x = oneP (⟨(x0 : Nat), (x1 : Nat), (x2 : Nat), (x4 : Nat), (x8 : Nat)⟩ : Pg) := ⟨_, rfl⟩
            rw [← hx]
            have HX := Lib.hid hx
            clear hx
            cases x
            · have HNO : Hid ((rd16 b).all oneP = false) := Lib.hid (by
                cases hq : (rd16 b).all oneP
                · rfl
                · have h2 : oneP (pg (rd16 b) k) = true := all_at hq (show k < (rd16 b).length by show k < (mixP b 16).length; rw [mixP_len]; exact hlt)
                  rw [HRP.out, ← HX.out] at h2
                  cases h2)
              go_wp2
              go_ret2
              exact ⟨HB4.out, .inl ⟨HNO.out, rfl⟩⟩
            · obtain ⟨d0, d1, d2, d3, d4⟩ := five HX4.out
              have HTL : Hid (((rd16 b).take k).length < 1000000) := Lib.hid (by rw [List.length_take]; omega)
              go_wp2_with (at_builtin; refine wp_appP kdR w4 rfl (.tmp 49) (.tmp 51) rfl w.heap.size _ ((rd16 b).take k) (⟨(x0 : Nat), (x1 : Nat), (x2 : Nat), (x4 : Nat), (x8 : Nat)⟩ : Pg) rfl HO4.out w4.heap.size rfl rfl HTL.out HB4.out.size ?_; intro v5 w5 hown5 hb5; have HO5 := Lib.hid hown5; have HB5 := Lib.hid (HB4.out.trans hb5); clear hown5 hb5)
              go_roundw
              case rel => exact ⟨k + 1, by have h1 := HZZ.out; have h2 := HZ.out; rw [show 16 * (k + 1) = y by omega], by omega, by
                  rw [take_one (by show k < (mixP b 16).length; rw [mixP_len]; exact hlt), HRP.out]; exact HO5.out, fun j hj => by
                  rcases Nat.lt_or_ge j k with hj2 | hj2
                  · exact HONE.out j hj2
                  · obtain rfl : j = k := by omega
                    rw [HRP.out]; exact HX.out.symm, HB5.out⟩
              case measure =>
                have h1 := HZZ.out
                simp [intOf]
                omega
          · go_simp
            refine hK.out _ _ (HK.out _ (hHeld2.2.2.alloc hHeld2.2.2.size _)) (fun hHeld6 => ?_)
            clear hK K
            (try simp only [Act.put, List.getElem_toArray, List.getElem_cons_succ, List.getElem_cons_zero, List.setIfInBounds_toArray, List.set_cons_zero, List.set_cons_succ])
            refine wpAnyF_ready (rs := [33]) (by kernel_rfl) (by simp) ?_
            refine AllReadyF.cons (o := _) rfl (fun K hK => ?_) AllReadyF.nil
            go_simp
            (go_at_call 22)
            refine (HG8.out _ hHeld6.2.2).mono ?_
            rintro e w3 ⟨rfl, rfl⟩
            refine hK.out _ _ (hHeld6) (fun hHeld7 => ?_)
            clear hK K
            (try simp only [Act.put, List.getElem_toArray, List.getElem_cons_succ, List.getElem_cons_zero, List.setIfInBounds_toArray, List.set_cons_zero, List.set_cons_succ])
            refine wpAnyF_take (i := 34) (oi := _) (v := ?_) rfl (by kernel_rfl) (by kernel_rfl) (by kernel_rfl) (by kernel_rfl) (fun _ _ _ h => h) (Or.inl ⟨by rfl, ?_⟩) (by assumption) ?_
            rotate_left 1
            · intro w hSw
              (try dsimp only at hSw)
              (first | (go_simp; done) | (go_simp; with_reducible rfl))
            (try simp only [Act.put, List.getElem_toArray, List.getElem_cons_succ, List.getElem_cons_zero, List.setIfInBounds_toArray, List.set_cons_zero, List.set_cons_succ])
            refine wpAnyF_ready (rs := [36]) (by kernel_rfl) (by simp) ?_
            refine AllReadyF.cons (o := _) rfl (fun K hK => ?_) AllReadyF.nil
            go_simp
            refine hK.out _ _ (HK.out _ (bel_alloc wr _).drew) (fun hHeld99 => ?_)
            clear hK K
            (try simp only [Act.put, List.getElem_toArray, List.getElem_cons_succ, List.getElem_cons_zero, List.setIfInBounds_toArray, List.set_cons_zero, List.set_cons_succ])
            refine wpAnyF_done (by kernel_rfl) ?_ _
            have HB2 := Lib.hid (HB.out.trans ((bel_alloc wr (.cells #[.int .i64 (x0 : Int), .int .i64 (x1 : Int), .int .i64 (x2 : Int), .int .i64 (x4 : Int), .int .u64 (x8 : Int)] RT)).drew.mono HB.out.size))
            have HX0 : Hid ((wr.alloc (.cells #[.int .i64 (x0 : Int), .int .i64 (x1 : Int), .int .i64 (x2 : Int), .int .i64 (x4 : Int), .int .u64 (x8 : Int)] RT)).drew.heap[wr.heap.size]? = some (.cells #[.int .i64 (x0 : Int), .int .i64 (x1 : Int), .int .i64 (x2 : Int), .int .i64 (x4 : Int), .int .u64 (x8 : Int)] RT (0, 0))) := Lib.hid (heap_alloc_new wr (.cells #[.int .i64 (x0 : Int), .int .i64 (x1 : Int), .int .i64 (x2 : Int), .int .i64 (x4 : Int), .int .u64 (x8 : Int)] RT))
            have HO2 : Hid (OwnP (wr.alloc (.cells #[.int .i64 (x0 : Int), .int .i64 (x1 : Int), .int .i64 (x2 : Int), .int .i64 (x4 : Int), .int .u64 (x8 : Int)] RT)).drew w.heap.size RT u4 ((rd16 b).take k)) := Lib.hid (HO.out.alloc (.cells #[.int .i64 (x0 : Int), .int .i64 (x1 : Int), .int .i64 (x2 : Int), .int .i64 (x4 : Int), .int .u64 (x8 : Int)] RT))
            clear HG2 HG4 HG8 HCELL HK hHeld
            go_wp2_with fail
            refine (rone_any (⟨(x0 : Nat), (x1 : Nat), (x2 : Nat), (x4 : Nat), (x8 : Nat)⟩ : Pg) _ (HSZ.out.below HB2.out)).mono ?_
            rintro e w4 ⟨rfl, hb4⟩
            have HX4 := Lib.hid ((hb4.block _ (blk_lt HX0.out)).trans HX0.out)
            have HB4 := Lib.hid (HB2.out.trans (hb4.mono HB2.out.size))
            have HO4 := Lib.hid (HO2.out.below hb4)
            clear hb4 HX0 HB2 HO2
            obtain ⟨x, hx⟩ : ∃ x, x = oneP (⟨(x0 : Nat), (x1 : Nat), (x2 : Nat), (x4 : Nat), (x8 : Nat)⟩ : Pg) := ⟨_, rfl⟩
            rw [← hx]
            have HX := Lib.hid hx
            clear hx
            cases x
            · have HNO : Hid ((rd16 b).all oneP = false) := Lib.hid (by
                cases hq : (rd16 b).all oneP
                · rfl
                · have h2 : oneP (pg (rd16 b) k) = true := all_at hq (show k < (rd16 b).length by show k < (mixP b 16).length; rw [mixP_len]; exact hlt)
                  rw [HRP.out, ← HX.out] at h2
                  cases h2)
              go_wp2
              go_ret2
              exact ⟨HB4.out, .inl ⟨HNO.out, rfl⟩⟩
            · obtain ⟨d0, d1, d2, d3, d4⟩ := five HX4.out
              have HTL : Hid (((rd16 b).take k).length < 1000000) := Lib.hid (by rw [List.length_take]; omega)
              go_wp2_with (at_builtin; refine wp_appP kdR w4 rfl (.tmp 49) (.tmp 51) rfl w.heap.size _ ((rd16 b).take k) (⟨(x0 : Nat), (x1 : Nat), (x2 : Nat), (x4 : Nat), (x8 : Nat)⟩ : Pg) rfl HO4.out w4.heap.size rfl rfl HTL.out HB4.out.size ?_; intro v5 w5 hown5 hb5; have HO5 := Lib.hid hown5; have HB5 := Lib.hid (HB4.out.trans hb5); clear hown5 hb5)
              go_roundw
              case rel => exact ⟨k + 1, by have h1 := HZZ.out; have h2 := HZ.out; rw [show 16 * (k + 1) = y by omega], by omega, by
                  rw [take_one (by show k < (mixP b 16).length; rw [mixP_len]; exact hlt), HRP.out]; exact HO5.out, fun j hj => by
                  rcases Nat.lt_or_ge j k with hj2 | hj2
                  · exact HONE.out j hj2
                  · obtain rfl : j = k := by omega
                    rw [HRP.out]; exact HX.out.symm, HB5.out⟩
              case measure =>
                have h1 := HZZ.out
                simp [intOf]
                omega
        · go_simp
          refine hK.out _ _ (HK.out _ (hHeld1.2.2.alloc hHeld1.2.2.size _)) (fun hHeld9 => ?_)
          clear hK K
          (try simp only [Act.put, List.getElem_toArray, List.getElem_cons_succ, List.getElem_cons_zero, List.setIfInBounds_toArray, List.set_cons_zero, List.set_cons_succ])
          refine wpAnyF_ready (rs := [25]) (by kernel_rfl) (by simp) ?_
          refine AllReadyF.cons (o := _) rfl (fun K hK => ?_) AllReadyF.nil
          go_simp
          (go_at_call 22)
          refine (HG4.out _ hHeld9.2.2).mono ?_
          rintro e w2 ⟨rfl, rfl⟩
          refine hK.out _ _ (hHeld9) (fun hHeld10 => ?_)
          clear hK K
          (try simp only [Act.put, List.getElem_toArray, List.getElem_cons_succ, List.getElem_cons_zero, List.setIfInBounds_toArray, List.set_cons_zero, List.set_cons_succ])
          refine wpAnyF_take (i := 26) (oi := _) (v := ?_) rfl (by kernel_rfl) (by kernel_rfl) (by kernel_rfl) (by kernel_rfl) (fun _ _ _ h => h) (Or.inl ⟨by rfl, ?_⟩) (by assumption) ?_
          rotate_left 1
          · intro w hSw
            (try dsimp only at hSw)
            (first | (go_simp; done) | (go_simp; with_reducible rfl))
          (try simp only [Act.put, List.getElem_toArray, List.getElem_cons_succ, List.getElem_cons_zero, List.setIfInBounds_toArray, List.set_cons_zero, List.set_cons_succ])
          refine wpAnyF_ready (rs := [33]) (by kernel_rfl) (by simp) ?_
          refine AllReadyF.cons (o := _) rfl (fun K hK => ?_) AllReadyF.nil
          go_simp
          (go_at_call 22)
          refine (HG8.out _ hHeld10.2.2).mono ?_
          rintro e w3 ⟨rfl, rfl⟩
          refine hK.out _ _ (hHeld10) (fun hHeld11 => ?_)
          clear hK K
          (try simp only [Act.put, List.getElem_toArray, List.getElem_cons_succ, List.getElem_cons_zero, List.setIfInBounds_toArray, List.set_cons_zero, List.set_cons_succ])
          refine wpAnyF_take (i := 34) (oi := _) (v := ?_) rfl (by kernel_rfl) (by kernel_rfl) (by kernel_rfl) (by kernel_rfl) (fun _ _ _ h => h) (Or.inl ⟨by rfl, ?_⟩) (by assumption) ?_
          rotate_left 1
          · intro w hSw
            (try dsimp only at hSw)
            (first | (go_simp; done) | (go_simp; with_reducible rfl))
          (try simp only [Act.put, List.getElem_toArray, List.getElem_cons_succ, List.getElem_cons_zero, List.setIfInBounds_toArray, List.set_cons_zero, List.set_cons_succ])
          refine wpAnyF_ready (rs := [36]) (by kernel_rfl) (by simp) ?_
          refine AllReadyF.cons (o := _) rfl (fun K hK => ?_) AllReadyF.nil
          go_simp
          refine hK.out _ _ (HK.out _ (bel_alloc wr _).drew) (fun hHeld99 => ?_)
          clear hK K
          (try simp only [Act.put, List.getElem_toArray, List.getElem_cons_succ, List.getElem_cons_zero, List.setIfInBounds_toArray, List.set_cons_zero, List.set_cons_succ])
          refine wpAnyF_done (by kernel_rfl) ?_ _
          have HB2 := Lib.hid (HB.out.trans ((bel_alloc wr (.cells #[.int .i64 (x0 : Int), .int .i64 (x1 : Int), .int .i64 (x2 : Int), .int .i64 (x4 : Int), .int .u64 (x8 : Int)] RT)).drew.mono HB.out.size))
          have HX0 : Hid ((wr.alloc (.cells #[.int .i64 (x0 : Int), .int .i64 (x1 : Int), .int .i64 (x2 : Int), .int .i64 (x4 : Int), .int .u64 (x8 : Int)] RT)).drew.heap[wr.heap.size]? = some (.cells #[.int .i64 (x0 : Int), .int .i64 (x1 : Int), .int .i64 (x2 : Int), .int .i64 (x4 : Int), .int .u64 (x8 : Int)] RT (0, 0))) := Lib.hid (heap_alloc_new wr (.cells #[.int .i64 (x0 : Int), .int .i64 (x1 : Int), .int .i64 (x2 : Int), .int .i64 (x4 : Int), .int .u64 (x8 : Int)] RT))
          have HO2 : Hid (OwnP (wr.alloc (.cells #[.int .i64 (x0 : Int), .int .i64 (x1 : Int), .int .i64 (x2 : Int), .int .i64 (x4 : Int), .int .u64 (x8 : Int)] RT)).drew w.heap.size RT u4 ((rd16 b).take k)) := Lib.hid (HO.out.alloc (.cells #[.int .i64 (x0 : Int), .int .i64 (x1 : Int), .int .i64 (x2 : Int), .int .i64 (x4 : Int), .int .u64 (x8 : Int)] RT))
          clear HG2 HG4 HG8 HCELL HK hHeld
          go_wp2_with fail
          refine (rone_any (⟨(x0 : Nat), (x1 : Nat), (x2 : Nat), (x4 : Nat), (x8 : Nat)⟩ : Pg) _ (HSZ.out.below HB2.out)).mono ?_
          rintro e w4 ⟨rfl, hb4⟩
          have HX4 := Lib.hid ((hb4.block _ (blk_lt HX0.out)).trans HX0.out)
          have HB4 := Lib.hid (HB2.out.trans (hb4.mono HB2.out.size))
          have HO4 := Lib.hid (HO2.out.below hb4)
          clear hb4 HX0 HB2 HO2
          obtain ⟨x, hx⟩ : ∃ x, x = oneP (⟨(x0 : Nat), (x1 : Nat), (x2 : Nat), (x4 : Nat), (x8 : Nat)⟩ : Pg) := ⟨_, rfl⟩
          rw [← hx]
          have HX := Lib.hid hx
          clear hx
          cases x
          · have HNO : Hid ((rd16 b).all oneP = false) := Lib.hid (by
              cases hq : (rd16 b).all oneP
              · rfl
              · have h2 : oneP (pg (rd16 b) k) = true := all_at hq (show k < (rd16 b).length by show k < (mixP b 16).length; rw [mixP_len]; exact hlt)
                rw [HRP.out, ← HX.out] at h2
                cases h2)
            go_wp2
            go_ret2
            exact ⟨HB4.out, .inl ⟨HNO.out, rfl⟩⟩
          · obtain ⟨d0, d1, d2, d3, d4⟩ := five HX4.out
            have HTL : Hid (((rd16 b).take k).length < 1000000) := Lib.hid (by rw [List.length_take]; omega)
            go_wp2_with (at_builtin; refine wp_appP kdR w4 rfl (.tmp 49) (.tmp 51) rfl w.heap.size _ ((rd16 b).take k) (⟨(x0 : Nat), (x1 : Nat), (x2 : Nat), (x4 : Nat), (x8 : Nat)⟩ : Pg) rfl HO4.out w4.heap.size rfl rfl HTL.out HB4.out.size ?_; intro v5 w5 hown5 hb5; have HO5 := Lib.hid hown5; have HB5 := Lib.hid (HB4.out.trans hb5); clear hown5 hb5)
            go_roundw
            case rel => exact ⟨k + 1, by have h1 := HZZ.out; have h2 := HZ.out; rw [show 16 * (k + 1) = y by omega], by omega, by
                rw [take_one (by show k < (mixP b 16).length; rw [mixP_len]; exact hlt), HRP.out]; exact HO5.out, fun j hj => by
                rcases Nat.lt_or_ge j k with hj2 | hj2
                · exact HONE.out j hj2
                · obtain rfl : j = k := by omega
                  rw [HRP.out]; exact HX.out.symm, HB5.out⟩
            case measure =>
              have h1 := HZZ.out
              simp [intOf]
              omega
      · go_simp
        refine hK.out _ _ (HK.out _ (hHeld.2.2.alloc hHeld.2.2.size _)) (fun hHeld13 => ?_)
        clear hK K
        (try simp only [Act.put, List.getElem_toArray, List.getElem_cons_succ, List.getElem_cons_zero, List.setIfInBounds_toArray, List.set_cons_zero, List.set_cons_succ])
        refine wpAnyF_ready (rs := [17]) (by kernel_rfl) (by simp) ?_
        refine AllReadyF.cons (o := _) rfl (fun K hK => ?_) AllReadyF.nil
        go_simp
        (go_at_call 22)
        refine (HG2.out _ hHeld13.2.2).mono ?_
        rintro e w1 ⟨rfl, rfl⟩
        refine hK.out _ _ (hHeld13) (fun hHeld14 => ?_)
        clear hK K
        (try simp only [Act.put, List.getElem_toArray, List.getElem_cons_succ, List.getElem_cons_zero, List.setIfInBounds_toArray, List.set_cons_zero, List.set_cons_succ])
        refine wpAnyF_take (i := 18) (oi := _) (v := ?_) rfl (by kernel_rfl) (by kernel_rfl) (by kernel_rfl) (by kernel_rfl) (fun _ _ _ h => h) (Or.inl ⟨by rfl, ?_⟩) (by assumption) ?_
        rotate_left 1
        · intro w hSw
          (try dsimp only at hSw)
          (first | (go_simp; done) | (go_simp; with_reducible rfl))
        (try simp only [Act.put, List.getElem_toArray, List.getElem_cons_succ, List.getElem_cons_zero, List.setIfInBounds_toArray, List.set_cons_zero, List.set_cons_succ])
        refine wpAnyF_ready (rs := [25]) (by kernel_rfl) (by simp) ?_
        refine AllReadyF.cons (o := _) rfl (fun K hK => ?_) AllReadyF.nil
        go_simp
        (go_at_call 22)
        refine (HG4.out _ hHeld14.2.2).mono ?_
        rintro e w2 ⟨rfl, rfl⟩
        refine hK.out _ _ (hHeld14) (fun hHeld15 => ?_)
        clear hK K
        (try simp only [Act.put, List.getElem_toArray, List.getElem_cons_succ, List.getElem_cons_zero, List.setIfInBounds_toArray, List.set_cons_zero, List.set_cons_succ])
        refine wpAnyF_take (i := 26) (oi := _) (v := ?_) rfl (by kernel_rfl) (by kernel_rfl) (by kernel_rfl) (by kernel_rfl) (fun _ _ _ h => h) (Or.inl ⟨by rfl, ?_⟩) (by assumption) ?_
        rotate_left 1
        · intro w hSw
          (try dsimp only at hSw)
          (first | (go_simp; done) | (go_simp; with_reducible rfl))
        (try simp only [Act.put, List.getElem_toArray, List.getElem_cons_succ, List.getElem_cons_zero, List.setIfInBounds_toArray, List.set_cons_zero, List.set_cons_succ])
        refine wpAnyF_ready (rs := [33]) (by kernel_rfl) (by simp) ?_
        refine AllReadyF.cons (o := _) rfl (fun K hK => ?_) AllReadyF.nil
        go_simp
        (go_at_call 22)
        refine (HG8.out _ hHeld15.2.2).mono ?_
        rintro e w3 ⟨rfl, rfl⟩
        refine hK.out _ _ (hHeld15) (fun hHeld16 => ?_)
        clear hK K
        (try simp only [Act.put, List.getElem_toArray, List.getElem_cons_succ, List.getElem_cons_zero, List.setIfInBounds_toArray, List.set_cons_zero, List.set_cons_succ])
        refine wpAnyF_take (i := 34) (oi := _) (v := ?_) rfl (by kernel_rfl) (by kernel_rfl) (by kernel_rfl) (by kernel_rfl) (fun _ _ _ h => h) (Or.inl ⟨by rfl, ?_⟩) (by assumption) ?_
        rotate_left 1
        · intro w hSw
          (try dsimp only at hSw)
          (first | (go_simp; done) | (go_simp; with_reducible rfl))
        (try simp only [Act.put, List.getElem_toArray, List.getElem_cons_succ, List.getElem_cons_zero, List.setIfInBounds_toArray, List.set_cons_zero, List.set_cons_succ])
        refine wpAnyF_ready (rs := [36]) (by kernel_rfl) (by simp) ?_
        refine AllReadyF.cons (o := _) rfl (fun K hK => ?_) AllReadyF.nil
        go_simp
        refine hK.out _ _ (HK.out _ (bel_alloc wr _).drew) (fun hHeld99 => ?_)
        clear hK K
        (try simp only [Act.put, List.getElem_toArray, List.getElem_cons_succ, List.getElem_cons_zero, List.setIfInBounds_toArray, List.set_cons_zero, List.set_cons_succ])
        refine wpAnyF_done (by kernel_rfl) ?_ _
        have HB2 := Lib.hid (HB.out.trans ((bel_alloc wr (.cells #[.int .i64 (x0 : Int), .int .i64 (x1 : Int), .int .i64 (x2 : Int), .int .i64 (x4 : Int), .int .u64 (x8 : Int)] RT)).drew.mono HB.out.size))
        have HX0 : Hid ((wr.alloc (.cells #[.int .i64 (x0 : Int), .int .i64 (x1 : Int), .int .i64 (x2 : Int), .int .i64 (x4 : Int), .int .u64 (x8 : Int)] RT)).drew.heap[wr.heap.size]? = some (.cells #[.int .i64 (x0 : Int), .int .i64 (x1 : Int), .int .i64 (x2 : Int), .int .i64 (x4 : Int), .int .u64 (x8 : Int)] RT (0, 0))) := Lib.hid (heap_alloc_new wr (.cells #[.int .i64 (x0 : Int), .int .i64 (x1 : Int), .int .i64 (x2 : Int), .int .i64 (x4 : Int), .int .u64 (x8 : Int)] RT))
        have HO2 : Hid (OwnP (wr.alloc (.cells #[.int .i64 (x0 : Int), .int .i64 (x1 : Int), .int .i64 (x2 : Int), .int .i64 (x4 : Int), .int .u64 (x8 : Int)] RT)).drew w.heap.size RT u4 ((rd16 b).take k)) := Lib.hid (HO.out.alloc (.cells #[.int .i64 (x0 : Int), .int .i64 (x1 : Int), .int .i64 (x2 : Int), .int .i64 (x4 : Int), .int .u64 (x8 : Int)] RT))
        clear HG2 HG4 HG8 HCELL HK hHeld
        go_wp2_with fail
        refine (rone_any (⟨(x0 : Nat), (x1 : Nat), (x2 : Nat), (x4 : Nat), (x8 : Nat)⟩ : Pg) _ (HSZ.out.below HB2.out)).mono ?_
        rintro e w4 ⟨rfl, hb4⟩
        have HX4 := Lib.hid ((hb4.block _ (blk_lt HX0.out)).trans HX0.out)
        have HB4 := Lib.hid (HB2.out.trans (hb4.mono HB2.out.size))
        have HO4 := Lib.hid (HO2.out.below hb4)
        clear hb4 HX0 HB2 HO2
        obtain ⟨x, hx⟩ : ∃ x, x = oneP (⟨(x0 : Nat), (x1 : Nat), (x2 : Nat), (x4 : Nat), (x8 : Nat)⟩ : Pg) := ⟨_, rfl⟩
        rw [← hx]
        have HX := Lib.hid hx
        clear hx
        cases x
        · have HNO : Hid ((rd16 b).all oneP = false) := Lib.hid (by
            cases hq : (rd16 b).all oneP
            · rfl
            · have h2 : oneP (pg (rd16 b) k) = true := all_at hq (show k < (rd16 b).length by show k < (mixP b 16).length; rw [mixP_len]; exact hlt)
              rw [HRP.out, ← HX.out] at h2
              cases h2)
          go_wp2
          go_ret2
          exact ⟨HB4.out, .inl ⟨HNO.out, rfl⟩⟩
        · obtain ⟨d0, d1, d2, d3, d4⟩ := five HX4.out
          have HTL : Hid (((rd16 b).take k).length < 1000000) := Lib.hid (by rw [List.length_take]; omega)
          go_wp2_with (at_builtin; refine wp_appP kdR w4 rfl (.tmp 49) (.tmp 51) rfl w.heap.size _ ((rd16 b).take k) (⟨(x0 : Nat), (x1 : Nat), (x2 : Nat), (x4 : Nat), (x8 : Nat)⟩ : Pg) rfl HO4.out w4.heap.size rfl rfl HTL.out HB4.out.size ?_; intro v5 w5 hown5 hb5; have HO5 := Lib.hid hown5; have HB5 := Lib.hid (HB4.out.trans hb5); clear hown5 hb5)
          go_roundw
          case rel => exact ⟨k + 1, by have h1 := HZZ.out; have h2 := HZ.out; rw [show 16 * (k + 1) = y by omega], by omega, by
              rw [take_one (by show k < (mixP b 16).length; rw [mixP_len]; exact hlt), HRP.out]; exact HO5.out, fun j hj => by
              rcases Nat.lt_or_ge j k with hj2 | hj2
              · exact HONE.out j hj2
              · obtain rfl : j = k := by omega
                rw [HRP.out]; exact HX.out.symm, HB5.out⟩
          case measure =>
            have h1 := HZZ.out
            simp [intOf]
            omega
    · obtain rfl : k = 16 := by omega
      have hzI : ¬ (z : Int) < 256 := by omega
      have hO := HO.out
      rw [List.take_of_length_le (by show (mixP b 16).length ≤ 16; rw [mixP_len]; exact Nat.le_refl _)] at hO
      obtain ⟨A9, c9, rfl, hps, _⟩ := hO.ps
      rw [show (rd16 b).length = 16 from mixP_len b 16] at hps ⊢
      have HPS := Lib.hid hps
      have HALL : Hid ((rd16 b).all oneP = true) := Lib.hid (by
        rw [List.all_eq_true]
        intro x hx
        obtain ⟨j, hj, rfl⟩ := List.getElem_of_mem hx
        have := HONE.out j (by rw [show (rd16 b).length = 16 from mixP_len b 16] at hj; exact hj)
        have e := pg_some hj
        rw [List.getElem?_eq_getElem hj] at e
        rw [Option.some.inj e]
        exact this)
      clear hO hps HO hz
      go_wp2
      go_ret2
      exact ⟨HB.out, .inr ⟨HALL.out, A9, c9, rfl, HPS.out⟩⟩
end Go.Proofs.YtooahpfeamobcaaDoor
