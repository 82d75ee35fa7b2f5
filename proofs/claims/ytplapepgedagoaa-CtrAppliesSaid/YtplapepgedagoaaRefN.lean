/-
  The document's cipher: New.
-/
import Derived.Test.YtplapepgedagoaaRefS
import Derived.Great.Ranges
import Derived.Deep.RegionHeld3
namespace Go.Proofs.Ytplapepgedagoaa
open Go.RowKit Go
set_option linter.unusedVariables false
set_option linter.unusedSimpArgs false
attribute [local irreducible] Gf.inv Gf.tm Gf.pw Gf.spread Gf.sub Gf.boxAt Gf.bk Gf.rm Gf.bit
def RefA (w : World) (k : Value) (W : World) : Prop := ∃ n : Nat, k = .int .i64 (n : Int) ∧ n ≤ 256 ∧ RefS w w.heap.size (twF n) (.slice none 0 0) 0 0 [] W
def RefB (w : World) (n : Nat) (N : Int) (key : List Nat) (k : Value) (W : World) : Prop := ∃ (i : Nat) (v : Value), k = .int .i64 (i : Int) ∧ i ≤ n ∧ RefS w w.heap.size (twF 256) v N i (Aes.sch Gf.sub key n i) W
def RefC (w : World) (n M : Nat) (N : Int) (key : List Nat) (p k : Value) (W : World) : Prop :=
  ∃ (i : Nat) (v : Value), p = .int .u8 ((Gf.pw 2 ((i - 1) / n) : Nat) : Int) ∧ k = .int .i64 (i : Int) ∧ n ≤ i ∧ i ≤ M ∧ RefS w w.heap.size (twF 256) v N i (Aes.sch Gf.sub key n i) W
theorem row256_one : (rowV (subF 256) 256).all (·.oneCell') = true := int_row (fun i => (if i < 256 then Gf.sub i else 0 : Nat))
theorem info_word : (Try.prog.info? TyW).map (fun i => (i.zero, i.size, i.bytes)) = some (some (.agg #[.int .u8 0, .int .u8 0, .int .u8 0, .int .u8 0]), 4, 4) := by kernel_rfl
theorem two_blocks (w : World) (q x : Array Value) (t : TypeId) : ((w.alloc (.cells q t)).alloc (.cells x t)).heap[w.heap.size]? = some (.cells q t (0, 0)) ∧ ((w.alloc (.cells q t)).alloc (.cells x t)).heap[w.heap.size + 1]? = some (.cells x t (0, 0)) := by
  refine ⟨blk_alloc (heap_alloc_new w _) _, ?_⟩
  have h := heap_alloc_new (w.alloc (.cells q t)) (.cells x t)
  rw [show (w.alloc (.cells q t)).heap.size = w.heap.size + 1 by simp] at h
  exact h
theorem pow_up {i n : Nat} (h : i % n = 0) (hn : 0 < n) (hi : 0 < i) : i / n = (i - 1) / n + 1 := by
  obtain ⟨j, rfl⟩ : ∃ j, i = j + 1 := ⟨i - 1, by omega⟩
  rw [Nat.succ_div, if_pos (Nat.dvd_of_mod_eq_zero h)]; rfl
theorem pow_same {i n : Nat} (h : ¬ i % n = 0) (hi : 0 < i) : (i - 1) / n = i / n := by
  obtain ⟨j, rfl⟩ : ∃ j, i = j + 1 := ⟨i - 1, by omega⟩
  rw [Nat.succ_div, if_neg (fun c => h (Nat.mod_eq_zero_of_dvd c))]; rfl
theorem bvals4 (a b c d : Nat) : bvals [a, b, c, d] = [.int .u8 (a : Int), .int .u8 (b : Int), .int .u8 (c : Int), .int .u8 (d : Int)] := rfl
set_option maxHeartbeats 4000000 in
set_option maxRecDepth 100000 in
theorem refNew_any (A : Option Addr) (n L M c : Nat) (hn : n = 4 ∨ n = 8) (hL : L = 4 * n) (hM : M = 4 * (n + 7)) (b off : Nat) (key : List Nat) (w : World) (hks : BS w w.heap.size (some ⟨b, off, none⟩) L c key) :
    Calls Try.prog 15 #[.slice (some ⟨b, off, none⟩) L c] w fun e w' => ∃ v, e = .returned (.pointer (some ⟨w.heap.size, 0, none⟩)) ∧ RefS w w.heap.size (twF 256) v ((n : Int) + 6) M (Aes.sch Gf.sub key n M) w' := by
  have qL : (L : Int) / 4 = (n : Int) := by omega
  have hM60 : M ≤ 60 := by omega
  have hnM : n ≤ M := by omega
  have hcell : ∀ j, j < L → w.cell? ⟨b, off + j, none⟩ = some (.int .u8 ((key.getD j 0 : Nat) : Int)) := by
    obtain ⟨b', o', e, hb, hc⟩ := hks.at_ (by omega)
    injection e with e; injection e with e1 e2; subst e1 e2
    exact hc
  have hbw : b < w.heap.size := by
    obtain ⟨b', o', e, hb, hc⟩ := hks.at_ (by omega)
    injection e with e; injection e with e1 e2; subst e1 e2
    exact hb
  have hcap := hks.cap.1
  have hcap2 := hks.cap.2
  have hby : ∀ i j, (Aes.sch Gf.sub key n i).getD j 0 < 256 := Aes.sch_byte (fun c hc => Gf.sub_lt hc) hks.byte
  have HC := Lib.hid hcell
  have HBY := Lib.hid hby
  have HKB := Lib.hid hks.byte
  have HBT := Lib.hid ref_zero
  obtain ⟨zz, hzz⟩ : ∃ z, z = rowV refZ 514 := ⟨_, rfl⟩
  rw [← hzz] at HBT
  have HZZ := Lib.hid hzz
  obtain ⟨bx, hbx⟩ : ∃ z, z = rowV (subF 256) 256 := ⟨_, rfl⟩
  have HBX := Lib.hid hbx
  have hbs : bx.size = 256 := by rw [hbx, rowV_size]
  have hb1 : bx.all (·.oneCell') = true := by rw [hbx]; exact row256_one
  have hbi : (Try.prog.info? 37).map (·.size) = some bx.size := by rw [hbs]; kernel_rfl
  have HT : Hid (∀ W, Calls Try.prog 47 #[] W fun e w' => ∃ f, e = .returned (.tuple #[.agg bx, .agg (rowV f 256)]) ∧ Below W.heap.size W w') := Lib.hid (fun W => by rw [hbx]; exact refTable_any W)
  have HBS := Lib.hid hbs
  have HB1 := Lib.hid hb1
  have HBI := Lib.hid hbi
  have hL1 : L ≤ 4 * n := by omega
  have hL2 : 4 * n ≤ L := by omega
  have hM1 : M ≤ 4 * (n + 7) := by omega
  have hM2 : 4 * (n + 7) ≤ M := by omega
  have HN := Lib.hid hn
  have hn1 : 4 ≤ n := by omega
  have hn8 : n ≤ 8 := by omega
  clear hcell hks hby hL hM hn hzz hbx hbs hb1 hbi
  go_enter Try.func15, Try.ntmps15
  go_wp2_with (first
    | (refine wp_build_eq rfl 40 #[] rfl zz (by first | exact HBT.out | (simp; exact HBT.out)) ?_)
    | (refine Go.Great.wpList_boxTo rfl 40 (.tmp 11) rfl (some 12) rfl w.heap.size rfl zz rfl ?_))
  refine (HT.out _).mono ?_
  rintro e w1 ⟨f, rfl, hb1⟩
  have hc1 : Cells w1 w.heap.size 514 refZ := by
    have h0 : Cells (w.alloc (.cells zz 40)) w.heap.size 514 refZ := Cells.of_blk (heap_alloc_new w _) fun i hi => by rw [HZZ.out]; exact rowV_at _ hi
    exact h0.after hb1
  have HS0 : Hid (RefS w w.heap.size (twF 0) (.slice none 0 0) 0 0 [] (w1.setCells w.heap.size 0 bx.toList)) := Lib.hid (by
    rw [HBX.out]
    refine ref_start (w := w) (w1 := w1) (F := subF 256) (fun i hi => by unfold subF; rw [if_pos hi]) ?_
    rw [HZZ.out] at hb1
    exact hb1.mono (by simp))
  have hth : w1.there w.heap.size 0 bx.size := hc1.there (by rw [HBS.out]; omega)
  have HTH := Lib.hid hth
  clear hb1 hc1 hth
  generalize rowV f 256 = ff
  go_wp2_with (with_reducible refine wpList_store_mid rfl 37 (.tmp 19) (.tmp 16) rfl w.heap.size 0 bx rfl rfl HTH.out HBI.out HB1.out ?_)
  generalize w1.setCells w.heap.size 0 bx.toList = W1 at *
  go_loopw [4] (fun k wr => RefA w k wr) (fun k _ => (256 - intOf k).toNat)
  case atStart => exact ⟨0, rfl, by omega, HS0.out⟩
  case round =>
    obtain ⟨k, rfl, hk, hS⟩ := hrel
    clear HS0 HTH
    by_cases hlt : k < 256
    · have HF := Lib.hid (hS.drew.fill hlt)
      have c2 := hS.twice hlt
      have f2 := hS.frozen (c := 256 + k) (by omega)
      have hwr : IntKind.u8.wrap (k : Int) = (k : Int) := IntWalk.u8_in _ (by omega)
      have HM : Hid (∀ W, Calls Try.prog 48 #[.int .u8 2, .int .u8 (k : Int)] W fun e w' => e = .returned (.int .u8 ((Gf.rm 2 k : Nat) : Int)) ∧ W = w') := Lib.hid (fun W => refMul_any 2 k (by omega) hlt W)
      clear hS
      generalize Gf.rm 2 k = x at *
      generalize twF k k = old at *
      go_wp2_with fail
      go_region_held3 (fun _ => True) (exact trivial) ((go_at_call 48; (with_reducible refine (HM.out _).mono ?_); rintro e w2 ⟨rfl, rfl⟩))
      go_wp2
      go_roundw
      case rel => exact ⟨k + 1, rfl, by omega, HF.out⟩
      case measure => simp [intOf]; omega
    · have hS' : RefS w w.heap.size (twF 256) (.slice none 0 0) 0 0 [] wr := by
        have e : k = 256 := by omega
        rw [e] at hS; exact hS
      clear hS
      have hS := hS'
      clear hS'
      have c3 := hS.rounds
      have f3 := hS.frozen (c := 513) (by omega)
      have HS1 := Lib.hid (hS.turn (r' := (n : Int) + 6))
      clear hS
      go_wp2
      generalize wr.setCell ⟨w.heap.size, 513, none⟩ (.int .i64 ((n : Int) + 6)) = W2 at *
      go_loopw [6] (fun k wr => RefB w n ((n : Int) + 6) key k wr) (fun k _ => (n - intOf k).toNat)
      case atStart => exact ⟨0, _, rfl, by omega, HS1.out⟩
      case round =>
        obtain ⟨i, v, rfl, hi, hS⟩ := hrel
        clear HS1
        by_cases hlt : i < n
        · have hi1 : (i : Int) < (n : Int) := by omega
          obtain ⟨x0, hx0⟩ : ∃ x, x = key.getD (4 * i + 0) 0 := ⟨_, rfl⟩
          obtain ⟨x1, hx1⟩ : ∃ x, x = key.getD (4 * i + 1) 0 := ⟨_, rfl⟩
          obtain ⟨x2, hx2⟩ : ∃ x, x = key.getD (4 * i + 2) 0 := ⟨_, rfl⟩
          obtain ⟨x3, hx3⟩ : ∃ x, x = key.getD (4 * i + 3) 0 := ⟨_, rfl⟩
          have hks : Aes.sch Gf.sub key n (i + 1) = Aes.sch Gf.sub key n i ++ [x0, x1, x2, x3] := by rw [Aes.sch, if_pos hlt, hx0, hx1, hx2, hx3]; rfl
          have hkc : ∀ (W : World), RefS w w.heap.size (twF 256) v ((n : Int) + 6) i (Aes.sch Gf.sub key n i) W → W.cell? ⟨b, off + 4 * i, none⟩ = some (.int .u8 (x0 : Int)) ∧ W.cell? ⟨b, off + (4 * i + 1), none⟩ = some (.int .u8 (x1 : Int)) ∧ W.cell? ⟨b, off + (4 * i + 2), none⟩ = some (.int .u8 (x2 : Int)) ∧ W.cell? ⟨b, off + (4 * i + 3), none⟩ = some (.int .u8 (x3 : Int)) ∧ W.cell? ⟨w.heap.size, 512, none⟩ = some v := fun W h => by
            have e : ∀ j, j < L → W.cell? ⟨b, off + j, none⟩ = some (.int .u8 ((key.getD j 0 : Nat) : Int)) := fun j hj => (h.below.cell (p := ⟨b, off + j, none⟩) hbw).trans (HC.out j hj)
            rw [hx0, hx1, hx2, hx3]
            exact ⟨e _ (by omega), e _ (by omega), e _ (by omega), e _ (by omega), h.words⟩
          have HKC := Lib.hid hkc
          have q0 : IntKind.i64.wrap (4 * (i : Int)) = 4 * (i : Int) := IntWalk.i64_in _ (by omega)
          have q1 : IntKind.i64.wrap (4 * (i : Int) + 1) = 4 * (i : Int) + 1 := IntWalk.i64_in _ (by omega)
          have q2 : IntKind.i64.wrap (4 * (i : Int) + 2) = 4 * (i : Int) + 2 := IntWalk.i64_in _ (by omega)
          have q3 : IntKind.i64.wrap (4 * (i : Int) + 3) = 4 * (i : Int) + 3 := IntWalk.i64_in _ (by omega)
          have t0 : (4 * (i : Int)).toNat = 4 * i := by omega
          have t1 : (4 * (i : Int) + 1).toNat = 4 * i + 1 := by omega
          have t2 : (4 * (i : Int) + 2).toNat = 4 * i + 2 := by omega
          have t3 : (4 * (i : Int) + 3).toNat = 4 * i + 3 := by omega
          have u0 : 0 ≤ (i : Int) := by omega
          have z0 : 0 ≤ 4 * (i : Int) := by omega
          have z1 : 0 ≤ 4 * (i : Int) + 1 := by omega
          have z2 : 0 ≤ 4 * (i : Int) + 2 := by omega
          have z3 : 0 ≤ 4 * (i : Int) + 3 := by omega
          have u1 : 4 * (i : Int) + 3 < (L : Int) := by omega
          have u2 : 4 * (i : Int) + 2 < (L : Int) := by omega
          have u3 : 4 * (i : Int) + 1 < (L : Int) := by omega
          have u4 : 4 * (i : Int) < (L : Int) := by omega
          have hSd := hkc _ hS.drew
          have HKS := Lib.hid hks
          have HSZ0 := Lib.hid hS.below.size
          have HSS := Lib.hid hS
          clear hkc hx0 hx1 hx2 hx3 hks hS
          generalize Aes.sch Gf.sub key n i = ks at *
          obtain ⟨i0, hi0, hz0, hz1, hz2⟩ := info_parts info_word
          go_wp2_with fail
          refine wp_region_F (S := (fun W => W.cell? ⟨b, off + 4 * i, none⟩ = some (.int .u8 (x0 : Int)) ∧ W.cell? ⟨b, off + (4 * i + 1), none⟩ = some (.int .u8 (x1 : Int)) ∧ W.cell? ⟨b, off + (4 * i + 2), none⟩ = some (.int .u8 (x2 : Int)) ∧ W.cell? ⟨b, off + (4 * i + 3), none⟩ = some (.int .u8 (x3 : Int)) ∧ W.cell? ⟨w.heap.size, 512, none⟩ = some v)) [33] (by kernel_rfl) (hSd) (fun hHeld => ?_)
          refine wpAnyF_take (i := 0) (oi := _) (v := ?_) rfl (by kernel_rfl) (by kernel_rfl) (by kernel_rfl) (by kernel_rfl) (fun _ _ _ h => h) (Or.inl ⟨by rfl, ?_⟩) (by assumption) ?_
          rotate_left 1
          · intro w hSw
            (try dsimp only at hSw)
            (first | (go_simp; done) | (go_simp; with_reducible rfl))
          (try simp only [Act.put, List.getElem_toArray, List.getElem_cons_succ, List.getElem_cons_zero, List.setIfInBounds_toArray, List.set_cons_zero, List.set_cons_succ])
          refine wpAnyF_take (i := 1) (oi := _) (v := ?_) rfl (by kernel_rfl) (by kernel_rfl) (by kernel_rfl) (by kernel_rfl) (fun _ _ _ h => h) (Or.inl ⟨by rfl, ?_⟩) (by assumption) ?_
          rotate_left 1
          · intro w hSw
            (try dsimp only at hSw)
            (first | (go_simp; done) | (go_simp; with_reducible rfl))
          (try simp only [Act.put, List.getElem_toArray, List.getElem_cons_succ, List.getElem_cons_zero, List.setIfInBounds_toArray, List.set_cons_zero, List.set_cons_succ])
          refine wpAnyF_take (i := 2) (oi := _) (v := ?_) rfl (by kernel_rfl) (by kernel_rfl) (by kernel_rfl) (by kernel_rfl) (fun _ _ _ h => h) (Or.inl ⟨by rfl, ?_⟩) (by assumption) ?_
          rotate_left 1
          · intro w hSw
            (try dsimp only at hSw)
            (first | (go_simp; done) | (go_simp; with_reducible rfl))
          (try simp only [Act.put, List.getElem_toArray, List.getElem_cons_succ, List.getElem_cons_zero, List.setIfInBounds_toArray, List.set_cons_zero, List.set_cons_succ])
          refine wpAnyF_take (i := 3) (oi := _) (v := ?_) rfl (by kernel_rfl) (by kernel_rfl) (by kernel_rfl) (by kernel_rfl) (fun _ _ _ h => h) (Or.inl ⟨by rfl, ?_⟩) (by assumption) ?_
          rotate_left 1
          · intro w hSw
            (try dsimp only at hSw)
            (first | (go_simp; done) | (go_simp; with_reducible rfl))
          (try simp only [Act.put, List.getElem_toArray, List.getElem_cons_succ, List.getElem_cons_zero, List.setIfInBounds_toArray, List.set_cons_zero, List.set_cons_succ])
          refine wpAnyF_take (i := 4) (oi := _) (v := ?_) rfl (by kernel_rfl) (by kernel_rfl) (by kernel_rfl) (by kernel_rfl) (fun _ _ _ h => h) (Or.inl ⟨by rfl, ?_⟩) (by assumption) ?_
          rotate_left 1
          · intro w hSw
            (try dsimp only at hSw)
            (first | (go_simp; done) | (go_simp; with_reducible rfl))
          (try simp only [Act.put, List.getElem_toArray, List.getElem_cons_succ, List.getElem_cons_zero, List.setIfInBounds_toArray, List.set_cons_zero, List.set_cons_succ])
          refine wpAnyF_take (i := 5) (oi := _) (v := ?_) rfl (by kernel_rfl) (by kernel_rfl) (by kernel_rfl) (by kernel_rfl) (fun _ _ _ h => h) (Or.inl ⟨by rfl, ?_⟩) (by assumption) ?_
          rotate_left 1
          · intro w hSw
            (try dsimp only at hSw)
            (first | (go_simp; done) | (go_simp; with_reducible rfl))
          (try simp only [Act.put, List.getElem_toArray, List.getElem_cons_succ, List.getElem_cons_zero, List.setIfInBounds_toArray, List.set_cons_zero, List.set_cons_succ])
          refine wpAnyF_take (i := 6) (oi := _) (v := ?_) rfl (by kernel_rfl) (by kernel_rfl) (by kernel_rfl) (by kernel_rfl) (fun _ _ _ h => h) (Or.inl ⟨by rfl, ?_⟩) (by assumption) ?_
          rotate_left 1
          · intro w hSw
            (try dsimp only at hSw)
            (first | (go_simp; done) | (go_simp; with_reducible rfl))
          (try simp only [Act.put, List.getElem_toArray, List.getElem_cons_succ, List.getElem_cons_zero, List.setIfInBounds_toArray, List.set_cons_zero, List.set_cons_succ])
          refine wpAnyF_take (i := 7) (oi := _) (v := ?_) rfl (by kernel_rfl) (by kernel_rfl) (by kernel_rfl) (by kernel_rfl) (fun _ _ _ h => h) (Or.inl ⟨by rfl, ?_⟩) (by assumption) ?_
          rotate_left 1
          · intro w hSw
            (try dsimp only at hSw)
            (first | (go_simp; done) | (go_simp; with_reducible rfl))
          (try simp only [Act.put, List.getElem_toArray, List.getElem_cons_succ, List.getElem_cons_zero, List.setIfInBounds_toArray, List.set_cons_zero, List.set_cons_succ])
          refine wpAnyF_take (i := 8) (oi := _) (v := ?_) rfl (by kernel_rfl) (by kernel_rfl) (by kernel_rfl) (by kernel_rfl) (fun _ _ _ h => h) (Or.inl ⟨by rfl, ?_⟩) (by assumption) ?_
          rotate_left 1
          · intro w hSw
            (try dsimp only at hSw)
            (first | (go_simp; done) | (go_simp; with_reducible rfl))
          (try simp only [Act.put, List.getElem_toArray, List.getElem_cons_succ, List.getElem_cons_zero, List.setIfInBounds_toArray, List.set_cons_zero, List.set_cons_succ])
          refine wpAnyF_take (i := 9) (oi := _) (v := ?_) rfl (by kernel_rfl) (by kernel_rfl) (by kernel_rfl) (by kernel_rfl) (fun _ _ _ h => h) (Or.inl ⟨by rfl, ?_⟩) (by assumption) ?_
          rotate_left 1
          · intro w hSw
            (try dsimp only at hSw)
            (first | (go_simp; done) | (go_simp; with_reducible rfl))
          (try simp only [Act.put, List.getElem_toArray, List.getElem_cons_succ, List.getElem_cons_zero, List.setIfInBounds_toArray, List.set_cons_zero, List.set_cons_succ])
          refine wpAnyF_take (i := 10) (oi := _) (v := ?_) rfl (by kernel_rfl) (by kernel_rfl) (by kernel_rfl) (by kernel_rfl) (fun _ _ _ h => h) (Or.inl ⟨by rfl, ?_⟩) (by assumption) ?_
          rotate_left 1
          · intro w hSw
            (try dsimp only at hSw)
            (first | (go_simp; done) | (go_simp; with_reducible rfl))
          (try simp only [Act.put, List.getElem_toArray, List.getElem_cons_succ, List.getElem_cons_zero, List.setIfInBounds_toArray, List.set_cons_zero, List.set_cons_succ])
          refine wpAnyF_take (i := 11) (oi := _) (v := ?_) rfl (by kernel_rfl) (by kernel_rfl) (by kernel_rfl) (by kernel_rfl) (fun _ _ _ h => h) (Or.inl ⟨by rfl, ?_⟩) (by assumption) ?_
          rotate_left 1
          · intro w hSw
            (try dsimp only at hSw)
            (first | (go_simp; done) | (go_simp; with_reducible rfl))
          (try simp only [Act.put, List.getElem_toArray, List.getElem_cons_succ, List.getElem_cons_zero, List.setIfInBounds_toArray, List.set_cons_zero, List.set_cons_succ])
          refine wpAnyF_take (i := 12) (oi := _) (v := ?_) rfl (by kernel_rfl) (by kernel_rfl) (by kernel_rfl) (by kernel_rfl) (fun _ _ _ h => h) (Or.inl ⟨by rfl, ?_⟩) (by assumption) ?_
          rotate_left 1
          · intro w hSw
            (try dsimp only at hSw)
            (first | (go_simp; done) | (go_simp; with_reducible rfl))
          (try simp only [Act.put, List.getElem_toArray, List.getElem_cons_succ, List.getElem_cons_zero, List.setIfInBounds_toArray, List.set_cons_zero, List.set_cons_succ])
          refine wpAnyF_take (i := 13) (oi := _) (v := ?_) rfl (by kernel_rfl) (by kernel_rfl) (by kernel_rfl) (by kernel_rfl) (fun _ _ _ h => h) (Or.inl ⟨by rfl, ?_⟩) (by assumption) ?_
          rotate_left 1
          · intro w hSw
            (try dsimp only at hSw)
            (first | (go_simp; done) | (go_simp; with_reducible rfl))
          (try simp only [Act.put, List.getElem_toArray, List.getElem_cons_succ, List.getElem_cons_zero, List.setIfInBounds_toArray, List.set_cons_zero, List.set_cons_succ])
          refine wpAnyF_take (i := 14) (oi := _) (v := ?_) rfl (by kernel_rfl) (by kernel_rfl) (by kernel_rfl) (by kernel_rfl) (fun _ _ _ h => h) (Or.inl ⟨by rfl, ?_⟩) (by assumption) ?_
          rotate_left 1
          · intro w hSw
            (try dsimp only at hSw)
            (first | (go_simp; done) | (go_simp; with_reducible rfl))
          (try simp only [Act.put, List.getElem_toArray, List.getElem_cons_succ, List.getElem_cons_zero, List.setIfInBounds_toArray, List.set_cons_zero, List.set_cons_succ])
          refine wpAnyF_take (i := 15) (oi := _) (v := ?_) rfl (by kernel_rfl) (by kernel_rfl) (by kernel_rfl) (by kernel_rfl) (fun _ _ _ h => h) (Or.inl ⟨by rfl, ?_⟩) (by assumption) ?_
          rotate_left 1
          · intro w hSw
            (try dsimp only at hSw)
            (first | (go_simp; done) | (go_simp; with_reducible rfl))
          (try simp only [Act.put, List.getElem_toArray, List.getElem_cons_succ, List.getElem_cons_zero, List.setIfInBounds_toArray, List.set_cons_zero, List.set_cons_succ])
          refine wpAnyF_take (i := 16) (oi := _) (v := ?_) rfl (by kernel_rfl) (by kernel_rfl) (by kernel_rfl) (by kernel_rfl) (fun _ _ _ h => h) (Or.inl ⟨by rfl, ?_⟩) (by assumption) ?_
          rotate_left 1
          · intro w hSw
            (try dsimp only at hSw)
            (first | (go_simp; done) | (go_simp; with_reducible rfl))
          (try simp only [Act.put, List.getElem_toArray, List.getElem_cons_succ, List.getElem_cons_zero, List.setIfInBounds_toArray, List.set_cons_zero, List.set_cons_succ])
          refine wpAnyF_take (i := 17) (oi := _) (v := ?_) rfl (by kernel_rfl) (by kernel_rfl) (by kernel_rfl) (by kernel_rfl) (fun _ _ _ h => h) (Or.inl ⟨by rfl, ?_⟩) (by assumption) ?_
          rotate_left 1
          · intro w hSw
            (try dsimp only at hSw)
            (first | (go_simp; done) | (go_simp; with_reducible rfl))
          (try simp only [Act.put, List.getElem_toArray, List.getElem_cons_succ, List.getElem_cons_zero, List.setIfInBounds_toArray, List.set_cons_zero, List.set_cons_succ])
          refine wpAnyF_take (i := 18) (oi := _) (v := ?_) rfl (by kernel_rfl) (by kernel_rfl) (by kernel_rfl) (by kernel_rfl) (fun _ _ _ h => h) (Or.inl ⟨by rfl, ?_⟩) (by assumption) ?_
          rotate_left 1
          · intro w hSw
            (try dsimp only at hSw)
            (first | (go_simp; done) | (go_simp; with_reducible rfl))
          (try simp only [Act.put, List.getElem_toArray, List.getElem_cons_succ, List.getElem_cons_zero, List.setIfInBounds_toArray, List.set_cons_zero, List.set_cons_succ])
          refine wpAnyF_take (i := 19) (oi := _) (v := ?_) rfl (by kernel_rfl) (by kernel_rfl) (by kernel_rfl) (by kernel_rfl) (fun _ _ _ h => h) (Or.inl ⟨by rfl, ?_⟩) (by assumption) ?_
          rotate_left 1
          · intro w hSw
            (try dsimp only at hSw)
            (first | (go_simp; done) | (go_simp; with_reducible rfl))
          (try simp only [Act.put, List.getElem_toArray, List.getElem_cons_succ, List.getElem_cons_zero, List.setIfInBounds_toArray, List.set_cons_zero, List.set_cons_succ])
          refine wpAnyF_take (i := 20) (oi := _) (v := ?_) rfl (by kernel_rfl) (by kernel_rfl) (by kernel_rfl) (by kernel_rfl) (fun _ _ _ h => h) (Or.inl ⟨by rfl, ?_⟩) (by assumption) ?_
          rotate_left 1
          · intro w hSw
            (try dsimp only at hSw)
            (first | (go_simp; done) | (go_simp; with_reducible rfl))
          (try simp only [Act.put, List.getElem_toArray, List.getElem_cons_succ, List.getElem_cons_zero, List.setIfInBounds_toArray, List.set_cons_zero, List.set_cons_succ])
          refine wpAnyF_take (i := 21) (oi := _) (v := ?_) rfl (by kernel_rfl) (by kernel_rfl) (by kernel_rfl) (by kernel_rfl) (fun _ _ _ h => h) (Or.inl ⟨by rfl, ?_⟩) (by assumption) ?_
          rotate_left 1
          · intro w hSw
            (try dsimp only at hSw)
            (first | (go_simp; done) | (go_simp; with_reducible rfl))
          (try simp only [Act.put, List.getElem_toArray, List.getElem_cons_succ, List.getElem_cons_zero, List.setIfInBounds_toArray, List.set_cons_zero, List.set_cons_succ])
          refine wpAnyF_take (i := 22) (oi := _) (v := ?_) rfl (by kernel_rfl) (by kernel_rfl) (by kernel_rfl) (by kernel_rfl) (fun _ _ _ h => h) (Or.inl ⟨by rfl, ?_⟩) (by assumption) ?_
          rotate_left 1
          · intro w hSw
            (try dsimp only at hSw)
            (first | (go_simp; done) | (go_simp; with_reducible rfl))
          (try simp only [Act.put, List.getElem_toArray, List.getElem_cons_succ, List.getElem_cons_zero, List.setIfInBounds_toArray, List.set_cons_zero, List.set_cons_succ])
          refine wpAnyF_take (i := 23) (oi := _) (v := ?_) rfl (by kernel_rfl) (by kernel_rfl) (by kernel_rfl) (by kernel_rfl) (fun _ _ _ h => h) (Or.inl ⟨by rfl, ?_⟩) (by assumption) ?_
          rotate_left 1
          · intro w hSw
            (try dsimp only at hSw)
            (first | (go_simp; done) | (go_simp; with_reducible rfl))
          (try simp only [Act.put, List.getElem_toArray, List.getElem_cons_succ, List.getElem_cons_zero, List.setIfInBounds_toArray, List.set_cons_zero, List.set_cons_succ])
          refine wpAnyF_take (i := 24) (oi := _) (v := ?_) rfl (by kernel_rfl) (by kernel_rfl) (by kernel_rfl) (by kernel_rfl) (fun _ _ _ h => h) (Or.inl ⟨by rfl, ?_⟩) (by assumption) ?_
          rotate_left 1
          · intro w hSw
            (try dsimp only at hSw)
            (first | (go_simp; done) | (go_simp; with_reducible rfl))
          (try simp only [Act.put, List.getElem_toArray, List.getElem_cons_succ, List.getElem_cons_zero, List.setIfInBounds_toArray, List.set_cons_zero, List.set_cons_succ])
          refine wpAnyF_take (i := 25) (oi := _) (v := ?_) rfl (by kernel_rfl) (by kernel_rfl) (by kernel_rfl) (by kernel_rfl) (fun _ _ _ h => h) (Or.inl ⟨by rfl, ?_⟩) (by assumption) ?_
          rotate_left 1
          · intro w hSw
            (try dsimp only at hSw)
            (first | (go_simp; done) | (go_simp; with_reducible rfl))
          (try simp only [Act.put, List.getElem_toArray, List.getElem_cons_succ, List.getElem_cons_zero, List.setIfInBounds_toArray, List.set_cons_zero, List.set_cons_succ])
          refine wpAnyF_take (i := 26) (oi := _) (v := ?_) rfl (by kernel_rfl) (by kernel_rfl) (by kernel_rfl) (by kernel_rfl) (fun _ _ _ h => h) (Or.inl ⟨by rfl, ?_⟩) (by assumption) ?_
          rotate_left 1
          · intro w hSw
            (try dsimp only at hSw)
            (first | (go_simp; done) | (go_simp; with_reducible rfl))
          (try simp only [Act.put, List.getElem_toArray, List.getElem_cons_succ, List.getElem_cons_zero, List.setIfInBounds_toArray, List.set_cons_zero, List.set_cons_succ])
          refine wpAnyF_take (i := 27) (oi := _) (v := ?_) rfl (by kernel_rfl) (by kernel_rfl) (by kernel_rfl) (by kernel_rfl) (fun _ _ _ h => h) (Or.inl ⟨by rfl, ?_⟩) (by assumption) ?_
          rotate_left 1
          · intro w hSw
            (try dsimp only at hSw)
            (first | (go_simp; done) | (go_simp; with_reducible rfl))
          (try simp only [Act.put, List.getElem_toArray, List.getElem_cons_succ, List.getElem_cons_zero, List.setIfInBounds_toArray, List.set_cons_zero, List.set_cons_succ])
          refine wpAnyF_take (i := 28) (oi := _) (v := ?_) rfl (by kernel_rfl) (by kernel_rfl) (by kernel_rfl) (by kernel_rfl) (fun _ _ _ h => h) (Or.inl ⟨by rfl, ?_⟩) (by assumption) ?_
          rotate_left 1
          · intro w hSw
            (try dsimp only at hSw)
            (first | (go_simp; done) | (go_simp; with_reducible rfl))
          (try simp only [Act.put, List.getElem_toArray, List.getElem_cons_succ, List.getElem_cons_zero, List.setIfInBounds_toArray, List.set_cons_zero, List.set_cons_succ])
          have hS1 := HSS.out.drew.alloc (.cells #[.int .u8 (x0 : Int), .int .u8 (x1 : Int), .int .u8 (x2 : Int), .int .u8 (x3 : Int)] TyW)
          have HKC1 := Lib.hid (HKC.out _ hS1)
          have HS1' := Lib.hid hS1
          clear hS1
          refine wpAnyF_ready (rs := [29]) (by kernel_rfl) (by simp) ?_
          refine AllReadyF.cons (o := _) rfl (fun K hK => ?_) AllReadyF.nil
          go_simp
          refine hK.out _ _ (by exact HKC1.out) (fun hHeld29 => ?_)
          clear hK K
          (try simp only [Act.put, List.getElem_toArray, List.getElem_cons_succ, List.getElem_cons_zero, List.setIfInBounds_toArray, List.set_cons_zero, List.set_cons_succ])
          have HOW := Lib.hid HS1'.out.own
          have HNW : Hid (∀ j u, (bvals [x0, x1, x2, x3])[j]? = some u → (wr.drew.alloc (.cells #[.int .u8 (x0 : Int), .int .u8 (x1 : Int), .int .u8 (x2 : Int), .int .u8 (x3 : Int)] TyW)).cell? ((⟨wr.heap.size, 0, none⟩ : Addr).add j) = some u) := Lib.hid (World.news_of_block (cs := (bvals [x0, x1, x2, x3]).toArray) (t := TyW) (fr := (0, 0)) (by exact heap_alloc_new wr _))
          have HSZ : Hid (w.heap.size + 1 ≤ (wr.drew.alloc (.cells #[.int .u8 (x0 : Int), .int .u8 (x1 : Int), .int .u8 (x2 : Int), .int .u8 (x3 : Int)] TyW)).heap.size) := Lib.hid (by have := HSZ0.out; simp; omega)
          have HSE : Hid ((wr.drew.alloc (.cells #[.int .u8 (x0 : Int), .int .u8 (x1 : Int), .int .u8 (x2 : Int), .int .u8 (x3 : Int)] TyW)).heap.size = wr.heap.size + 1) := Lib.hid (by simp)
          refine wpAnyF_ready (rs := [30]) (by kernel_rfl) (by simp) ?_
          refine AllReadyF.cons (o := _) rfl (fun K hK => ?_) AllReadyF.nil
          refine step_append_lies _ (by rfl) (.tmp 49) (.tmp 74) 38 (by rfl) (w.heap.size + 1) TyW i0 _ 4 4 Try.underlying38 hi0 hz0 hz1 hz2 rfl (by omega) v i (bvals ks) (by rfl) (by exact HOW.out) ⟨wr.heap.size, 0, none⟩ 1 1 (bvals [x0, x1, x2, x3]) (by rfl) (by rfl) (by exact HNW.out) (bvals_one _) (by omega) (by unfold maxLen; omega) (by omega) (by exact HSZ.out) (wr.heap.size + 1) (by exact HSE.out) ?_
          intro gg cap w3 hown3 hgrow3 hat3 hlt3
          have HG : Hid _ := Lib.hid (fun (p : Addr) (hp : p.block ≤ w.heap.size) => HS1'.out.grown_cell hgrow3 hp)
          have HFR : Hid _ := Lib.hid (fun (p : Addr) (hp : p.block ≤ w.heap.size) => HS1'.out.grown_frozen hgrow3 hp)
          have hk3 := HKC1.out
          have HEND : Hid (RefS w w.heap.size (twF 256) (.slice (some ⟨gg, 0, none⟩) (i + 1) cap) ((n : Int) + 6) (i + 1) (Aes.sch Gf.sub key n (i + 1)) (w3.setCell ⟨w.heap.size, 512, none⟩ (.slice (some ⟨gg, 0, none⟩) (i + 1) cap))) := Lib.hid (HS1'.out.grow hgrow3 (by rw [HKS.out, show bvals (ks ++ [x0, x1, x2, x3]) = bvals ks ++ bvals [x0, x1, x2, x3] by simp [bvals]]; exact hown3))
          have f512 : w3.frozen? ⟨w.heap.size, 512, none⟩ = false := (HFR.out _ (Nat.le_refl _)).trans (HS1'.out.frozen (by omega))
          refine hK.out _ _ (⟨(HG.out _ (Nat.le_of_lt hbw)).trans hk3.1, (HG.out _ (Nat.le_of_lt hbw)).trans hk3.2.1, (HG.out _ (Nat.le_of_lt hbw)).trans hk3.2.2.1, (HG.out _ (Nat.le_of_lt hbw)).trans hk3.2.2.2.1, (HG.out _ (Nat.le_refl _)).trans hk3.2.2.2.2⟩) (fun hHeld30 => ?_)
          clear hK K
          (try simp only [Act.put, List.getElem_toArray, List.getElem_cons_succ, List.getElem_cons_zero, List.setIfInBounds_toArray, List.set_cons_zero, List.set_cons_succ])
          refine wpAnyF_ready (rs := [31]) (by kernel_rfl) (by simp) ?_
          refine AllReadyF.cons (o := _) rfl (fun K hK => ?_) AllReadyF.nil
          go_simp
          refine hK.out _ _ (hHeld30) (fun hHeld31 => ?_)
          clear hK K
          (try simp only [Act.put, List.getElem_toArray, List.getElem_cons_succ, List.getElem_cons_zero, List.setIfInBounds_toArray, List.set_cons_zero, List.set_cons_succ])
          refine wpAnyF_ready (rs := [32]) (by kernel_rfl) (by simp) ?_
          refine AllReadyF.cons (o := _) rfl (fun K hK => ?_) AllReadyF.nil
          go_simp
          refine hK.out _ _ (hHeld30) (fun hHeld32 => ?_)
          clear hK K
          (try simp only [Act.put, List.getElem_toArray, List.getElem_cons_succ, List.getElem_cons_zero, List.setIfInBounds_toArray, List.set_cons_zero, List.set_cons_succ])
          have c512 := hHeld30.2.2.2.2
          refine wpAnyF_ready (rs := [33]) (by kernel_rfl) (by simp) ?_
          refine AllReadyF.last (o := _) rfl (by rfl) (fun K hK => ?_) AllReadyF.nil
          go_simp
          refine hK.out _ _ ?_
          clear hK K
          (try simp only [Act.put, List.getElem_toArray, List.getElem_cons_succ, List.getElem_cons_zero, List.setIfInBounds_toArray, List.set_cons_zero, List.set_cons_succ])
          refine wpAnyF_done (by kernel_rfl) ?_ _
          go_wp2
          go_roundw
          case rel => exact ⟨i + 1, _, rfl, by omega, HEND.out⟩
          case measure => simp [intOf]; omega

        · have hS' : RefS w w.heap.size (twF 256) v ((n : Int) + 6) n (Aes.sch Gf.sub key n n) wr := by
            have e : i = n := by omega
            rw [e] at hS; exact hS
          clear hS
          have HSC := Lib.hid hS'
          clear hS'
          have hpw0 : Gf.pw 2 ((n - 1) / n) = 1 := by rw [Nat.div_eq_of_lt (by omega), Gf.pw]
          have HPW0 := Lib.hid hpw0
          clear hpw0
          go_wp2
          go_loopw [7, 8] (fun p k wr => RefC w n M ((n : Int) + 6) key p k wr) (fun _ k _ => (M - intOf k).toNat)
          case atStart => exact ⟨n, v, by rw [HPW0.out]; rfl, rfl, Nat.le_refl _, hnM, HSC.out⟩
          case round =>
            obtain ⟨i, v, rfl, rfl, hni, hiM, hS⟩ := hrel
            clear HSC HPW0
            have kr := hS.rounds
            by_cases hlt : i < M
            · obtain ⟨bw, cap, rfl, hgb, hbw2, hcn, hcx, hwc⟩ := hS.word (by omega)
              obtain ⟨ks, hks⟩ : ∃ ks, ks = Aes.sch Gf.sub key n i := ⟨_, rfl⟩
              have hyb : ∀ j, ks.getD j 0 < 256 := by rw [hks]; exact HBY.out i
              have hsch : Aes.sch Gf.sub key n (i + 1) = ks ++ [ks.getD (4 * (i - n) + 0) 0 ^^^ bv n ks i 0, ks.getD (4 * (i - n) + 1) 0 ^^^ bv n ks i 1, ks.getD (4 * (i - n) + 2) 0 ^^^ bv n ks i 2, ks.getD (4 * (i - n) + 3) 0 ^^^ bv n ks i 3] := by
                rw [Aes.sch, if_neg (by omega), ← hks]; rfl
              rw [← hks] at hS hwc
              clear hks
              obtain ⟨j, hj⟩ : ∃ j, j = i - 1 := ⟨_, rfl⟩
              obtain ⟨k, hk⟩ : ∃ k, k = i - n := ⟨_, rfl⟩
              generalize hP' : Gf.pw 2 ((i - 1) / n) = P
              have hP := hP'.symm
              clear hP'
              have hPb : P < 256 := by rw [hP]; exact Gf.pw_lt (by omega) _
              obtain ⟨y0, hy0⟩ : ∃ y, y = ks.getD (4 * j + 0) 0 := ⟨_, rfl⟩
              obtain ⟨y1, hy1⟩ : ∃ y, y = ks.getD (4 * j + 1) 0 := ⟨_, rfl⟩
              obtain ⟨y2, hy2⟩ : ∃ y, y = ks.getD (4 * j + 2) 0 := ⟨_, rfl⟩
              obtain ⟨y3, hy3⟩ : ∃ y, y = ks.getD (4 * j + 3) 0 := ⟨_, rfl⟩
              obtain ⟨x0, hx0⟩ : ∃ y, y = ks.getD (4 * k + 0) 0 := ⟨_, rfl⟩
              obtain ⟨x1, hx1⟩ : ∃ y, y = ks.getD (4 * k + 1) 0 := ⟨_, rfl⟩
              obtain ⟨x2, hx2⟩ : ∃ y, y = ks.getD (4 * k + 2) 0 := ⟨_, rfl⟩
              obtain ⟨x3, hx3⟩ : ∃ y, y = ks.getD (4 * k + 3) 0 := ⟨_, rfl⟩
              have by0 : y0 < 256 := by rw [hy0]; exact hyb _
              have by1 : y1 < 256 := by rw [hy1]; exact hyb _
              have by2 : y2 < 256 := by rw [hy2]; exact hyb _
              have by3 : y3 < 256 := by rw [hy3]; exact hyb _
              have bx0 : x0 < 256 := by rw [hx0]; exact hyb _
              have bx1 : x1 < 256 := by rw [hx1]; exact hyb _
              have bx2 : x2 < 256 := by rw [hx2]; exact hyb _
              have bx3 : x3 < 256 := by rw [hx3]; exact hyb _
              have w0 : wr.cell? ⟨bw, j * 4, none⟩ = some (.int .u8 (y0 : Int)) := by rw [hy0, Nat.mul_comm j 4]; exact hwc _ (by omega)
              have w1' : wr.cell? ⟨bw, j * 4 + 1, none⟩ = some (.int .u8 (y1 : Int)) := by rw [hy1, Nat.mul_comm j 4]; exact hwc _ (by omega)
              have w2' : wr.cell? ⟨bw, j * 4 + 2, none⟩ = some (.int .u8 (y2 : Int)) := by rw [hy2, Nat.mul_comm j 4]; exact hwc _ (by omega)
              have w3' : wr.cell? ⟨bw, j * 4 + 3, none⟩ = some (.int .u8 (y3 : Int)) := by rw [hy3, Nat.mul_comm j 4]; exact hwc _ (by omega)
              have o0 : wr.cell? ⟨bw, k * 4, none⟩ = some (.int .u8 (x0 : Int)) := by rw [hx0, Nat.mul_comm k 4]; exact hwc _ (by omega)
              have o1 : wr.cell? ⟨bw, k * 4 + 1, none⟩ = some (.int .u8 (x1 : Int)) := by rw [hx1, Nat.mul_comm k 4]; exact hwc _ (by omega)
              have o2 : wr.cell? ⟨bw, k * 4 + 2, none⟩ = some (.int .u8 (x2 : Int)) := by rw [hx2, Nat.mul_comm k 4]; exact hwc _ (by omega)
              have o3 : wr.cell? ⟨bw, k * 4 + 3, none⟩ = some (.int .u8 (x3 : Int)) := by rw [hx3, Nat.mul_comm k 4]; exact hwc _ (by omega)
              have al : ∀ (o : Obj) (p : Addr), p.block < wr.heap.size → (wr.alloc o).cell? p = wr.cell? p := fun o p hp => World.cell?_alloc_lt wr o p hp
              have hgw : w.heap.size < wr.heap.size := by omega
              have qj : (i : Int) - 1 = (j : Int) := by omega
              have qk : (i : Int) - (n : Int) = (k : Int) := by omega
              have lj : (j : Int) < (i : Int) := by omega
              have lk : (k : Int) < (i : Int) := by omega
              have j0 : 0 ≤ (j : Int) := by omega
              have k0 : 0 ≤ (k : Int) := by omega
              have nz : ((n : Int) == 0) = false := by rw [beq_eq_false_iff_ne]; omega
              have hlt2 : (i : Int) < 4 * ((n : Int) + 6) + 4 := by omega
              have al1 : ∀ o, (wr.alloc o).cell? ⟨bw, k * 4, none⟩ = some (.int .u8 (x0 : Int)) := fun o => (al o _ hbw2).trans o0
              have al2 : ∀ o, (wr.alloc o).cell? ⟨bw, k * 4 + 1, none⟩ = some (.int .u8 (x1 : Int)) := fun o => (al o _ hbw2).trans o1
              have al3 : ∀ o, (wr.alloc o).cell? ⟨bw, k * 4 + 2, none⟩ = some (.int .u8 (x2 : Int)) := fun o => (al o _ hbw2).trans o2
              have al4 : ∀ o, (wr.alloc o).cell? ⟨bw, k * 4 + 3, none⟩ = some (.int .u8 (x3 : Int)) := fun o => (al o _ hbw2).trans o3
              have al5 : ∀ o, (wr.alloc o).cell? ⟨w.heap.size, 512, none⟩ = some (.slice (some ⟨bw, 0, none⟩) i cap) := fun o => (al o _ hgw).trans hS.words
              have al6 := hS.words
              clear al
              by_cases h0 : i % n = 0
              · obtain ⟨s0, hs0⟩ : ∃ z, z = Gf.sub y0 := ⟨_, rfl⟩
                have bs0 : s0 < 256 := by rw [hs0]; exact Gf.sub_lt by0
                have cs0 : ∀ o, (wr.alloc o).cell? ⟨w.heap.size, y0, none⟩ = some (.int .u8 (s0 : Int)) := fun o => by rw [hs0]; exact (hS.alloc o).box by0
                have ls0 : (y0 : Int) < 256 := by omega
                have zs0 : 0 ≤ (y0 : Int) := by omega
                obtain ⟨s1, hs1⟩ : ∃ z, z = Gf.sub y1 := ⟨_, rfl⟩
                have bs1 : s1 < 256 := by rw [hs1]; exact Gf.sub_lt by1
                have cs1 : ∀ o, (wr.alloc o).cell? ⟨w.heap.size, y1, none⟩ = some (.int .u8 (s1 : Int)) := fun o => by rw [hs1]; exact (hS.alloc o).box by1
                have ls1 : (y1 : Int) < 256 := by omega
                have zs1 : 0 ≤ (y1 : Int) := by omega
                obtain ⟨s2, hs2⟩ : ∃ z, z = Gf.sub y2 := ⟨_, rfl⟩
                have bs2 : s2 < 256 := by rw [hs2]; exact Gf.sub_lt by2
                have cs2 : ∀ o, (wr.alloc o).cell? ⟨w.heap.size, y2, none⟩ = some (.int .u8 (s2 : Int)) := fun o => by rw [hs2]; exact (hS.alloc o).box by2
                have ls2 : (y2 : Int) < 256 := by omega
                have zs2 : 0 ≤ (y2 : Int) := by omega
                obtain ⟨s3, hs3⟩ : ∃ z, z = Gf.sub y3 := ⟨_, rfl⟩
                have bs3 : s3 < 256 := by rw [hs3]; exact Gf.sub_lt by3
                have cs3 : ∀ o, (wr.alloc o).cell? ⟨w.heap.size, y3, none⟩ = some (.int .u8 (s3 : Int)) := fun o => by rw [hs3]; exact (hS.alloc o).box by3
                have ls3 : (y3 : Int) < 256 := by omega
                have zs3 : 0 ≤ (y3 : Int) := by omega
                have m0 : (i : Int) % (n : Int) = 0 := by rw [← Int.natCast_emod, h0]; rfl
                obtain ⟨p0, hp0⟩ : ∃ z, z = s1 ^^^ P := ⟨_, rfl⟩
                have bp0 : p0 < 256 := by rw [hp0]; exact Gf.xor_lt bs1 hPb
                have hxp : bits BinOp.xor IntKind.u8 (s1 : Int) (P : Int) = (p0 : Int) := by rw [hp0]; exact xor8 bs1 hPb
                obtain ⟨P2, hP2⟩ : ∃ z, z = Gf.rm 2 P := ⟨_, rfl⟩
                have HPN : Hid (Gf.pw 2 ((i + 1 - 1) / n) = P2) := Lib.hid (by rw [Nat.add_sub_cancel, pow_up h0 (by omega) (by omega), Gf.pw, ← hP, hP2, Gf.tm_comm hPb (by omega), Gf.tm_rm (by omega) hPb])
                have lP : (P : Int) < 256 := by omega
                have zP : 0 ≤ (P : Int) := by omega
                have cP : ∀ o, (wr.alloc o).cell? ⟨w.heap.size, 256 + P, none⟩ = some (.int .u8 (P2 : Int)) := fun o => by
                  rw [(hS.alloc o).twice hPb, hP2]; unfold twF; rw [if_pos hPb]
                obtain ⟨e0, he0⟩ : ∃ e, e = x0 ^^^ p0 := ⟨_, rfl⟩
                have hxe0 : bits BinOp.xor IntKind.u8 (x0 : Int) (p0 : Int) = (e0 : Int) := by rw [he0]; exact xor8 bx0 bp0
                obtain ⟨e1, he1⟩ : ∃ e, e = x1 ^^^ s2 := ⟨_, rfl⟩
                have hxe1 : bits BinOp.xor IntKind.u8 (x1 : Int) (s2 : Int) = (e1 : Int) := by rw [he1]; exact xor8 bx1 bs2
                obtain ⟨e2, he2⟩ : ∃ e, e = x2 ^^^ s3 := ⟨_, rfl⟩
                have hxe2 : bits BinOp.xor IntKind.u8 (x2 : Int) (s3 : Int) = (e2 : Int) := by rw [he2]; exact xor8 bx2 bs3
                obtain ⟨e3, he3⟩ : ∃ e, e = x3 ^^^ s0 := ⟨_, rfl⟩
                have hxe3 : bits BinOp.xor IntKind.u8 (x3 : Int) (s0 : Int) = (e3 : Int) := by rw [he3]; exact xor8 bx3 bs0
                have HKS : Hid (Aes.sch Gf.sub key n (i + 1) = ks ++ [e0, e1, e2, e3]) := Lib.hid (by rw [hsch, (show bv n ks i 0 = p0 by unfold bv; rw [if_pos h0, if_pos rfl, ← hj, hp0, hs1, hy1, hP, show (i - 1) / n = i / n - 1 by rw [pow_up h0 (by omega) (by omega), Nat.add_sub_cancel]]), (show bv n ks i 1 = s2 by unfold bv; rw [if_pos h0, if_neg (by omega), Nat.xor_zero, ← hj, hs2, hy2]), (show bv n ks i 2 = s3 by unfold bv; rw [if_pos h0, if_neg (by omega), Nat.xor_zero, ← hj, hs3, hy3]), (show bv n ks i 3 = s0 by unfold bv; rw [if_pos h0, if_neg (by omega), Nat.xor_zero, ← hj, hs0, hy0]), ← hk, ← hx0, ← hx1, ← hx2, ← hx3, he0, he1, he2, he3])
                have hVS : RefS w w.heap.size (twF 256) (.slice (some ⟨bw, 0, none⟩) i cap) ((n : Int) + 6) i ks (((wr.alloc (.cells #[.int .u8 (p0 : Int), .int .u8 (s2 : Int), .int .u8 (s3 : Int), .int .u8 (s0 : Int)] TyW)).alloc (.cells #[.int .u8 (x0 : Int), .int .u8 (x1 : Int), .int .u8 (x2 : Int), .int .u8 (x3 : Int)] TyW)).drew) := ((hS.alloc (.cells #[.int .u8 (p0 : Int), .int .u8 (s2 : Int), .int .u8 (s3 : Int), .int .u8 (s0 : Int)] TyW)).alloc (.cells #[.int .u8 (x0 : Int), .int .u8 (x1 : Int), .int .u8 (x2 : Int), .int .u8 (x3 : Int)] TyW)).drew
                have hVZ : (((wr.alloc (.cells #[.int .u8 (p0 : Int), .int .u8 (s2 : Int), .int .u8 (s3 : Int), .int .u8 (s0 : Int)] TyW)).alloc (.cells #[.int .u8 (x0 : Int), .int .u8 (x1 : Int), .int .u8 (x2 : Int), .int .u8 (x3 : Int)] TyW)).drew).heap.size = wr.heap.size + 1 + 1 := by simp
                have hBQ := (two_blocks wr #[.int .u8 (p0 : Int), .int .u8 (s2 : Int), .int .u8 (s3 : Int), .int .u8 (s0 : Int)] #[.int .u8 (x0 : Int), .int .u8 (x1 : Int), .int .u8 (x2 : Int), .int .u8 (x3 : Int)] TyW).1
                have hBX := (two_blocks wr #[.int .u8 (p0 : Int), .int .u8 (s2 : Int), .int .u8 (s3 : Int), .int .u8 (s0 : Int)] #[.int .u8 (x0 : Int), .int .u8 (x1 : Int), .int .u8 (x2 : Int), .int .u8 (x3 : Int)] TyW).2
                have hV0 : (((wr.alloc (.cells #[.int .u8 (p0 : Int), .int .u8 (s2 : Int), .int .u8 (s3 : Int), .int .u8 (s0 : Int)] TyW)).alloc (.cells #[.int .u8 (x0 : Int), .int .u8 (x1 : Int), .int .u8 (x2 : Int), .int .u8 (x3 : Int)] TyW)).drew).cell? ⟨wr.heap.size, 0, none⟩ = some (.int .u8 (p0 : Int)) := blk_cell hBQ 0
                have hU0 : (((wr.alloc (.cells #[.int .u8 (p0 : Int), .int .u8 (s2 : Int), .int .u8 (s3 : Int), .int .u8 (s0 : Int)] TyW)).alloc (.cells #[.int .u8 (x0 : Int), .int .u8 (x1 : Int), .int .u8 (x2 : Int), .int .u8 (x3 : Int)] TyW)).drew).cell? ⟨wr.heap.size + 1, 0, none⟩ = some (.int .u8 (x0 : Int)) := blk_cell hBX 0
                have hV1 : (((wr.alloc (.cells #[.int .u8 (p0 : Int), .int .u8 (s2 : Int), .int .u8 (s3 : Int), .int .u8 (s0 : Int)] TyW)).alloc (.cells #[.int .u8 (x0 : Int), .int .u8 (x1 : Int), .int .u8 (x2 : Int), .int .u8 (x3 : Int)] TyW)).drew).cell? ⟨wr.heap.size, 1, none⟩ = some (.int .u8 (s2 : Int)) := blk_cell hBQ 1
                have hU1 : (((wr.alloc (.cells #[.int .u8 (p0 : Int), .int .u8 (s2 : Int), .int .u8 (s3 : Int), .int .u8 (s0 : Int)] TyW)).alloc (.cells #[.int .u8 (x0 : Int), .int .u8 (x1 : Int), .int .u8 (x2 : Int), .int .u8 (x3 : Int)] TyW)).drew).cell? ⟨wr.heap.size + 1, 1, none⟩ = some (.int .u8 (x1 : Int)) := blk_cell hBX 1
                have hV2 : (((wr.alloc (.cells #[.int .u8 (p0 : Int), .int .u8 (s2 : Int), .int .u8 (s3 : Int), .int .u8 (s0 : Int)] TyW)).alloc (.cells #[.int .u8 (x0 : Int), .int .u8 (x1 : Int), .int .u8 (x2 : Int), .int .u8 (x3 : Int)] TyW)).drew).cell? ⟨wr.heap.size, 2, none⟩ = some (.int .u8 (s3 : Int)) := blk_cell hBQ 2
                have hU2 : (((wr.alloc (.cells #[.int .u8 (p0 : Int), .int .u8 (s2 : Int), .int .u8 (s3 : Int), .int .u8 (s0 : Int)] TyW)).alloc (.cells #[.int .u8 (x0 : Int), .int .u8 (x1 : Int), .int .u8 (x2 : Int), .int .u8 (x3 : Int)] TyW)).drew).cell? ⟨wr.heap.size + 1, 2, none⟩ = some (.int .u8 (x2 : Int)) := blk_cell hBX 2
                have hV3 : (((wr.alloc (.cells #[.int .u8 (p0 : Int), .int .u8 (s2 : Int), .int .u8 (s3 : Int), .int .u8 (s0 : Int)] TyW)).alloc (.cells #[.int .u8 (x0 : Int), .int .u8 (x1 : Int), .int .u8 (x2 : Int), .int .u8 (x3 : Int)] TyW)).drew).cell? ⟨wr.heap.size, 3, none⟩ = some (.int .u8 (s0 : Int)) := blk_cell hBQ 3
                have hU3 : (((wr.alloc (.cells #[.int .u8 (p0 : Int), .int .u8 (s2 : Int), .int .u8 (s3 : Int), .int .u8 (s0 : Int)] TyW)).alloc (.cells #[.int .u8 (x0 : Int), .int .u8 (x1 : Int), .int .u8 (x2 : Int), .int .u8 (x3 : Int)] TyW)).drew).cell? ⟨wr.heap.size + 1, 3, none⟩ = some (.int .u8 (x3 : Int)) := blk_cell hBX 3
                clear hBQ hBX
                have HBY9 := heap_alloc_new wr (.cells #[.int .u8 (y0 : Int), .int .u8 (y1 : Int), .int .u8 (y2 : Int), .int .u8 (y3 : Int)] TyW)
                have g0 : (wr.alloc (.cells #[.int .u8 (y0 : Int), .int .u8 (y1 : Int), .int .u8 (y2 : Int), .int .u8 (y3 : Int)] TyW)).cell? ⟨wr.heap.size, 0, none⟩ = some (.int .u8 (y0 : Int)) := blk_cell HBY9 0
                have g1 : (wr.alloc (.cells #[.int .u8 (y0 : Int), .int .u8 (y1 : Int), .int .u8 (y2 : Int), .int .u8 (y3 : Int)] TyW)).cell? ⟨wr.heap.size, 1, none⟩ = some (.int .u8 (y1 : Int)) := blk_cell HBY9 1
                have g2 : (wr.alloc (.cells #[.int .u8 (y0 : Int), .int .u8 (y1 : Int), .int .u8 (y2 : Int), .int .u8 (y3 : Int)] TyW)).cell? ⟨wr.heap.size, 2, none⟩ = some (.int .u8 (y2 : Int)) := blk_cell HBY9 2
                have g3 : (wr.alloc (.cells #[.int .u8 (y0 : Int), .int .u8 (y1 : Int), .int .u8 (y2 : Int), .int .u8 (y3 : Int)] TyW)).cell? ⟨wr.heap.size, 3, none⟩ = some (.int .u8 (y3 : Int)) := blk_cell HBY9 3
                have HG4 := Lib.hid (And.intro g0 (And.intro g1 (And.intro g2 g3)))
                clear HBY9 g0 g1 g2 g3
                clear hs0 hs1 hs2 hs3 hp0 hP2
                have HVF := Lib.hid (And.intro hVS (And.intro hVZ (And.intro hV0 (And.intro hV1 (And.intro hV2 (And.intro hV3 (And.intro hU0 (And.intro hU1 (And.intro hU2 hU3)))))))))
                clear hVS hVZ hV0 hV1 hV2 hV3 hU0 hU1 hU2 hU3
                clear hx0 hx1 hx2 hx3 hy0 hy1 hy2 hy3 he0 he1 he2 he3 hsch hwc hj hk hP
                have HSS := Lib.hid hS
                clear hS
                obtain ⟨i0, hi0, hz0, hz1, hz2⟩ := info_parts info_word
                go_wp2_with fail
                refine wp_region_F (S := (fun W => W.cell? ⟨wr.heap.size, 0, none⟩ = some (.int .u8 (y0 : Int)) ∧ W.cell? ⟨wr.heap.size, 1, none⟩ = some (.int .u8 (y1 : Int)) ∧ W.cell? ⟨wr.heap.size, 2, none⟩ = some (.int .u8 (y2 : Int)) ∧ W.cell? ⟨wr.heap.size, 3, none⟩ = some (.int .u8 (y3 : Int)) ∧ W.cell? ⟨w.heap.size, y0, none⟩ = some (.int .u8 (s0 : Int)) ∧ W.cell? ⟨w.heap.size, y1, none⟩ = some (.int .u8 (s1 : Int)) ∧ W.cell? ⟨w.heap.size, y2, none⟩ = some (.int .u8 (s2 : Int)) ∧ W.cell? ⟨w.heap.size, y3, none⟩ = some (.int .u8 (s3 : Int)))) [31] (by kernel_rfl) (by exact ⟨HG4.out.1, HG4.out.2.1, HG4.out.2.2.1, HG4.out.2.2.2, cs0 _, cs1 _, cs2 _, cs3 _⟩) (fun hHeld => ?_)
                refine wpAnyF_take (i := 0) (oi := _) (v := ?_) rfl (by kernel_rfl) (by kernel_rfl) (by kernel_rfl) (by kernel_rfl) (fun _ _ _ h => h) (Or.inl ⟨by rfl, ?_⟩) (by assumption) ?_
                rotate_left 1
                · intro w hSw
                  (try dsimp only at hSw)
                  (first | (go_simp; done) | (go_simp; with_reducible rfl))
                (try simp only [Act.put, List.getElem_toArray, List.getElem_cons_succ, List.getElem_cons_zero, List.setIfInBounds_toArray, List.set_cons_zero, List.set_cons_succ])
                refine wpAnyF_take (i := 1) (oi := _) (v := ?_) rfl (by kernel_rfl) (by kernel_rfl) (by kernel_rfl) (by kernel_rfl) (fun _ _ _ h => h) (Or.inl ⟨by rfl, ?_⟩) (by assumption) ?_
                rotate_left 1
                · intro w hSw
                  (try dsimp only at hSw)
                  (first | (go_simp; done) | (go_simp; with_reducible rfl))
                (try simp only [Act.put, List.getElem_toArray, List.getElem_cons_succ, List.getElem_cons_zero, List.setIfInBounds_toArray, List.set_cons_zero, List.set_cons_succ])
                refine wpAnyF_take (i := 2) (oi := _) (v := ?_) rfl (by kernel_rfl) (by kernel_rfl) (by kernel_rfl) (by kernel_rfl) (fun _ _ _ h => h) (Or.inl ⟨by rfl, ?_⟩) (by assumption) ?_
                rotate_left 1
                · intro w hSw
                  (try dsimp only at hSw)
                  (first | (go_simp; done) | (go_simp; with_reducible rfl))
                (try simp only [Act.put, List.getElem_toArray, List.getElem_cons_succ, List.getElem_cons_zero, List.setIfInBounds_toArray, List.set_cons_zero, List.set_cons_succ])
                refine wpAnyF_take (i := 3) (oi := _) (v := ?_) rfl (by kernel_rfl) (by kernel_rfl) (by kernel_rfl) (by kernel_rfl) (fun _ _ _ h => h) (Or.inl ⟨by rfl, ?_⟩) (by assumption) ?_
                rotate_left 1
                · intro w hSw
                  (try dsimp only at hSw)
                  (first | (go_simp; done) | (go_simp; with_reducible rfl))
                (try simp only [Act.put, List.getElem_toArray, List.getElem_cons_succ, List.getElem_cons_zero, List.setIfInBounds_toArray, List.set_cons_zero, List.set_cons_succ])
                refine wpAnyF_take (i := 4) (oi := _) (v := ?_) rfl (by kernel_rfl) (by kernel_rfl) (by kernel_rfl) (by kernel_rfl) (fun _ _ _ h => h) (Or.inl ⟨by rfl, ?_⟩) (by assumption) ?_
                rotate_left 1
                · intro w hSw
                  (try dsimp only at hSw)
                  (first | (go_simp; done) | (go_simp; with_reducible rfl))
                (try simp only [Act.put, List.getElem_toArray, List.getElem_cons_succ, List.getElem_cons_zero, List.setIfInBounds_toArray, List.set_cons_zero, List.set_cons_succ])
                refine wpAnyF_take (i := 5) (oi := _) (v := ?_) rfl (by kernel_rfl) (by kernel_rfl) (by kernel_rfl) (by kernel_rfl) (fun _ _ _ h => h) (Or.inl ⟨by rfl, ?_⟩) (by assumption) ?_
                rotate_left 1
                · intro w hSw
                  (try dsimp only at hSw)
                  (first | (go_simp; done) | (go_simp; with_reducible rfl))
                (try simp only [Act.put, List.getElem_toArray, List.getElem_cons_succ, List.getElem_cons_zero, List.setIfInBounds_toArray, List.set_cons_zero, List.set_cons_succ])
                refine wpAnyF_take (i := 6) (oi := _) (v := ?_) rfl (by kernel_rfl) (by kernel_rfl) (by kernel_rfl) (by kernel_rfl) (fun _ _ _ h => h) (Or.inl ⟨by rfl, ?_⟩) (by assumption) ?_
                rotate_left 1
                · intro w hSw
                  (try dsimp only at hSw)
                  (first | (go_simp; done) | (go_simp; with_reducible rfl))
                (try simp only [Act.put, List.getElem_toArray, List.getElem_cons_succ, List.getElem_cons_zero, List.setIfInBounds_toArray, List.set_cons_zero, List.set_cons_succ])
                refine wpAnyF_take (i := 7) (oi := _) (v := ?_) rfl (by kernel_rfl) (by kernel_rfl) (by kernel_rfl) (by kernel_rfl) (fun _ _ _ h => h) (Or.inl ⟨by rfl, ?_⟩) (by assumption) ?_
                rotate_left 1
                · intro w hSw
                  (try dsimp only at hSw)
                  (first | (go_simp; done) | (go_simp; with_reducible rfl))
                (try simp only [Act.put, List.getElem_toArray, List.getElem_cons_succ, List.getElem_cons_zero, List.setIfInBounds_toArray, List.set_cons_zero, List.set_cons_succ])
                refine wpAnyF_take (i := 8) (oi := _) (v := ?_) rfl (by kernel_rfl) (by kernel_rfl) (by kernel_rfl) (by kernel_rfl) (fun _ _ _ h => h) (Or.inl ⟨by rfl, ?_⟩) (by assumption) ?_
                rotate_left 1
                · intro w hSw
                  (try dsimp only at hSw)
                  (first | (go_simp; done) | (go_simp; with_reducible rfl))
                (try simp only [Act.put, List.getElem_toArray, List.getElem_cons_succ, List.getElem_cons_zero, List.setIfInBounds_toArray, List.set_cons_zero, List.set_cons_succ])
                refine wpAnyF_take (i := 9) (oi := _) (v := ?_) rfl (by kernel_rfl) (by kernel_rfl) (by kernel_rfl) (by kernel_rfl) (fun _ _ _ h => h) (Or.inl ⟨by rfl, ?_⟩) (by assumption) ?_
                rotate_left 1
                · intro w hSw
                  (try dsimp only at hSw)
                  (first | (go_simp; done) | (go_simp; with_reducible rfl))
                (try simp only [Act.put, List.getElem_toArray, List.getElem_cons_succ, List.getElem_cons_zero, List.setIfInBounds_toArray, List.set_cons_zero, List.set_cons_succ])
                refine wpAnyF_take (i := 10) (oi := _) (v := ?_) rfl (by kernel_rfl) (by kernel_rfl) (by kernel_rfl) (by kernel_rfl) (fun _ _ _ h => h) (Or.inl ⟨by rfl, ?_⟩) (by assumption) ?_
                rotate_left 1
                · intro w hSw
                  (try dsimp only at hSw)
                  (first | (go_simp; done) | (go_simp; with_reducible rfl))
                (try simp only [Act.put, List.getElem_toArray, List.getElem_cons_succ, List.getElem_cons_zero, List.setIfInBounds_toArray, List.set_cons_zero, List.set_cons_succ])
                refine wpAnyF_take (i := 11) (oi := _) (v := ?_) rfl (by kernel_rfl) (by kernel_rfl) (by kernel_rfl) (by kernel_rfl) (fun _ _ _ h => h) (Or.inl ⟨by rfl, ?_⟩) (by assumption) ?_
                rotate_left 1
                · intro w hSw
                  (try dsimp only at hSw)
                  (first | (go_simp; done) | (go_simp; with_reducible rfl))
                (try simp only [Act.put, List.getElem_toArray, List.getElem_cons_succ, List.getElem_cons_zero, List.setIfInBounds_toArray, List.set_cons_zero, List.set_cons_succ])
                refine wpAnyF_take (i := 12) (oi := _) (v := ?_) rfl (by kernel_rfl) (by kernel_rfl) (by kernel_rfl) (by kernel_rfl) (fun _ _ _ h => h) (Or.inl ⟨by rfl, ?_⟩) (by assumption) ?_
                rotate_left 1
                · intro w hSw
                  (try dsimp only at hSw)
                  (first | (go_simp; done) | (go_simp; with_reducible rfl))
                (try simp only [Act.put, List.getElem_toArray, List.getElem_cons_succ, List.getElem_cons_zero, List.setIfInBounds_toArray, List.set_cons_zero, List.set_cons_succ])
                refine wpAnyF_take (i := 13) (oi := _) (v := ?_) rfl (by kernel_rfl) (by kernel_rfl) (by kernel_rfl) (by kernel_rfl) (fun _ _ _ h => h) (Or.inl ⟨by rfl, ?_⟩) (by assumption) ?_
                rotate_left 1
                · intro w hSw
                  (try dsimp only at hSw)
                  (first | (go_simp; done) | (go_simp; with_reducible rfl))
                (try simp only [Act.put, List.getElem_toArray, List.getElem_cons_succ, List.getElem_cons_zero, List.setIfInBounds_toArray, List.set_cons_zero, List.set_cons_succ])
                refine wpAnyF_take (i := 14) (oi := _) (v := ?_) rfl (by kernel_rfl) (by kernel_rfl) (by kernel_rfl) (by kernel_rfl) (fun _ _ _ h => h) (Or.inl ⟨by rfl, ?_⟩) (by assumption) ?_
                rotate_left 1
                · intro w hSw
                  (try dsimp only at hSw)
                  (first | (go_simp; done) | (go_simp; with_reducible rfl))
                (try simp only [Act.put, List.getElem_toArray, List.getElem_cons_succ, List.getElem_cons_zero, List.setIfInBounds_toArray, List.set_cons_zero, List.set_cons_succ])
                refine wpAnyF_take (i := 15) (oi := _) (v := ?_) rfl (by kernel_rfl) (by kernel_rfl) (by kernel_rfl) (by kernel_rfl) (fun _ _ _ h => h) (Or.inl ⟨by rfl, ?_⟩) (by assumption) ?_
                rotate_left 1
                · intro w hSw
                  (try dsimp only at hSw)
                  (first | (go_simp; done) | (go_simp; with_reducible rfl))
                (try simp only [Act.put, List.getElem_toArray, List.getElem_cons_succ, List.getElem_cons_zero, List.setIfInBounds_toArray, List.set_cons_zero, List.set_cons_succ])
                refine wpAnyF_take (i := 16) (oi := _) (v := ?_) rfl (by kernel_rfl) (by kernel_rfl) (by kernel_rfl) (by kernel_rfl) (fun _ _ _ h => h) (Or.inl ⟨by rfl, ?_⟩) (by assumption) ?_
                rotate_left 1
                · intro w hSw
                  (try dsimp only at hSw)
                  (first | (go_simp; done) | (go_simp; with_reducible rfl))
                (try simp only [Act.put, List.getElem_toArray, List.getElem_cons_succ, List.getElem_cons_zero, List.setIfInBounds_toArray, List.set_cons_zero, List.set_cons_succ])
                refine wpAnyF_take (i := 17) (oi := _) (v := ?_) rfl (by kernel_rfl) (by kernel_rfl) (by kernel_rfl) (by kernel_rfl) (fun _ _ _ h => h) (Or.inl ⟨by rfl, ?_⟩) (by assumption) ?_
                rotate_left 1
                · intro w hSw
                  (try dsimp only at hSw)
                  (first | (go_simp; done) | (go_simp; with_reducible rfl))
                (try simp only [Act.put, List.getElem_toArray, List.getElem_cons_succ, List.getElem_cons_zero, List.setIfInBounds_toArray, List.set_cons_zero, List.set_cons_succ])
                refine wpAnyF_take (i := 18) (oi := _) (v := ?_) rfl (by kernel_rfl) (by kernel_rfl) (by kernel_rfl) (by kernel_rfl) (fun _ _ _ h => h) (Or.inl ⟨by rfl, ?_⟩) (by assumption) ?_
                rotate_left 1
                · intro w hSw
                  (try dsimp only at hSw)
                  (first | (go_simp; done) | (go_simp; with_reducible rfl))
                (try simp only [Act.put, List.getElem_toArray, List.getElem_cons_succ, List.getElem_cons_zero, List.setIfInBounds_toArray, List.set_cons_zero, List.set_cons_succ])
                refine wpAnyF_take (i := 19) (oi := _) (v := ?_) rfl (by kernel_rfl) (by kernel_rfl) (by kernel_rfl) (by kernel_rfl) (fun _ _ _ h => h) (Or.inl ⟨by rfl, ?_⟩) (by assumption) ?_
                rotate_left 1
                · intro w hSw
                  (try dsimp only at hSw)
                  (first | (go_simp; done) | (go_simp; with_reducible rfl))
                (try simp only [Act.put, List.getElem_toArray, List.getElem_cons_succ, List.getElem_cons_zero, List.setIfInBounds_toArray, List.set_cons_zero, List.set_cons_succ])
                refine wpAnyF_take (i := 20) (oi := _) (v := ?_) rfl (by kernel_rfl) (by kernel_rfl) (by kernel_rfl) (by kernel_rfl) (fun _ _ _ h => h) (Or.inl ⟨by rfl, ?_⟩) (by assumption) ?_
                rotate_left 1
                · intro w hSw
                  (try dsimp only at hSw)
                  (first | (go_simp; done) | (go_simp; with_reducible rfl))
                (try simp only [Act.put, List.getElem_toArray, List.getElem_cons_succ, List.getElem_cons_zero, List.setIfInBounds_toArray, List.set_cons_zero, List.set_cons_succ])
                refine wpAnyF_take (i := 21) (oi := _) (v := ?_) rfl (by kernel_rfl) (by kernel_rfl) (by kernel_rfl) (by kernel_rfl) (fun _ _ _ h => h) (Or.inl ⟨by rfl, ?_⟩) (by assumption) ?_
                rotate_left 1
                · intro w hSw
                  (try dsimp only at hSw)
                  (first | (go_simp; done) | (go_simp; with_reducible rfl))
                (try simp only [Act.put, List.getElem_toArray, List.getElem_cons_succ, List.getElem_cons_zero, List.setIfInBounds_toArray, List.set_cons_zero, List.set_cons_succ])
                refine wpAnyF_take (i := 22) (oi := _) (v := ?_) rfl (by kernel_rfl) (by kernel_rfl) (by kernel_rfl) (by kernel_rfl) (fun _ _ _ h => h) (Or.inl ⟨by rfl, ?_⟩) (by assumption) ?_
                rotate_left 1
                · intro w hSw
                  (try dsimp only at hSw)
                  (first | (go_simp; done) | (go_simp; with_reducible rfl))
                (try simp only [Act.put, List.getElem_toArray, List.getElem_cons_succ, List.getElem_cons_zero, List.setIfInBounds_toArray, List.set_cons_zero, List.set_cons_succ])
                refine wpAnyF_take (i := 23) (oi := _) (v := ?_) rfl (by kernel_rfl) (by kernel_rfl) (by kernel_rfl) (by kernel_rfl) (fun _ _ _ h => h) (Or.inl ⟨by rfl, ?_⟩) (by assumption) ?_
                rotate_left 1
                · intro w hSw
                  (try dsimp only at hSw)
                  (first | (go_simp; done) | (go_simp; with_reducible rfl))
                (try simp only [Act.put, List.getElem_toArray, List.getElem_cons_succ, List.getElem_cons_zero, List.setIfInBounds_toArray, List.set_cons_zero, List.set_cons_succ])
                refine wpAnyF_take (i := 24) (oi := _) (v := ?_) rfl (by kernel_rfl) (by kernel_rfl) (by kernel_rfl) (by kernel_rfl) (fun _ _ _ h => h) (Or.inl ⟨by rfl, ?_⟩) (by assumption) ?_
                rotate_left 1
                · intro w hSw
                  (try dsimp only at hSw)
                  (first | (go_simp; done) | (go_simp; with_reducible rfl))
                (try simp only [Act.put, List.getElem_toArray, List.getElem_cons_succ, List.getElem_cons_zero, List.setIfInBounds_toArray, List.set_cons_zero, List.set_cons_succ])
                refine wpAnyF_take (i := 25) (oi := _) (v := ?_) rfl (by kernel_rfl) (by kernel_rfl) (by kernel_rfl) (by kernel_rfl) (fun _ _ _ h => h) (Or.inl ⟨by rfl, ?_⟩) (by assumption) ?_
                rotate_left 1
                · intro w hSw
                  (try dsimp only at hSw)
                  (first | (go_simp; done) | (go_simp; with_reducible rfl))
                (try simp only [Act.put, List.getElem_toArray, List.getElem_cons_succ, List.getElem_cons_zero, List.setIfInBounds_toArray, List.set_cons_zero, List.set_cons_succ])
                refine wpAnyF_take (i := 26) (oi := _) (v := ?_) rfl (by kernel_rfl) (by kernel_rfl) (by kernel_rfl) (by kernel_rfl) (fun _ _ _ h => h) (Or.inl ⟨by rfl, ?_⟩) (by assumption) ?_
                rotate_left 1
                · intro w hSw
                  (try dsimp only at hSw)
                  (first | (go_simp; done) | (go_simp; with_reducible rfl))
                (try simp only [Act.put, List.getElem_toArray, List.getElem_cons_succ, List.getElem_cons_zero, List.setIfInBounds_toArray, List.set_cons_zero, List.set_cons_succ])
                refine wpAnyF_take (i := 27) (oi := _) (v := ?_) rfl (by kernel_rfl) (by kernel_rfl) (by kernel_rfl) (by kernel_rfl) (fun _ _ _ h => h) (Or.inl ⟨by rfl, ?_⟩) (by assumption) ?_
                rotate_left 1
                · intro w hSw
                  (try dsimp only at hSw)
                  (first | (go_simp; done) | (go_simp; with_reducible rfl))
                (try simp only [Act.put, List.getElem_toArray, List.getElem_cons_succ, List.getElem_cons_zero, List.setIfInBounds_toArray, List.set_cons_zero, List.set_cons_succ])
                refine wpAnyF_take (i := 28) (oi := _) (v := ?_) rfl (by kernel_rfl) (by kernel_rfl) (by kernel_rfl) (by kernel_rfl) (fun _ _ _ h => h) (Or.inl ⟨by rfl, ?_⟩) (by assumption) ?_
                rotate_left 1
                · intro w hSw
                  (try dsimp only at hSw)
                  (first | (go_simp; done) | (go_simp; with_reducible rfl))
                (try simp only [Act.put, List.getElem_toArray, List.getElem_cons_succ, List.getElem_cons_zero, List.setIfInBounds_toArray, List.set_cons_zero, List.set_cons_succ])
                refine wpAnyF_take (i := 29) (oi := _) (v := ?_) rfl (by kernel_rfl) (by kernel_rfl) (by kernel_rfl) (by kernel_rfl) (fun _ _ _ h => h) (Or.inl ⟨by rfl, ?_⟩) (by assumption) ?_
                rotate_left 1
                · intro w hSw
                  (try dsimp only at hSw)
                  (first | (go_simp; done) | (go_simp; with_reducible rfl))
                (try simp only [Act.put, List.getElem_toArray, List.getElem_cons_succ, List.getElem_cons_zero, List.setIfInBounds_toArray, List.set_cons_zero, List.set_cons_succ])
                refine wpAnyF_take (i := 30) (oi := _) (v := ?_) rfl (by kernel_rfl) (by kernel_rfl) (by kernel_rfl) (by kernel_rfl) (fun _ _ _ h => h) (Or.inl ⟨by rfl, ?_⟩) (by assumption) ?_
                rotate_left 1
                · intro w hSw
                  (try dsimp only at hSw)
                  (first | (go_simp; done) | (go_simp; with_reducible rfl))
                (try simp only [Act.put, List.getElem_toArray, List.getElem_cons_succ, List.getElem_cons_zero, List.setIfInBounds_toArray, List.set_cons_zero, List.set_cons_succ])
                refine wpAnyF_ready (rs := [31]) (by kernel_rfl) (by simp) ?_
                refine AllReadyF.last (o := _) rfl (by rfl) (fun K hK => ?_) AllReadyF.nil
                go_simp
                refine hK.out _ _ ?_
                clear hK K
                (try simp only [Act.put, List.getElem_toArray, List.getElem_cons_succ, List.getElem_cons_zero, List.setIfInBounds_toArray, List.set_cons_zero, List.set_cons_succ])
                refine wpAnyF_done (by kernel_rfl) ?_ _
                go_wp2_with fail
                obtain ⟨hVS, hVZ, hV0, hV1, hV2, hV3, hU0, hU1, hU2, hU3⟩ := HVF.out
                generalize hV : ((wr.alloc (.cells #[.int .u8 (p0 : Int), .int .u8 (s2 : Int), .int .u8 (s3 : Int), .int .u8 (s0 : Int)] TyW)).alloc (.cells #[.int .u8 (x0 : Int), .int .u8 (x1 : Int), .int .u8 (x2 : Int), .int .u8 (x3 : Int)] TyW)).drew = V at *
                have HVS := Lib.hid hVS
                have HVZ := Lib.hid hVZ
                clear hVS hVZ hV
                refine wp_region_F (S := (fun W => W.cell? ⟨wr.heap.size, 0, none⟩ = some (.int .u8 (p0 : Int)) ∧ W.cell? ⟨wr.heap.size, 1, none⟩ = some (.int .u8 (s2 : Int)) ∧ W.cell? ⟨wr.heap.size, 2, none⟩ = some (.int .u8 (s3 : Int)) ∧ W.cell? ⟨wr.heap.size, 3, none⟩ = some (.int .u8 (s0 : Int)) ∧ W.cell? ⟨wr.heap.size + 1, 0, none⟩ = some (.int .u8 (x0 : Int)) ∧ W.cell? ⟨wr.heap.size + 1, 1, none⟩ = some (.int .u8 (x1 : Int)) ∧ W.cell? ⟨wr.heap.size + 1, 2, none⟩ = some (.int .u8 (x2 : Int)) ∧ W.cell? ⟨wr.heap.size + 1, 3, none⟩ = some (.int .u8 (x3 : Int)) ∧ W.cell? ⟨w.heap.size, 512, none⟩ = some (.slice (some ⟨bw, 0, none⟩) i cap))) [30] (by kernel_rfl) (⟨hV0, hV1, hV2, hV3, hU0, hU1, hU2, hU3, HVS.out.words⟩) (fun hHeld => ?_)
                refine wpAnyF_take (i := 0) (oi := _) (v := ?_) rfl (by kernel_rfl) (by kernel_rfl) (by kernel_rfl) (by kernel_rfl) (fun _ _ _ h => h) (Or.inl ⟨by rfl, ?_⟩) (by assumption) ?_
                rotate_left 1
                · intro w hSw
                  (try dsimp only at hSw)
                  (first | (go_simp; done) | (go_simp; with_reducible rfl))
                (try simp only [Act.put, List.getElem_toArray, List.getElem_cons_succ, List.getElem_cons_zero, List.setIfInBounds_toArray, List.set_cons_zero, List.set_cons_succ])
                refine wpAnyF_take (i := 1) (oi := _) (v := ?_) rfl (by kernel_rfl) (by kernel_rfl) (by kernel_rfl) (by kernel_rfl) (fun _ _ _ h => h) (Or.inl ⟨by rfl, ?_⟩) (by assumption) ?_
                rotate_left 1
                · intro w hSw
                  (try dsimp only at hSw)
                  (first | (go_simp; done) | (go_simp; with_reducible rfl))
                (try simp only [Act.put, List.getElem_toArray, List.getElem_cons_succ, List.getElem_cons_zero, List.setIfInBounds_toArray, List.set_cons_zero, List.set_cons_succ])
                refine wpAnyF_take (i := 2) (oi := _) (v := ?_) rfl (by kernel_rfl) (by kernel_rfl) (by kernel_rfl) (by kernel_rfl) (fun _ _ _ h => h) (Or.inl ⟨by rfl, ?_⟩) (by assumption) ?_
                rotate_left 1
                · intro w hSw
                  (try dsimp only at hSw)
                  (first | (go_simp; done) | (go_simp; with_reducible rfl))
                (try simp only [Act.put, List.getElem_toArray, List.getElem_cons_succ, List.getElem_cons_zero, List.setIfInBounds_toArray, List.set_cons_zero, List.set_cons_succ])
                refine wpAnyF_take (i := 3) (oi := _) (v := ?_) rfl (by kernel_rfl) (by kernel_rfl) (by kernel_rfl) (by kernel_rfl) (fun _ _ _ h => h) (Or.inl ⟨by rfl, ?_⟩) (by assumption) ?_
                rotate_left 1
                · intro w hSw
                  (try dsimp only at hSw)
                  (first | (go_simp; done) | (go_simp; with_reducible rfl))
                (try simp only [Act.put, List.getElem_toArray, List.getElem_cons_succ, List.getElem_cons_zero, List.setIfInBounds_toArray, List.set_cons_zero, List.set_cons_succ])
                refine wpAnyF_take (i := 4) (oi := _) (v := ?_) rfl (by kernel_rfl) (by kernel_rfl) (by kernel_rfl) (by kernel_rfl) (fun _ _ _ h => h) (Or.inl ⟨by rfl, ?_⟩) (by assumption) ?_
                rotate_left 1
                · intro w hSw
                  (try dsimp only at hSw)
                  (first | (go_simp; done) | (go_simp; with_reducible rfl))
                (try simp only [Act.put, List.getElem_toArray, List.getElem_cons_succ, List.getElem_cons_zero, List.setIfInBounds_toArray, List.set_cons_zero, List.set_cons_succ])
                refine wpAnyF_take (i := 5) (oi := _) (v := ?_) rfl (by kernel_rfl) (by kernel_rfl) (by kernel_rfl) (by kernel_rfl) (fun _ _ _ h => h) (Or.inl ⟨by rfl, ?_⟩) (by assumption) ?_
                rotate_left 1
                · intro w hSw
                  (try dsimp only at hSw)
                  (first | (go_simp; done) | (go_simp; with_reducible rfl))
                (try simp only [Act.put, List.getElem_toArray, List.getElem_cons_succ, List.getElem_cons_zero, List.setIfInBounds_toArray, List.set_cons_zero, List.set_cons_succ])
                refine wpAnyF_take (i := 6) (oi := _) (v := ?_) rfl (by kernel_rfl) (by kernel_rfl) (by kernel_rfl) (by kernel_rfl) (fun _ _ _ h => h) (Or.inl ⟨by rfl, ?_⟩) (by assumption) ?_
                rotate_left 1
                · intro w hSw
                  (try dsimp only at hSw)
                  (first | (go_simp; done) | (go_simp; with_reducible rfl))
                (try simp only [Act.put, List.getElem_toArray, List.getElem_cons_succ, List.getElem_cons_zero, List.setIfInBounds_toArray, List.set_cons_zero, List.set_cons_succ])
                refine wpAnyF_take (i := 7) (oi := _) (v := ?_) rfl (by kernel_rfl) (by kernel_rfl) (by kernel_rfl) (by kernel_rfl) (fun _ _ _ h => h) (Or.inl ⟨by rfl, ?_⟩) (by assumption) ?_
                rotate_left 1
                · intro w hSw
                  (try dsimp only at hSw)
                  (first | (go_simp; done) | (go_simp; with_reducible rfl))
                (try simp only [Act.put, List.getElem_toArray, List.getElem_cons_succ, List.getElem_cons_zero, List.setIfInBounds_toArray, List.set_cons_zero, List.set_cons_succ])
                refine wpAnyF_take (i := 8) (oi := _) (v := ?_) rfl (by kernel_rfl) (by kernel_rfl) (by kernel_rfl) (by kernel_rfl) (fun _ _ _ h => h) (Or.inl ⟨by rfl, ?_⟩) (by assumption) ?_
                rotate_left 1
                · intro w hSw
                  (try dsimp only at hSw)
                  (first | (go_simp; done) | (go_simp; with_reducible rfl))
                (try simp only [Act.put, List.getElem_toArray, List.getElem_cons_succ, List.getElem_cons_zero, List.setIfInBounds_toArray, List.set_cons_zero, List.set_cons_succ])
                refine wpAnyF_take (i := 9) (oi := _) (v := ?_) rfl (by kernel_rfl) (by kernel_rfl) (by kernel_rfl) (by kernel_rfl) (fun _ _ _ h => h) (Or.inl ⟨by rfl, ?_⟩) (by assumption) ?_
                rotate_left 1
                · intro w hSw
                  (try dsimp only at hSw)
                  (first | (go_simp; done) | (go_simp; with_reducible rfl))
                (try simp only [Act.put, List.getElem_toArray, List.getElem_cons_succ, List.getElem_cons_zero, List.setIfInBounds_toArray, List.set_cons_zero, List.set_cons_succ])
                refine wpAnyF_take (i := 10) (oi := _) (v := ?_) rfl (by kernel_rfl) (by kernel_rfl) (by kernel_rfl) (by kernel_rfl) (fun _ _ _ h => h) (Or.inl ⟨by rfl, ?_⟩) (by assumption) ?_
                rotate_left 1
                · intro w hSw
                  (try dsimp only at hSw)
                  (first | (go_simp; done) | (go_simp; with_reducible rfl))
                (try simp only [Act.put, List.getElem_toArray, List.getElem_cons_succ, List.getElem_cons_zero, List.setIfInBounds_toArray, List.set_cons_zero, List.set_cons_succ])
                refine wpAnyF_take (i := 11) (oi := _) (v := ?_) rfl (by kernel_rfl) (by kernel_rfl) (by kernel_rfl) (by kernel_rfl) (fun _ _ _ h => h) (Or.inl ⟨by rfl, ?_⟩) (by assumption) ?_
                rotate_left 1
                · intro w hSw
                  (try dsimp only at hSw)
                  (first | (go_simp; done) | (go_simp; with_reducible rfl))
                (try simp only [Act.put, List.getElem_toArray, List.getElem_cons_succ, List.getElem_cons_zero, List.setIfInBounds_toArray, List.set_cons_zero, List.set_cons_succ])
                refine wpAnyF_take (i := 12) (oi := _) (v := ?_) rfl (by kernel_rfl) (by kernel_rfl) (by kernel_rfl) (by kernel_rfl) (fun _ _ _ h => h) (Or.inl ⟨by rfl, ?_⟩) (by assumption) ?_
                rotate_left 1
                · intro w hSw
                  (try dsimp only at hSw)
                  (first | (go_simp; done) | (go_simp; with_reducible rfl))
                (try simp only [Act.put, List.getElem_toArray, List.getElem_cons_succ, List.getElem_cons_zero, List.setIfInBounds_toArray, List.set_cons_zero, List.set_cons_succ])
                refine wpAnyF_take (i := 13) (oi := _) (v := ?_) rfl (by kernel_rfl) (by kernel_rfl) (by kernel_rfl) (by kernel_rfl) (fun _ _ _ h => h) (Or.inl ⟨by rfl, ?_⟩) (by assumption) ?_
                rotate_left 1
                · intro w hSw
                  (try dsimp only at hSw)
                  (first | (go_simp; done) | (go_simp; with_reducible rfl))
                (try simp only [Act.put, List.getElem_toArray, List.getElem_cons_succ, List.getElem_cons_zero, List.setIfInBounds_toArray, List.set_cons_zero, List.set_cons_succ])
                refine wpAnyF_take (i := 14) (oi := _) (v := ?_) rfl (by kernel_rfl) (by kernel_rfl) (by kernel_rfl) (by kernel_rfl) (fun _ _ _ h => h) (Or.inl ⟨by rfl, ?_⟩) (by assumption) ?_
                rotate_left 1
                · intro w hSw
                  (try dsimp only at hSw)
                  (first | (go_simp; done) | (go_simp; with_reducible rfl))
                (try simp only [Act.put, List.getElem_toArray, List.getElem_cons_succ, List.getElem_cons_zero, List.setIfInBounds_toArray, List.set_cons_zero, List.set_cons_succ])
                refine wpAnyF_take (i := 15) (oi := _) (v := ?_) rfl (by kernel_rfl) (by kernel_rfl) (by kernel_rfl) (by kernel_rfl) (fun _ _ _ h => h) (Or.inl ⟨by rfl, ?_⟩) (by assumption) ?_
                rotate_left 1
                · intro w hSw
                  (try dsimp only at hSw)
                  (first | (go_simp; done) | (go_simp; with_reducible rfl))
                (try simp only [Act.put, List.getElem_toArray, List.getElem_cons_succ, List.getElem_cons_zero, List.setIfInBounds_toArray, List.set_cons_zero, List.set_cons_succ])
                refine wpAnyF_take (i := 16) (oi := _) (v := ?_) rfl (by kernel_rfl) (by kernel_rfl) (by kernel_rfl) (by kernel_rfl) (fun _ _ _ h => h) (Or.inl ⟨by rfl, ?_⟩) (by assumption) ?_
                rotate_left 1
                · intro w hSw
                  (try dsimp only at hSw)
                  (first | (go_simp; done) | (go_simp; with_reducible rfl))
                (try simp only [Act.put, List.getElem_toArray, List.getElem_cons_succ, List.getElem_cons_zero, List.setIfInBounds_toArray, List.set_cons_zero, List.set_cons_succ])
                refine wpAnyF_take (i := 17) (oi := _) (v := ?_) rfl (by kernel_rfl) (by kernel_rfl) (by kernel_rfl) (by kernel_rfl) (fun _ _ _ h => h) (Or.inl ⟨by rfl, ?_⟩) (by assumption) ?_
                rotate_left 1
                · intro w hSw
                  (try dsimp only at hSw)
                  (first | (go_simp; done) | (go_simp; with_reducible rfl))
                (try simp only [Act.put, List.getElem_toArray, List.getElem_cons_succ, List.getElem_cons_zero, List.setIfInBounds_toArray, List.set_cons_zero, List.set_cons_succ])
                refine wpAnyF_take (i := 18) (oi := _) (v := ?_) rfl (by kernel_rfl) (by kernel_rfl) (by kernel_rfl) (by kernel_rfl) (fun _ _ _ h => h) (Or.inl ⟨by rfl, ?_⟩) (by assumption) ?_
                rotate_left 1
                · intro w hSw
                  (try dsimp only at hSw)
                  (first | (go_simp; done) | (go_simp; with_reducible rfl))
                (try simp only [Act.put, List.getElem_toArray, List.getElem_cons_succ, List.getElem_cons_zero, List.setIfInBounds_toArray, List.set_cons_zero, List.set_cons_succ])
                refine wpAnyF_take (i := 19) (oi := _) (v := ?_) rfl (by kernel_rfl) (by kernel_rfl) (by kernel_rfl) (by kernel_rfl) (fun _ _ _ h => h) (Or.inl ⟨by rfl, ?_⟩) (by assumption) ?_
                rotate_left 1
                · intro w hSw
                  (try dsimp only at hSw)
                  (first | (go_simp; done) | (go_simp; with_reducible rfl))
                (try simp only [Act.put, List.getElem_toArray, List.getElem_cons_succ, List.getElem_cons_zero, List.setIfInBounds_toArray, List.set_cons_zero, List.set_cons_succ])
                refine wpAnyF_take (i := 20) (oi := _) (v := ?_) rfl (by kernel_rfl) (by kernel_rfl) (by kernel_rfl) (by kernel_rfl) (fun _ _ _ h => h) (Or.inl ⟨by rfl, ?_⟩) (by assumption) ?_
                rotate_left 1
                · intro w hSw
                  (try dsimp only at hSw)
                  (first | (go_simp; done) | (go_simp; with_reducible rfl))
                (try simp only [Act.put, List.getElem_toArray, List.getElem_cons_succ, List.getElem_cons_zero, List.setIfInBounds_toArray, List.set_cons_zero, List.set_cons_succ])
                refine wpAnyF_take (i := 21) (oi := _) (v := ?_) rfl (by kernel_rfl) (by kernel_rfl) (by kernel_rfl) (by kernel_rfl) (fun _ _ _ h => h) (Or.inl ⟨by rfl, ?_⟩) (by assumption) ?_
                rotate_left 1
                · intro w hSw
                  (try dsimp only at hSw)
                  (first | (go_simp; done) | (go_simp; with_reducible rfl))
                (try simp only [Act.put, List.getElem_toArray, List.getElem_cons_succ, List.getElem_cons_zero, List.setIfInBounds_toArray, List.set_cons_zero, List.set_cons_succ])
                refine wpAnyF_take (i := 22) (oi := _) (v := ?_) rfl (by kernel_rfl) (by kernel_rfl) (by kernel_rfl) (by kernel_rfl) (fun _ _ _ h => h) (Or.inl ⟨by rfl, ?_⟩) (by assumption) ?_
                rotate_left 1
                · intro w hSw
                  (try dsimp only at hSw)
                  (first | (go_simp; done) | (go_simp; with_reducible rfl))
                (try simp only [Act.put, List.getElem_toArray, List.getElem_cons_succ, List.getElem_cons_zero, List.setIfInBounds_toArray, List.set_cons_zero, List.set_cons_succ])
                refine wpAnyF_take (i := 23) (oi := _) (v := ?_) rfl (by kernel_rfl) (by kernel_rfl) (by kernel_rfl) (by kernel_rfl) (fun _ _ _ h => h) (Or.inl ⟨by rfl, ?_⟩) (by assumption) ?_
                rotate_left 1
                · intro w hSw
                  (try dsimp only at hSw)
                  (first | (go_simp; done) | (go_simp; with_reducible rfl))
                (try simp only [Act.put, List.getElem_toArray, List.getElem_cons_succ, List.getElem_cons_zero, List.setIfInBounds_toArray, List.set_cons_zero, List.set_cons_succ])
                refine wpAnyF_take (i := 24) (oi := _) (v := ?_) rfl (by kernel_rfl) (by kernel_rfl) (by kernel_rfl) (by kernel_rfl) (fun _ _ _ h => h) (Or.inl ⟨by rfl, ?_⟩) (by assumption) ?_
                rotate_left 1
                · intro w hSw
                  (try dsimp only at hSw)
                  (first | (go_simp; done) | (go_simp; with_reducible rfl))
                (try simp only [Act.put, List.getElem_toArray, List.getElem_cons_succ, List.getElem_cons_zero, List.setIfInBounds_toArray, List.set_cons_zero, List.set_cons_succ])
                refine wpAnyF_take (i := 25) (oi := _) (v := ?_) rfl (by kernel_rfl) (by kernel_rfl) (by kernel_rfl) (by kernel_rfl) (fun _ _ _ h => h) (Or.inl ⟨by rfl, ?_⟩) (by assumption) ?_
                rotate_left 1
                · intro w hSw
                  (try dsimp only at hSw)
                  (first | (go_simp; done) | (go_simp; with_reducible rfl))
                (try simp only [Act.put, List.getElem_toArray, List.getElem_cons_succ, List.getElem_cons_zero, List.setIfInBounds_toArray, List.set_cons_zero, List.set_cons_succ])
                have hS1 := HVS.out.drew.alloc (.cells #[.int .u8 (e0 : Int), .int .u8 (e1 : Int), .int .u8 (e2 : Int), .int .u8 (e3 : Int)] TyW)
                have HS1' := Lib.hid hS1
                have HC1 : Hid (∀ p : Addr, p.block < V.heap.size → (V.drew.alloc (.cells #[.int .u8 (e0 : Int), .int .u8 (e1 : Int), .int .u8 (e2 : Int), .int .u8 (e3 : Int)] TyW)).cell? p = V.cell? p) := Lib.hid (fun p hp => World.cell?_alloc_lt V.drew _ p hp)
                clear hS1
                refine wpAnyF_ready (rs := [26]) (by kernel_rfl) (by simp) ?_
                refine AllReadyF.cons (o := _) rfl (fun K hK => ?_) AllReadyF.nil
                go_simp
                refine hK.out _ _ (⟨(HC1.out _ (by have := HVZ.out; show wr.heap.size < V.heap.size; omega)).trans hV0, (HC1.out _ (by have := HVZ.out; show wr.heap.size < V.heap.size; omega)).trans hV1, (HC1.out _ (by have := HVZ.out; show wr.heap.size < V.heap.size; omega)).trans hV2, (HC1.out _ (by have := HVZ.out; show wr.heap.size < V.heap.size; omega)).trans hV3, (HC1.out _ (by have := HVZ.out; show wr.heap.size + 1 < V.heap.size; omega)).trans hU0, (HC1.out _ (by have := HVZ.out; show wr.heap.size + 1 < V.heap.size; omega)).trans hU1, (HC1.out _ (by have := HVZ.out; show wr.heap.size + 1 < V.heap.size; omega)).trans hU2, (HC1.out _ (by have := HVZ.out; show wr.heap.size + 1 < V.heap.size; omega)).trans hU3, HS1'.out.words⟩) (fun hHeld26 => ?_)
                clear hK K
                (try simp only [Act.put, List.getElem_toArray, List.getElem_cons_succ, List.getElem_cons_zero, List.setIfInBounds_toArray, List.set_cons_zero, List.set_cons_succ])
                have HOW := Lib.hid HS1'.out.own
                have HNW : Hid (∀ j u, (bvals [e0, e1, e2, e3])[j]? = some u → (V.drew.alloc (.cells #[.int .u8 (e0 : Int), .int .u8 (e1 : Int), .int .u8 (e2 : Int), .int .u8 (e3 : Int)] TyW)).cell? ((⟨V.heap.size, 0, none⟩ : Addr).add j) = some u) := Lib.hid (World.news_of_block (cs := (bvals [e0, e1, e2, e3]).toArray) (t := TyW) (fr := (0, 0)) (by exact heap_alloc_new V _))
                have HSZ : Hid (w.heap.size + 1 ≤ (V.drew.alloc (.cells #[.int .u8 (e0 : Int), .int .u8 (e1 : Int), .int .u8 (e2 : Int), .int .u8 (e3 : Int)] TyW)).heap.size) := Lib.hid (by have := HVS.out.below.size; simp; omega)
                have HSE : Hid ((V.drew.alloc (.cells #[.int .u8 (e0 : Int), .int .u8 (e1 : Int), .int .u8 (e2 : Int), .int .u8 (e3 : Int)] TyW)).heap.size = V.heap.size + 1) := Lib.hid (by simp)
                refine wpAnyF_ready (rs := [27]) (by kernel_rfl) (by simp) ?_
                refine AllReadyF.cons (o := _) rfl (fun K hK => ?_) AllReadyF.nil
                refine step_append_lies _ (by rfl) (.tmp 187) (.tmp 209) 38 (by rfl) (w.heap.size + 1) TyW i0 _ 4 4 Try.underlying38 hi0 hz0 hz1 hz2 rfl (by omega) (.slice (some ⟨bw, 0, none⟩) i cap) i (bvals ks) (by rfl) (by exact HOW.out) ⟨V.heap.size, 0, none⟩ 1 1 (bvals [e0, e1, e2, e3]) (by rfl) (by rfl) (by exact HNW.out) (bvals_one _) (by omega) (by unfold maxLen; omega) (by omega) (by exact HSZ.out) (V.heap.size + 1) (by exact HSE.out) ?_
                intro gg cap3 w3 hown3 hgrow3 hat3 hlt3
                have HEND : Hid (RefS w w.heap.size (twF 256) (.slice (some ⟨gg, 0, none⟩) (i + 1) cap3) ((n : Int) + 6) (i + 1) (Aes.sch Gf.sub key n (i + 1)) (w3.setCell ⟨w.heap.size, 512, none⟩ (.slice (some ⟨gg, 0, none⟩) (i + 1) cap3))) := Lib.hid (HS1'.out.grow hgrow3 (by rw [HKS.out, show bvals (ks ++ [e0, e1, e2, e3]) = bvals ks ++ bvals [e0, e1, e2, e3] by simp [bvals]]; exact hown3))
                have hG : ∀ (p : Addr), p.block < V.heap.size → p.block ≠ bw → w3.cell? p = (V.drew.alloc (.cells #[.int .u8 (e0 : Int), .int .u8 (e1 : Int), .int .u8 (e2 : Int), .int .u8 (e3 : Int)] TyW)).cell? p := fun p hp hne => hgrow3.cell_far p (by simp; omega) (fun e => hne (by simpa [Value.ownBlock] using e))
                have f512 : w3.frozen? ⟨w.heap.size, 512, none⟩ = false := (HS1'.out.grown_frozen hgrow3 (Nat.le_refl _)).trans (HS1'.out.frozen (by omega))
                have hk3 := hHeld26
                have hz9 : wr.heap.size < V.heap.size := by rw [HVZ.out]; omega
                have hz10 : wr.heap.size + 1 < V.heap.size := by rw [HVZ.out]; omega
                have hz0 : w.heap.size < V.heap.size := by rw [HVZ.out]; omega
                have hn9 : wr.heap.size ≠ bw := by omega
                have hn10 : wr.heap.size + 1 ≠ bw := by omega
                have hn0 : w.heap.size ≠ bw := by omega
                refine hK.out _ _ (⟨(hG _ hz9 hn9).trans hk3.1, (hG _ hz9 hn9).trans hk3.2.1, (hG _ hz9 hn9).trans hk3.2.2.1, (hG _ hz9 hn9).trans hk3.2.2.2.1, (hG _ hz10 hn10).trans hk3.2.2.2.2.1, (hG _ hz10 hn10).trans hk3.2.2.2.2.2.1, (hG _ hz10 hn10).trans hk3.2.2.2.2.2.2.1, (hG _ hz10 hn10).trans hk3.2.2.2.2.2.2.2.1, (hG _ hz0 hn0).trans hk3.2.2.2.2.2.2.2.2⟩) (fun hHeld27 => ?_)
                clear hK K
                (try simp only [Act.put, List.getElem_toArray, List.getElem_cons_succ, List.getElem_cons_zero, List.setIfInBounds_toArray, List.set_cons_zero, List.set_cons_succ])
                clear hG hz9 hz10 hz0 hn9 hn10 hn0 hk3
                refine wpAnyF_ready (rs := [28]) (by kernel_rfl) (by simp) ?_
                refine AllReadyF.cons (o := _) rfl (fun K hK => ?_) AllReadyF.nil
                go_simp
                refine hK.out _ _ (hHeld27) (fun hHeld28 => ?_)
                clear hK K
                (try simp only [Act.put, List.getElem_toArray, List.getElem_cons_succ, List.getElem_cons_zero, List.setIfInBounds_toArray, List.set_cons_zero, List.set_cons_succ])
                refine wpAnyF_ready (rs := [29]) (by kernel_rfl) (by simp) ?_
                refine AllReadyF.cons (o := _) rfl (fun K hK => ?_) AllReadyF.nil
                go_simp
                refine hK.out _ _ (hHeld27) (fun hHeld29 => ?_)
                clear hK K
                (try simp only [Act.put, List.getElem_toArray, List.getElem_cons_succ, List.getElem_cons_zero, List.setIfInBounds_toArray, List.set_cons_zero, List.set_cons_succ])
                have c512 := hHeld27.2.2.2.2.2.2.2.2
                refine wpAnyF_ready (rs := [30]) (by kernel_rfl) (by simp) ?_
                refine AllReadyF.last (o := _) rfl (by rfl) (fun K hK => ?_) AllReadyF.nil
                go_simp
                refine hK.out _ _ ?_
                clear hK K
                (try simp only [Act.put, List.getElem_toArray, List.getElem_cons_succ, List.getElem_cons_zero, List.setIfInBounds_toArray, List.set_cons_zero, List.set_cons_succ])
                refine wpAnyF_done (by kernel_rfl) ?_ _
                go_wp2
                go_roundw
                case rel => exact ⟨i + 1, _, (by rw [HPN.out]), rfl, by omega, by omega, HEND.out⟩
                case measure => simp [intOf]; omega
              · by_cases h8 : n = 8
                · by_cases h4 : i % 8 = 4
                  · obtain ⟨s0, hs0⟩ : ∃ z, z = Gf.sub y0 := ⟨_, rfl⟩
                    have bs0 : s0 < 256 := by rw [hs0]; exact Gf.sub_lt by0
                    have cs0 : ∀ o, (wr.alloc o).cell? ⟨w.heap.size, y0, none⟩ = some (.int .u8 (s0 : Int)) := fun o => by rw [hs0]; exact (hS.alloc o).box by0
                    have ls0 : (y0 : Int) < 256 := by omega
                    have zs0 : 0 ≤ (y0 : Int) := by omega
                    obtain ⟨s1, hs1⟩ : ∃ z, z = Gf.sub y1 := ⟨_, rfl⟩
                    have bs1 : s1 < 256 := by rw [hs1]; exact Gf.sub_lt by1
                    have cs1 : ∀ o, (wr.alloc o).cell? ⟨w.heap.size, y1, none⟩ = some (.int .u8 (s1 : Int)) := fun o => by rw [hs1]; exact (hS.alloc o).box by1
                    have ls1 : (y1 : Int) < 256 := by omega
                    have zs1 : 0 ≤ (y1 : Int) := by omega
                    obtain ⟨s2, hs2⟩ : ∃ z, z = Gf.sub y2 := ⟨_, rfl⟩
                    have bs2 : s2 < 256 := by rw [hs2]; exact Gf.sub_lt by2
                    have cs2 : ∀ o, (wr.alloc o).cell? ⟨w.heap.size, y2, none⟩ = some (.int .u8 (s2 : Int)) := fun o => by rw [hs2]; exact (hS.alloc o).box by2
                    have ls2 : (y2 : Int) < 256 := by omega
                    have zs2 : 0 ≤ (y2 : Int) := by omega
                    obtain ⟨s3, hs3⟩ : ∃ z, z = Gf.sub y3 := ⟨_, rfl⟩
                    have bs3 : s3 < 256 := by rw [hs3]; exact Gf.sub_lt by3
                    have cs3 : ∀ o, (wr.alloc o).cell? ⟨w.heap.size, y3, none⟩ = some (.int .u8 (s3 : Int)) := fun o => by rw [hs3]; exact (hS.alloc o).box by3
                    have ls3 : (y3 : Int) < 256 := by omega
                    have zs3 : 0 ≤ (y3 : Int) := by omega
                    have m0 : ((i : Int) % (n : Int) == 0) = false := by rw [beq_eq_false_iff_ne, ← Int.natCast_emod]; intro h; exact h0 (by exact_mod_cast h)
                    have m8 : ((n : Int) == 8) = true := by rw [h8]; rfl
                    have m4 : (i : Int) % 8 = 4 := by omega
                    have HPN : Hid (Gf.pw 2 ((i + 1 - 1) / n) = P) := Lib.hid (by rw [Nat.add_sub_cancel, hP, pow_same h0 (by omega)])
                    obtain ⟨e0, he0⟩ : ∃ e, e = x0 ^^^ s0 := ⟨_, rfl⟩
                    have hxe0 : bits BinOp.xor IntKind.u8 (x0 : Int) (s0 : Int) = (e0 : Int) := by rw [he0]; exact xor8 bx0 bs0
                    obtain ⟨e1, he1⟩ : ∃ e, e = x1 ^^^ s1 := ⟨_, rfl⟩
                    have hxe1 : bits BinOp.xor IntKind.u8 (x1 : Int) (s1 : Int) = (e1 : Int) := by rw [he1]; exact xor8 bx1 bs1
                    obtain ⟨e2, he2⟩ : ∃ e, e = x2 ^^^ s2 := ⟨_, rfl⟩
                    have hxe2 : bits BinOp.xor IntKind.u8 (x2 : Int) (s2 : Int) = (e2 : Int) := by rw [he2]; exact xor8 bx2 bs2
                    obtain ⟨e3, he3⟩ : ∃ e, e = x3 ^^^ s3 := ⟨_, rfl⟩
                    have hxe3 : bits BinOp.xor IntKind.u8 (x3 : Int) (s3 : Int) = (e3 : Int) := by rw [he3]; exact xor8 bx3 bs3
                    have HKS : Hid (Aes.sch Gf.sub key n (i + 1) = ks ++ [e0, e1, e2, e3]) := Lib.hid (by rw [hsch, (show bv n ks i 0 = s0 by unfold bv; rw [if_neg h0, if_pos ⟨h8, h4⟩, ← hj, hs0, hy0]), (show bv n ks i 1 = s1 by unfold bv; rw [if_neg h0, if_pos ⟨h8, h4⟩, ← hj, hs1, hy1]), (show bv n ks i 2 = s2 by unfold bv; rw [if_neg h0, if_pos ⟨h8, h4⟩, ← hj, hs2, hy2]), (show bv n ks i 3 = s3 by unfold bv; rw [if_neg h0, if_pos ⟨h8, h4⟩, ← hj, hs3, hy3]), ← hk, ← hx0, ← hx1, ← hx2, ← hx3, he0, he1, he2, he3])
                    have hVS : RefS w w.heap.size (twF 256) (.slice (some ⟨bw, 0, none⟩) i cap) ((n : Int) + 6) i ks (((wr.alloc (.cells #[.int .u8 (s0 : Int), .int .u8 (s1 : Int), .int .u8 (s2 : Int), .int .u8 (s3 : Int)] TyW)).alloc (.cells #[.int .u8 (x0 : Int), .int .u8 (x1 : Int), .int .u8 (x2 : Int), .int .u8 (x3 : Int)] TyW)).drew) := ((hS.alloc (.cells #[.int .u8 (s0 : Int), .int .u8 (s1 : Int), .int .u8 (s2 : Int), .int .u8 (s3 : Int)] TyW)).alloc (.cells #[.int .u8 (x0 : Int), .int .u8 (x1 : Int), .int .u8 (x2 : Int), .int .u8 (x3 : Int)] TyW)).drew
                    have hVZ : (((wr.alloc (.cells #[.int .u8 (s0 : Int), .int .u8 (s1 : Int), .int .u8 (s2 : Int), .int .u8 (s3 : Int)] TyW)).alloc (.cells #[.int .u8 (x0 : Int), .int .u8 (x1 : Int), .int .u8 (x2 : Int), .int .u8 (x3 : Int)] TyW)).drew).heap.size = wr.heap.size + 1 + 1 := by simp
                    have hBQ := (two_blocks wr #[.int .u8 (s0 : Int), .int .u8 (s1 : Int), .int .u8 (s2 : Int), .int .u8 (s3 : Int)] #[.int .u8 (x0 : Int), .int .u8 (x1 : Int), .int .u8 (x2 : Int), .int .u8 (x3 : Int)] TyW).1
                    have hBX := (two_blocks wr #[.int .u8 (s0 : Int), .int .u8 (s1 : Int), .int .u8 (s2 : Int), .int .u8 (s3 : Int)] #[.int .u8 (x0 : Int), .int .u8 (x1 : Int), .int .u8 (x2 : Int), .int .u8 (x3 : Int)] TyW).2
                    have hV0 : (((wr.alloc (.cells #[.int .u8 (s0 : Int), .int .u8 (s1 : Int), .int .u8 (s2 : Int), .int .u8 (s3 : Int)] TyW)).alloc (.cells #[.int .u8 (x0 : Int), .int .u8 (x1 : Int), .int .u8 (x2 : Int), .int .u8 (x3 : Int)] TyW)).drew).cell? ⟨wr.heap.size, 0, none⟩ = some (.int .u8 (s0 : Int)) := blk_cell hBQ 0
                    have hU0 : (((wr.alloc (.cells #[.int .u8 (s0 : Int), .int .u8 (s1 : Int), .int .u8 (s2 : Int), .int .u8 (s3 : Int)] TyW)).alloc (.cells #[.int .u8 (x0 : Int), .int .u8 (x1 : Int), .int .u8 (x2 : Int), .int .u8 (x3 : Int)] TyW)).drew).cell? ⟨wr.heap.size + 1, 0, none⟩ = some (.int .u8 (x0 : Int)) := blk_cell hBX 0
                    have hV1 : (((wr.alloc (.cells #[.int .u8 (s0 : Int), .int .u8 (s1 : Int), .int .u8 (s2 : Int), .int .u8 (s3 : Int)] TyW)).alloc (.cells #[.int .u8 (x0 : Int), .int .u8 (x1 : Int), .int .u8 (x2 : Int), .int .u8 (x3 : Int)] TyW)).drew).cell? ⟨wr.heap.size, 1, none⟩ = some (.int .u8 (s1 : Int)) := blk_cell hBQ 1
                    have hU1 : (((wr.alloc (.cells #[.int .u8 (s0 : Int), .int .u8 (s1 : Int), .int .u8 (s2 : Int), .int .u8 (s3 : Int)] TyW)).alloc (.cells #[.int .u8 (x0 : Int), .int .u8 (x1 : Int), .int .u8 (x2 : Int), .int .u8 (x3 : Int)] TyW)).drew).cell? ⟨wr.heap.size + 1, 1, none⟩ = some (.int .u8 (x1 : Int)) := blk_cell hBX 1
                    have hV2 : (((wr.alloc (.cells #[.int .u8 (s0 : Int), .int .u8 (s1 : Int), .int .u8 (s2 : Int), .int .u8 (s3 : Int)] TyW)).alloc (.cells #[.int .u8 (x0 : Int), .int .u8 (x1 : Int), .int .u8 (x2 : Int), .int .u8 (x3 : Int)] TyW)).drew).cell? ⟨wr.heap.size, 2, none⟩ = some (.int .u8 (s2 : Int)) := blk_cell hBQ 2
                    have hU2 : (((wr.alloc (.cells #[.int .u8 (s0 : Int), .int .u8 (s1 : Int), .int .u8 (s2 : Int), .int .u8 (s3 : Int)] TyW)).alloc (.cells #[.int .u8 (x0 : Int), .int .u8 (x1 : Int), .int .u8 (x2 : Int), .int .u8 (x3 : Int)] TyW)).drew).cell? ⟨wr.heap.size + 1, 2, none⟩ = some (.int .u8 (x2 : Int)) := blk_cell hBX 2
                    have hV3 : (((wr.alloc (.cells #[.int .u8 (s0 : Int), .int .u8 (s1 : Int), .int .u8 (s2 : Int), .int .u8 (s3 : Int)] TyW)).alloc (.cells #[.int .u8 (x0 : Int), .int .u8 (x1 : Int), .int .u8 (x2 : Int), .int .u8 (x3 : Int)] TyW)).drew).cell? ⟨wr.heap.size, 3, none⟩ = some (.int .u8 (s3 : Int)) := blk_cell hBQ 3
                    have hU3 : (((wr.alloc (.cells #[.int .u8 (s0 : Int), .int .u8 (s1 : Int), .int .u8 (s2 : Int), .int .u8 (s3 : Int)] TyW)).alloc (.cells #[.int .u8 (x0 : Int), .int .u8 (x1 : Int), .int .u8 (x2 : Int), .int .u8 (x3 : Int)] TyW)).drew).cell? ⟨wr.heap.size + 1, 3, none⟩ = some (.int .u8 (x3 : Int)) := blk_cell hBX 3
                    clear hBQ hBX
                    have HBY9 := heap_alloc_new wr (.cells #[.int .u8 (y0 : Int), .int .u8 (y1 : Int), .int .u8 (y2 : Int), .int .u8 (y3 : Int)] TyW)
                    have g0 : (wr.alloc (.cells #[.int .u8 (y0 : Int), .int .u8 (y1 : Int), .int .u8 (y2 : Int), .int .u8 (y3 : Int)] TyW)).cell? ⟨wr.heap.size, 0, none⟩ = some (.int .u8 (y0 : Int)) := blk_cell HBY9 0
                    have g1 : (wr.alloc (.cells #[.int .u8 (y0 : Int), .int .u8 (y1 : Int), .int .u8 (y2 : Int), .int .u8 (y3 : Int)] TyW)).cell? ⟨wr.heap.size, 1, none⟩ = some (.int .u8 (y1 : Int)) := blk_cell HBY9 1
                    have g2 : (wr.alloc (.cells #[.int .u8 (y0 : Int), .int .u8 (y1 : Int), .int .u8 (y2 : Int), .int .u8 (y3 : Int)] TyW)).cell? ⟨wr.heap.size, 2, none⟩ = some (.int .u8 (y2 : Int)) := blk_cell HBY9 2
                    have g3 : (wr.alloc (.cells #[.int .u8 (y0 : Int), .int .u8 (y1 : Int), .int .u8 (y2 : Int), .int .u8 (y3 : Int)] TyW)).cell? ⟨wr.heap.size, 3, none⟩ = some (.int .u8 (y3 : Int)) := blk_cell HBY9 3
                    have HG4 := Lib.hid (And.intro g0 (And.intro g1 (And.intro g2 g3)))
                    clear HBY9 g0 g1 g2 g3
                    clear hs0 hs1 hs2 hs3 h8
                    have HVF := Lib.hid (And.intro hVS (And.intro hVZ (And.intro hV0 (And.intro hV1 (And.intro hV2 (And.intro hV3 (And.intro hU0 (And.intro hU1 (And.intro hU2 hU3)))))))))
                    clear hVS hVZ hV0 hV1 hV2 hV3 hU0 hU1 hU2 hU3
                    clear hx0 hx1 hx2 hx3 hy0 hy1 hy2 hy3 he0 he1 he2 he3 hsch hwc hj hk hP
                    have HSS := Lib.hid hS
                    clear hS
                    obtain ⟨i0, hi0, hz0, hz1, hz2⟩ := info_parts info_word
                    go_wp2_with fail
                    refine wp_region_F (S := (fun W => W.cell? ⟨wr.heap.size, 0, none⟩ = some (.int .u8 (y0 : Int)) ∧ W.cell? ⟨wr.heap.size, 1, none⟩ = some (.int .u8 (y1 : Int)) ∧ W.cell? ⟨wr.heap.size, 2, none⟩ = some (.int .u8 (y2 : Int)) ∧ W.cell? ⟨wr.heap.size, 3, none⟩ = some (.int .u8 (y3 : Int)) ∧ W.cell? ⟨w.heap.size, y0, none⟩ = some (.int .u8 (s0 : Int)) ∧ W.cell? ⟨w.heap.size, y1, none⟩ = some (.int .u8 (s1 : Int)) ∧ W.cell? ⟨w.heap.size, y2, none⟩ = some (.int .u8 (s2 : Int)) ∧ W.cell? ⟨w.heap.size, y3, none⟩ = some (.int .u8 (s3 : Int)))) [29] (by kernel_rfl) (by exact ⟨HG4.out.1, HG4.out.2.1, HG4.out.2.2.1, HG4.out.2.2.2, cs0 _, cs1 _, cs2 _, cs3 _⟩) (fun hHeld => ?_)
                    refine wpAnyF_take (i := 0) (oi := _) (v := ?_) rfl (by kernel_rfl) (by kernel_rfl) (by kernel_rfl) (by kernel_rfl) (fun _ _ _ h => h) (Or.inl ⟨by rfl, ?_⟩) (by assumption) ?_
                    rotate_left 1
                    · intro w hSw
                      (try dsimp only at hSw)
                      (first | (go_simp; done) | (go_simp; with_reducible rfl))
                    (try simp only [Act.put, List.getElem_toArray, List.getElem_cons_succ, List.getElem_cons_zero, List.setIfInBounds_toArray, List.set_cons_zero, List.set_cons_succ])
                    refine wpAnyF_take (i := 1) (oi := _) (v := ?_) rfl (by kernel_rfl) (by kernel_rfl) (by kernel_rfl) (by kernel_rfl) (fun _ _ _ h => h) (Or.inl ⟨by rfl, ?_⟩) (by assumption) ?_
                    rotate_left 1
                    · intro w hSw
                      (try dsimp only at hSw)
                      (first | (go_simp; done) | (go_simp; with_reducible rfl))
                    (try simp only [Act.put, List.getElem_toArray, List.getElem_cons_succ, List.getElem_cons_zero, List.setIfInBounds_toArray, List.set_cons_zero, List.set_cons_succ])
                    refine wpAnyF_take (i := 2) (oi := _) (v := ?_) rfl (by kernel_rfl) (by kernel_rfl) (by kernel_rfl) (by kernel_rfl) (fun _ _ _ h => h) (Or.inl ⟨by rfl, ?_⟩) (by assumption) ?_
                    rotate_left 1
                    · intro w hSw
                      (try dsimp only at hSw)
                      (first | (go_simp; done) | (go_simp; with_reducible rfl))
                    (try simp only [Act.put, List.getElem_toArray, List.getElem_cons_succ, List.getElem_cons_zero, List.setIfInBounds_toArray, List.set_cons_zero, List.set_cons_succ])
                    refine wpAnyF_take (i := 3) (oi := _) (v := ?_) rfl (by kernel_rfl) (by kernel_rfl) (by kernel_rfl) (by kernel_rfl) (fun _ _ _ h => h) (Or.inl ⟨by rfl, ?_⟩) (by assumption) ?_
                    rotate_left 1
                    · intro w hSw
                      (try dsimp only at hSw)
                      (first | (go_simp; done) | (go_simp; with_reducible rfl))
                    (try simp only [Act.put, List.getElem_toArray, List.getElem_cons_succ, List.getElem_cons_zero, List.setIfInBounds_toArray, List.set_cons_zero, List.set_cons_succ])
                    refine wpAnyF_take (i := 4) (oi := _) (v := ?_) rfl (by kernel_rfl) (by kernel_rfl) (by kernel_rfl) (by kernel_rfl) (fun _ _ _ h => h) (Or.inl ⟨by rfl, ?_⟩) (by assumption) ?_
                    rotate_left 1
                    · intro w hSw
                      (try dsimp only at hSw)
                      (first | (go_simp; done) | (go_simp; with_reducible rfl))
                    (try simp only [Act.put, List.getElem_toArray, List.getElem_cons_succ, List.getElem_cons_zero, List.setIfInBounds_toArray, List.set_cons_zero, List.set_cons_succ])
                    refine wpAnyF_take (i := 5) (oi := _) (v := ?_) rfl (by kernel_rfl) (by kernel_rfl) (by kernel_rfl) (by kernel_rfl) (fun _ _ _ h => h) (Or.inl ⟨by rfl, ?_⟩) (by assumption) ?_
                    rotate_left 1
                    · intro w hSw
                      (try dsimp only at hSw)
                      (first | (go_simp; done) | (go_simp; with_reducible rfl))
                    (try simp only [Act.put, List.getElem_toArray, List.getElem_cons_succ, List.getElem_cons_zero, List.setIfInBounds_toArray, List.set_cons_zero, List.set_cons_succ])
                    refine wpAnyF_take (i := 6) (oi := _) (v := ?_) rfl (by kernel_rfl) (by kernel_rfl) (by kernel_rfl) (by kernel_rfl) (fun _ _ _ h => h) (Or.inl ⟨by rfl, ?_⟩) (by assumption) ?_
                    rotate_left 1
                    · intro w hSw
                      (try dsimp only at hSw)
                      (first | (go_simp; done) | (go_simp; with_reducible rfl))
                    (try simp only [Act.put, List.getElem_toArray, List.getElem_cons_succ, List.getElem_cons_zero, List.setIfInBounds_toArray, List.set_cons_zero, List.set_cons_succ])
                    refine wpAnyF_take (i := 7) (oi := _) (v := ?_) rfl (by kernel_rfl) (by kernel_rfl) (by kernel_rfl) (by kernel_rfl) (fun _ _ _ h => h) (Or.inl ⟨by rfl, ?_⟩) (by assumption) ?_
                    rotate_left 1
                    · intro w hSw
                      (try dsimp only at hSw)
                      (first | (go_simp; done) | (go_simp; with_reducible rfl))
                    (try simp only [Act.put, List.getElem_toArray, List.getElem_cons_succ, List.getElem_cons_zero, List.setIfInBounds_toArray, List.set_cons_zero, List.set_cons_succ])
                    refine wpAnyF_take (i := 8) (oi := _) (v := ?_) rfl (by kernel_rfl) (by kernel_rfl) (by kernel_rfl) (by kernel_rfl) (fun _ _ _ h => h) (Or.inl ⟨by rfl, ?_⟩) (by assumption) ?_
                    rotate_left 1
                    · intro w hSw
                      (try dsimp only at hSw)
                      (first | (go_simp; done) | (go_simp; with_reducible rfl))
                    (try simp only [Act.put, List.getElem_toArray, List.getElem_cons_succ, List.getElem_cons_zero, List.setIfInBounds_toArray, List.set_cons_zero, List.set_cons_succ])
                    refine wpAnyF_take (i := 9) (oi := _) (v := ?_) rfl (by kernel_rfl) (by kernel_rfl) (by kernel_rfl) (by kernel_rfl) (fun _ _ _ h => h) (Or.inl ⟨by rfl, ?_⟩) (by assumption) ?_
                    rotate_left 1
                    · intro w hSw
                      (try dsimp only at hSw)
                      (first | (go_simp; done) | (go_simp; with_reducible rfl))
                    (try simp only [Act.put, List.getElem_toArray, List.getElem_cons_succ, List.getElem_cons_zero, List.setIfInBounds_toArray, List.set_cons_zero, List.set_cons_succ])
                    refine wpAnyF_take (i := 10) (oi := _) (v := ?_) rfl (by kernel_rfl) (by kernel_rfl) (by kernel_rfl) (by kernel_rfl) (fun _ _ _ h => h) (Or.inl ⟨by rfl, ?_⟩) (by assumption) ?_
                    rotate_left 1
                    · intro w hSw
                      (try dsimp only at hSw)
                      (first | (go_simp; done) | (go_simp; with_reducible rfl))
                    (try simp only [Act.put, List.getElem_toArray, List.getElem_cons_succ, List.getElem_cons_zero, List.setIfInBounds_toArray, List.set_cons_zero, List.set_cons_succ])
                    refine wpAnyF_take (i := 11) (oi := _) (v := ?_) rfl (by kernel_rfl) (by kernel_rfl) (by kernel_rfl) (by kernel_rfl) (fun _ _ _ h => h) (Or.inl ⟨by rfl, ?_⟩) (by assumption) ?_
                    rotate_left 1
                    · intro w hSw
                      (try dsimp only at hSw)
                      (first | (go_simp; done) | (go_simp; with_reducible rfl))
                    (try simp only [Act.put, List.getElem_toArray, List.getElem_cons_succ, List.getElem_cons_zero, List.setIfInBounds_toArray, List.set_cons_zero, List.set_cons_succ])
                    refine wpAnyF_take (i := 12) (oi := _) (v := ?_) rfl (by kernel_rfl) (by kernel_rfl) (by kernel_rfl) (by kernel_rfl) (fun _ _ _ h => h) (Or.inl ⟨by rfl, ?_⟩) (by assumption) ?_
                    rotate_left 1
                    · intro w hSw
                      (try dsimp only at hSw)
                      (first | (go_simp; done) | (go_simp; with_reducible rfl))
                    (try simp only [Act.put, List.getElem_toArray, List.getElem_cons_succ, List.getElem_cons_zero, List.setIfInBounds_toArray, List.set_cons_zero, List.set_cons_succ])
                    refine wpAnyF_take (i := 13) (oi := _) (v := ?_) rfl (by kernel_rfl) (by kernel_rfl) (by kernel_rfl) (by kernel_rfl) (fun _ _ _ h => h) (Or.inl ⟨by rfl, ?_⟩) (by assumption) ?_
                    rotate_left 1
                    · intro w hSw
                      (try dsimp only at hSw)
                      (first | (go_simp; done) | (go_simp; with_reducible rfl))
                    (try simp only [Act.put, List.getElem_toArray, List.getElem_cons_succ, List.getElem_cons_zero, List.setIfInBounds_toArray, List.set_cons_zero, List.set_cons_succ])
                    refine wpAnyF_take (i := 14) (oi := _) (v := ?_) rfl (by kernel_rfl) (by kernel_rfl) (by kernel_rfl) (by kernel_rfl) (fun _ _ _ h => h) (Or.inl ⟨by rfl, ?_⟩) (by assumption) ?_
                    rotate_left 1
                    · intro w hSw
                      (try dsimp only at hSw)
                      (first | (go_simp; done) | (go_simp; with_reducible rfl))
                    (try simp only [Act.put, List.getElem_toArray, List.getElem_cons_succ, List.getElem_cons_zero, List.setIfInBounds_toArray, List.set_cons_zero, List.set_cons_succ])
                    refine wpAnyF_take (i := 15) (oi := _) (v := ?_) rfl (by kernel_rfl) (by kernel_rfl) (by kernel_rfl) (by kernel_rfl) (fun _ _ _ h => h) (Or.inl ⟨by rfl, ?_⟩) (by assumption) ?_
                    rotate_left 1
                    · intro w hSw
                      (try dsimp only at hSw)
                      (first | (go_simp; done) | (go_simp; with_reducible rfl))
                    (try simp only [Act.put, List.getElem_toArray, List.getElem_cons_succ, List.getElem_cons_zero, List.setIfInBounds_toArray, List.set_cons_zero, List.set_cons_succ])
                    refine wpAnyF_take (i := 16) (oi := _) (v := ?_) rfl (by kernel_rfl) (by kernel_rfl) (by kernel_rfl) (by kernel_rfl) (fun _ _ _ h => h) (Or.inl ⟨by rfl, ?_⟩) (by assumption) ?_
                    rotate_left 1
                    · intro w hSw
                      (try dsimp only at hSw)
                      (first | (go_simp; done) | (go_simp; with_reducible rfl))
                    (try simp only [Act.put, List.getElem_toArray, List.getElem_cons_succ, List.getElem_cons_zero, List.setIfInBounds_toArray, List.set_cons_zero, List.set_cons_succ])
                    refine wpAnyF_take (i := 17) (oi := _) (v := ?_) rfl (by kernel_rfl) (by kernel_rfl) (by kernel_rfl) (by kernel_rfl) (fun _ _ _ h => h) (Or.inl ⟨by rfl, ?_⟩) (by assumption) ?_
                    rotate_left 1
                    · intro w hSw
                      (try dsimp only at hSw)
                      (first | (go_simp; done) | (go_simp; with_reducible rfl))
                    (try simp only [Act.put, List.getElem_toArray, List.getElem_cons_succ, List.getElem_cons_zero, List.setIfInBounds_toArray, List.set_cons_zero, List.set_cons_succ])
                    refine wpAnyF_take (i := 18) (oi := _) (v := ?_) rfl (by kernel_rfl) (by kernel_rfl) (by kernel_rfl) (by kernel_rfl) (fun _ _ _ h => h) (Or.inl ⟨by rfl, ?_⟩) (by assumption) ?_
                    rotate_left 1
                    · intro w hSw
                      (try dsimp only at hSw)
                      (first | (go_simp; done) | (go_simp; with_reducible rfl))
                    (try simp only [Act.put, List.getElem_toArray, List.getElem_cons_succ, List.getElem_cons_zero, List.setIfInBounds_toArray, List.set_cons_zero, List.set_cons_succ])
                    refine wpAnyF_take (i := 19) (oi := _) (v := ?_) rfl (by kernel_rfl) (by kernel_rfl) (by kernel_rfl) (by kernel_rfl) (fun _ _ _ h => h) (Or.inl ⟨by rfl, ?_⟩) (by assumption) ?_
                    rotate_left 1
                    · intro w hSw
                      (try dsimp only at hSw)
                      (first | (go_simp; done) | (go_simp; with_reducible rfl))
                    (try simp only [Act.put, List.getElem_toArray, List.getElem_cons_succ, List.getElem_cons_zero, List.setIfInBounds_toArray, List.set_cons_zero, List.set_cons_succ])
                    refine wpAnyF_take (i := 20) (oi := _) (v := ?_) rfl (by kernel_rfl) (by kernel_rfl) (by kernel_rfl) (by kernel_rfl) (fun _ _ _ h => h) (Or.inl ⟨by rfl, ?_⟩) (by assumption) ?_
                    rotate_left 1
                    · intro w hSw
                      (try dsimp only at hSw)
                      (first | (go_simp; done) | (go_simp; with_reducible rfl))
                    (try simp only [Act.put, List.getElem_toArray, List.getElem_cons_succ, List.getElem_cons_zero, List.setIfInBounds_toArray, List.set_cons_zero, List.set_cons_succ])
                    refine wpAnyF_take (i := 21) (oi := _) (v := ?_) rfl (by kernel_rfl) (by kernel_rfl) (by kernel_rfl) (by kernel_rfl) (fun _ _ _ h => h) (Or.inl ⟨by rfl, ?_⟩) (by assumption) ?_
                    rotate_left 1
                    · intro w hSw
                      (try dsimp only at hSw)
                      (first | (go_simp; done) | (go_simp; with_reducible rfl))
                    (try simp only [Act.put, List.getElem_toArray, List.getElem_cons_succ, List.getElem_cons_zero, List.setIfInBounds_toArray, List.set_cons_zero, List.set_cons_succ])
                    refine wpAnyF_take (i := 22) (oi := _) (v := ?_) rfl (by kernel_rfl) (by kernel_rfl) (by kernel_rfl) (by kernel_rfl) (fun _ _ _ h => h) (Or.inl ⟨by rfl, ?_⟩) (by assumption) ?_
                    rotate_left 1
                    · intro w hSw
                      (try dsimp only at hSw)
                      (first | (go_simp; done) | (go_simp; with_reducible rfl))
                    (try simp only [Act.put, List.getElem_toArray, List.getElem_cons_succ, List.getElem_cons_zero, List.setIfInBounds_toArray, List.set_cons_zero, List.set_cons_succ])
                    refine wpAnyF_take (i := 23) (oi := _) (v := ?_) rfl (by kernel_rfl) (by kernel_rfl) (by kernel_rfl) (by kernel_rfl) (fun _ _ _ h => h) (Or.inl ⟨by rfl, ?_⟩) (by assumption) ?_
                    rotate_left 1
                    · intro w hSw
                      (try dsimp only at hSw)
                      (first | (go_simp; done) | (go_simp; with_reducible rfl))
                    (try simp only [Act.put, List.getElem_toArray, List.getElem_cons_succ, List.getElem_cons_zero, List.setIfInBounds_toArray, List.set_cons_zero, List.set_cons_succ])
                    refine wpAnyF_take (i := 24) (oi := _) (v := ?_) rfl (by kernel_rfl) (by kernel_rfl) (by kernel_rfl) (by kernel_rfl) (fun _ _ _ h => h) (Or.inl ⟨by rfl, ?_⟩) (by assumption) ?_
                    rotate_left 1
                    · intro w hSw
                      (try dsimp only at hSw)
                      (first | (go_simp; done) | (go_simp; with_reducible rfl))
                    (try simp only [Act.put, List.getElem_toArray, List.getElem_cons_succ, List.getElem_cons_zero, List.setIfInBounds_toArray, List.set_cons_zero, List.set_cons_succ])
                    refine wpAnyF_take (i := 25) (oi := _) (v := ?_) rfl (by kernel_rfl) (by kernel_rfl) (by kernel_rfl) (by kernel_rfl) (fun _ _ _ h => h) (Or.inl ⟨by rfl, ?_⟩) (by assumption) ?_
                    rotate_left 1
                    · intro w hSw
                      (try dsimp only at hSw)
                      (first | (go_simp; done) | (go_simp; with_reducible rfl))
                    (try simp only [Act.put, List.getElem_toArray, List.getElem_cons_succ, List.getElem_cons_zero, List.setIfInBounds_toArray, List.set_cons_zero, List.set_cons_succ])
                    refine wpAnyF_take (i := 26) (oi := _) (v := ?_) rfl (by kernel_rfl) (by kernel_rfl) (by kernel_rfl) (by kernel_rfl) (fun _ _ _ h => h) (Or.inl ⟨by rfl, ?_⟩) (by assumption) ?_
                    rotate_left 1
                    · intro w hSw
                      (try dsimp only at hSw)
                      (first | (go_simp; done) | (go_simp; with_reducible rfl))
                    (try simp only [Act.put, List.getElem_toArray, List.getElem_cons_succ, List.getElem_cons_zero, List.setIfInBounds_toArray, List.set_cons_zero, List.set_cons_succ])
                    refine wpAnyF_take (i := 27) (oi := _) (v := ?_) rfl (by kernel_rfl) (by kernel_rfl) (by kernel_rfl) (by kernel_rfl) (fun _ _ _ h => h) (Or.inl ⟨by rfl, ?_⟩) (by assumption) ?_
                    rotate_left 1
                    · intro w hSw
                      (try dsimp only at hSw)
                      (first | (go_simp; done) | (go_simp; with_reducible rfl))
                    (try simp only [Act.put, List.getElem_toArray, List.getElem_cons_succ, List.getElem_cons_zero, List.setIfInBounds_toArray, List.set_cons_zero, List.set_cons_succ])
                    refine wpAnyF_take (i := 28) (oi := _) (v := ?_) rfl (by kernel_rfl) (by kernel_rfl) (by kernel_rfl) (by kernel_rfl) (fun _ _ _ h => h) (Or.inl ⟨by rfl, ?_⟩) (by assumption) ?_
                    rotate_left 1
                    · intro w hSw
                      (try dsimp only at hSw)
                      (first | (go_simp; done) | (go_simp; with_reducible rfl))
                    (try simp only [Act.put, List.getElem_toArray, List.getElem_cons_succ, List.getElem_cons_zero, List.setIfInBounds_toArray, List.set_cons_zero, List.set_cons_succ])
                    refine wpAnyF_ready (rs := [29]) (by kernel_rfl) (by simp) ?_
                    refine AllReadyF.last (o := _) rfl (by rfl) (fun K hK => ?_) AllReadyF.nil
                    go_simp
                    refine hK.out _ _ ?_
                    clear hK K
                    (try simp only [Act.put, List.getElem_toArray, List.getElem_cons_succ, List.getElem_cons_zero, List.setIfInBounds_toArray, List.set_cons_zero, List.set_cons_succ])
                    refine wpAnyF_done (by kernel_rfl) ?_ _
                    go_wp2_with fail
                    obtain ⟨hVS, hVZ, hV0, hV1, hV2, hV3, hU0, hU1, hU2, hU3⟩ := HVF.out
                    generalize hV : ((wr.alloc (.cells #[.int .u8 (s0 : Int), .int .u8 (s1 : Int), .int .u8 (s2 : Int), .int .u8 (s3 : Int)] TyW)).alloc (.cells #[.int .u8 (x0 : Int), .int .u8 (x1 : Int), .int .u8 (x2 : Int), .int .u8 (x3 : Int)] TyW)).drew = V at *
                    have HVS := Lib.hid hVS
                    have HVZ := Lib.hid hVZ
                    clear hVS hVZ hV
                    refine wp_region_F (S := (fun W => W.cell? ⟨wr.heap.size, 0, none⟩ = some (.int .u8 (s0 : Int)) ∧ W.cell? ⟨wr.heap.size, 1, none⟩ = some (.int .u8 (s1 : Int)) ∧ W.cell? ⟨wr.heap.size, 2, none⟩ = some (.int .u8 (s2 : Int)) ∧ W.cell? ⟨wr.heap.size, 3, none⟩ = some (.int .u8 (s3 : Int)) ∧ W.cell? ⟨wr.heap.size + 1, 0, none⟩ = some (.int .u8 (x0 : Int)) ∧ W.cell? ⟨wr.heap.size + 1, 1, none⟩ = some (.int .u8 (x1 : Int)) ∧ W.cell? ⟨wr.heap.size + 1, 2, none⟩ = some (.int .u8 (x2 : Int)) ∧ W.cell? ⟨wr.heap.size + 1, 3, none⟩ = some (.int .u8 (x3 : Int)) ∧ W.cell? ⟨w.heap.size, 512, none⟩ = some (.slice (some ⟨bw, 0, none⟩) i cap))) [30] (by kernel_rfl) (⟨hV0, hV1, hV2, hV3, hU0, hU1, hU2, hU3, HVS.out.words⟩) (fun hHeld => ?_)
                    refine wpAnyF_take (i := 0) (oi := _) (v := ?_) rfl (by kernel_rfl) (by kernel_rfl) (by kernel_rfl) (by kernel_rfl) (fun _ _ _ h => h) (Or.inl ⟨by rfl, ?_⟩) (by assumption) ?_
                    rotate_left 1
                    · intro w hSw
                      (try dsimp only at hSw)
                      (first | (go_simp; done) | (go_simp; with_reducible rfl))
                    (try simp only [Act.put, List.getElem_toArray, List.getElem_cons_succ, List.getElem_cons_zero, List.setIfInBounds_toArray, List.set_cons_zero, List.set_cons_succ])
                    refine wpAnyF_take (i := 1) (oi := _) (v := ?_) rfl (by kernel_rfl) (by kernel_rfl) (by kernel_rfl) (by kernel_rfl) (fun _ _ _ h => h) (Or.inl ⟨by rfl, ?_⟩) (by assumption) ?_
                    rotate_left 1
                    · intro w hSw
                      (try dsimp only at hSw)
                      (first | (go_simp; done) | (go_simp; with_reducible rfl))
                    (try simp only [Act.put, List.getElem_toArray, List.getElem_cons_succ, List.getElem_cons_zero, List.setIfInBounds_toArray, List.set_cons_zero, List.set_cons_succ])
                    refine wpAnyF_take (i := 2) (oi := _) (v := ?_) rfl (by kernel_rfl) (by kernel_rfl) (by kernel_rfl) (by kernel_rfl) (fun _ _ _ h => h) (Or.inl ⟨by rfl, ?_⟩) (by assumption) ?_
                    rotate_left 1
                    · intro w hSw
                      (try dsimp only at hSw)
                      (first | (go_simp; done) | (go_simp; with_reducible rfl))
                    (try simp only [Act.put, List.getElem_toArray, List.getElem_cons_succ, List.getElem_cons_zero, List.setIfInBounds_toArray, List.set_cons_zero, List.set_cons_succ])
                    refine wpAnyF_take (i := 3) (oi := _) (v := ?_) rfl (by kernel_rfl) (by kernel_rfl) (by kernel_rfl) (by kernel_rfl) (fun _ _ _ h => h) (Or.inl ⟨by rfl, ?_⟩) (by assumption) ?_
                    rotate_left 1
                    · intro w hSw
                      (try dsimp only at hSw)
                      (first | (go_simp; done) | (go_simp; with_reducible rfl))
                    (try simp only [Act.put, List.getElem_toArray, List.getElem_cons_succ, List.getElem_cons_zero, List.setIfInBounds_toArray, List.set_cons_zero, List.set_cons_succ])
                    refine wpAnyF_take (i := 4) (oi := _) (v := ?_) rfl (by kernel_rfl) (by kernel_rfl) (by kernel_rfl) (by kernel_rfl) (fun _ _ _ h => h) (Or.inl ⟨by rfl, ?_⟩) (by assumption) ?_
                    rotate_left 1
                    · intro w hSw
                      (try dsimp only at hSw)
                      (first | (go_simp; done) | (go_simp; with_reducible rfl))
                    (try simp only [Act.put, List.getElem_toArray, List.getElem_cons_succ, List.getElem_cons_zero, List.setIfInBounds_toArray, List.set_cons_zero, List.set_cons_succ])
                    refine wpAnyF_take (i := 5) (oi := _) (v := ?_) rfl (by kernel_rfl) (by kernel_rfl) (by kernel_rfl) (by kernel_rfl) (fun _ _ _ h => h) (Or.inl ⟨by rfl, ?_⟩) (by assumption) ?_
                    rotate_left 1
                    · intro w hSw
                      (try dsimp only at hSw)
                      (first | (go_simp; done) | (go_simp; with_reducible rfl))
                    (try simp only [Act.put, List.getElem_toArray, List.getElem_cons_succ, List.getElem_cons_zero, List.setIfInBounds_toArray, List.set_cons_zero, List.set_cons_succ])
                    refine wpAnyF_take (i := 6) (oi := _) (v := ?_) rfl (by kernel_rfl) (by kernel_rfl) (by kernel_rfl) (by kernel_rfl) (fun _ _ _ h => h) (Or.inl ⟨by rfl, ?_⟩) (by assumption) ?_
                    rotate_left 1
                    · intro w hSw
                      (try dsimp only at hSw)
                      (first | (go_simp; done) | (go_simp; with_reducible rfl))
                    (try simp only [Act.put, List.getElem_toArray, List.getElem_cons_succ, List.getElem_cons_zero, List.setIfInBounds_toArray, List.set_cons_zero, List.set_cons_succ])
                    refine wpAnyF_take (i := 7) (oi := _) (v := ?_) rfl (by kernel_rfl) (by kernel_rfl) (by kernel_rfl) (by kernel_rfl) (fun _ _ _ h => h) (Or.inl ⟨by rfl, ?_⟩) (by assumption) ?_
                    rotate_left 1
                    · intro w hSw
                      (try dsimp only at hSw)
                      (first | (go_simp; done) | (go_simp; with_reducible rfl))
                    (try simp only [Act.put, List.getElem_toArray, List.getElem_cons_succ, List.getElem_cons_zero, List.setIfInBounds_toArray, List.set_cons_zero, List.set_cons_succ])
                    refine wpAnyF_take (i := 8) (oi := _) (v := ?_) rfl (by kernel_rfl) (by kernel_rfl) (by kernel_rfl) (by kernel_rfl) (fun _ _ _ h => h) (Or.inl ⟨by rfl, ?_⟩) (by assumption) ?_
                    rotate_left 1
                    · intro w hSw
                      (try dsimp only at hSw)
                      (first | (go_simp; done) | (go_simp; with_reducible rfl))
                    (try simp only [Act.put, List.getElem_toArray, List.getElem_cons_succ, List.getElem_cons_zero, List.setIfInBounds_toArray, List.set_cons_zero, List.set_cons_succ])
                    refine wpAnyF_take (i := 9) (oi := _) (v := ?_) rfl (by kernel_rfl) (by kernel_rfl) (by kernel_rfl) (by kernel_rfl) (fun _ _ _ h => h) (Or.inl ⟨by rfl, ?_⟩) (by assumption) ?_
                    rotate_left 1
                    · intro w hSw
                      (try dsimp only at hSw)
                      (first | (go_simp; done) | (go_simp; with_reducible rfl))
                    (try simp only [Act.put, List.getElem_toArray, List.getElem_cons_succ, List.getElem_cons_zero, List.setIfInBounds_toArray, List.set_cons_zero, List.set_cons_succ])
                    refine wpAnyF_take (i := 10) (oi := _) (v := ?_) rfl (by kernel_rfl) (by kernel_rfl) (by kernel_rfl) (by kernel_rfl) (fun _ _ _ h => h) (Or.inl ⟨by rfl, ?_⟩) (by assumption) ?_
                    rotate_left 1
                    · intro w hSw
                      (try dsimp only at hSw)
                      (first | (go_simp; done) | (go_simp; with_reducible rfl))
                    (try simp only [Act.put, List.getElem_toArray, List.getElem_cons_succ, List.getElem_cons_zero, List.setIfInBounds_toArray, List.set_cons_zero, List.set_cons_succ])
                    refine wpAnyF_take (i := 11) (oi := _) (v := ?_) rfl (by kernel_rfl) (by kernel_rfl) (by kernel_rfl) (by kernel_rfl) (fun _ _ _ h => h) (Or.inl ⟨by rfl, ?_⟩) (by assumption) ?_
                    rotate_left 1
                    · intro w hSw
                      (try dsimp only at hSw)
                      (first | (go_simp; done) | (go_simp; with_reducible rfl))
                    (try simp only [Act.put, List.getElem_toArray, List.getElem_cons_succ, List.getElem_cons_zero, List.setIfInBounds_toArray, List.set_cons_zero, List.set_cons_succ])
                    refine wpAnyF_take (i := 12) (oi := _) (v := ?_) rfl (by kernel_rfl) (by kernel_rfl) (by kernel_rfl) (by kernel_rfl) (fun _ _ _ h => h) (Or.inl ⟨by rfl, ?_⟩) (by assumption) ?_
                    rotate_left 1
                    · intro w hSw
                      (try dsimp only at hSw)
                      (first | (go_simp; done) | (go_simp; with_reducible rfl))
                    (try simp only [Act.put, List.getElem_toArray, List.getElem_cons_succ, List.getElem_cons_zero, List.setIfInBounds_toArray, List.set_cons_zero, List.set_cons_succ])
                    refine wpAnyF_take (i := 13) (oi := _) (v := ?_) rfl (by kernel_rfl) (by kernel_rfl) (by kernel_rfl) (by kernel_rfl) (fun _ _ _ h => h) (Or.inl ⟨by rfl, ?_⟩) (by assumption) ?_
                    rotate_left 1
                    · intro w hSw
                      (try dsimp only at hSw)
                      (first | (go_simp; done) | (go_simp; with_reducible rfl))
                    (try simp only [Act.put, List.getElem_toArray, List.getElem_cons_succ, List.getElem_cons_zero, List.setIfInBounds_toArray, List.set_cons_zero, List.set_cons_succ])
                    refine wpAnyF_take (i := 14) (oi := _) (v := ?_) rfl (by kernel_rfl) (by kernel_rfl) (by kernel_rfl) (by kernel_rfl) (fun _ _ _ h => h) (Or.inl ⟨by rfl, ?_⟩) (by assumption) ?_
                    rotate_left 1
                    · intro w hSw
                      (try dsimp only at hSw)
                      (first | (go_simp; done) | (go_simp; with_reducible rfl))
                    (try simp only [Act.put, List.getElem_toArray, List.getElem_cons_succ, List.getElem_cons_zero, List.setIfInBounds_toArray, List.set_cons_zero, List.set_cons_succ])
                    refine wpAnyF_take (i := 15) (oi := _) (v := ?_) rfl (by kernel_rfl) (by kernel_rfl) (by kernel_rfl) (by kernel_rfl) (fun _ _ _ h => h) (Or.inl ⟨by rfl, ?_⟩) (by assumption) ?_
                    rotate_left 1
                    · intro w hSw
                      (try dsimp only at hSw)
                      (first | (go_simp; done) | (go_simp; with_reducible rfl))
                    (try simp only [Act.put, List.getElem_toArray, List.getElem_cons_succ, List.getElem_cons_zero, List.setIfInBounds_toArray, List.set_cons_zero, List.set_cons_succ])
                    refine wpAnyF_take (i := 16) (oi := _) (v := ?_) rfl (by kernel_rfl) (by kernel_rfl) (by kernel_rfl) (by kernel_rfl) (fun _ _ _ h => h) (Or.inl ⟨by rfl, ?_⟩) (by assumption) ?_
                    rotate_left 1
                    · intro w hSw
                      (try dsimp only at hSw)
                      (first | (go_simp; done) | (go_simp; with_reducible rfl))
                    (try simp only [Act.put, List.getElem_toArray, List.getElem_cons_succ, List.getElem_cons_zero, List.setIfInBounds_toArray, List.set_cons_zero, List.set_cons_succ])
                    refine wpAnyF_take (i := 17) (oi := _) (v := ?_) rfl (by kernel_rfl) (by kernel_rfl) (by kernel_rfl) (by kernel_rfl) (fun _ _ _ h => h) (Or.inl ⟨by rfl, ?_⟩) (by assumption) ?_
                    rotate_left 1
                    · intro w hSw
                      (try dsimp only at hSw)
                      (first | (go_simp; done) | (go_simp; with_reducible rfl))
                    (try simp only [Act.put, List.getElem_toArray, List.getElem_cons_succ, List.getElem_cons_zero, List.setIfInBounds_toArray, List.set_cons_zero, List.set_cons_succ])
                    refine wpAnyF_take (i := 18) (oi := _) (v := ?_) rfl (by kernel_rfl) (by kernel_rfl) (by kernel_rfl) (by kernel_rfl) (fun _ _ _ h => h) (Or.inl ⟨by rfl, ?_⟩) (by assumption) ?_
                    rotate_left 1
                    · intro w hSw
                      (try dsimp only at hSw)
                      (first | (go_simp; done) | (go_simp; with_reducible rfl))
                    (try simp only [Act.put, List.getElem_toArray, List.getElem_cons_succ, List.getElem_cons_zero, List.setIfInBounds_toArray, List.set_cons_zero, List.set_cons_succ])
                    refine wpAnyF_take (i := 19) (oi := _) (v := ?_) rfl (by kernel_rfl) (by kernel_rfl) (by kernel_rfl) (by kernel_rfl) (fun _ _ _ h => h) (Or.inl ⟨by rfl, ?_⟩) (by assumption) ?_
                    rotate_left 1
                    · intro w hSw
                      (try dsimp only at hSw)
                      (first | (go_simp; done) | (go_simp; with_reducible rfl))
                    (try simp only [Act.put, List.getElem_toArray, List.getElem_cons_succ, List.getElem_cons_zero, List.setIfInBounds_toArray, List.set_cons_zero, List.set_cons_succ])
                    refine wpAnyF_take (i := 20) (oi := _) (v := ?_) rfl (by kernel_rfl) (by kernel_rfl) (by kernel_rfl) (by kernel_rfl) (fun _ _ _ h => h) (Or.inl ⟨by rfl, ?_⟩) (by assumption) ?_
                    rotate_left 1
                    · intro w hSw
                      (try dsimp only at hSw)
                      (first | (go_simp; done) | (go_simp; with_reducible rfl))
                    (try simp only [Act.put, List.getElem_toArray, List.getElem_cons_succ, List.getElem_cons_zero, List.setIfInBounds_toArray, List.set_cons_zero, List.set_cons_succ])
                    refine wpAnyF_take (i := 21) (oi := _) (v := ?_) rfl (by kernel_rfl) (by kernel_rfl) (by kernel_rfl) (by kernel_rfl) (fun _ _ _ h => h) (Or.inl ⟨by rfl, ?_⟩) (by assumption) ?_
                    rotate_left 1
                    · intro w hSw
                      (try dsimp only at hSw)
                      (first | (go_simp; done) | (go_simp; with_reducible rfl))
                    (try simp only [Act.put, List.getElem_toArray, List.getElem_cons_succ, List.getElem_cons_zero, List.setIfInBounds_toArray, List.set_cons_zero, List.set_cons_succ])
                    refine wpAnyF_take (i := 22) (oi := _) (v := ?_) rfl (by kernel_rfl) (by kernel_rfl) (by kernel_rfl) (by kernel_rfl) (fun _ _ _ h => h) (Or.inl ⟨by rfl, ?_⟩) (by assumption) ?_
                    rotate_left 1
                    · intro w hSw
                      (try dsimp only at hSw)
                      (first | (go_simp; done) | (go_simp; with_reducible rfl))
                    (try simp only [Act.put, List.getElem_toArray, List.getElem_cons_succ, List.getElem_cons_zero, List.setIfInBounds_toArray, List.set_cons_zero, List.set_cons_succ])
                    refine wpAnyF_take (i := 23) (oi := _) (v := ?_) rfl (by kernel_rfl) (by kernel_rfl) (by kernel_rfl) (by kernel_rfl) (fun _ _ _ h => h) (Or.inl ⟨by rfl, ?_⟩) (by assumption) ?_
                    rotate_left 1
                    · intro w hSw
                      (try dsimp only at hSw)
                      (first | (go_simp; done) | (go_simp; with_reducible rfl))
                    (try simp only [Act.put, List.getElem_toArray, List.getElem_cons_succ, List.getElem_cons_zero, List.setIfInBounds_toArray, List.set_cons_zero, List.set_cons_succ])
                    refine wpAnyF_take (i := 24) (oi := _) (v := ?_) rfl (by kernel_rfl) (by kernel_rfl) (by kernel_rfl) (by kernel_rfl) (fun _ _ _ h => h) (Or.inl ⟨by rfl, ?_⟩) (by assumption) ?_
                    rotate_left 1
                    · intro w hSw
                      (try dsimp only at hSw)
                      (first | (go_simp; done) | (go_simp; with_reducible rfl))
                    (try simp only [Act.put, List.getElem_toArray, List.getElem_cons_succ, List.getElem_cons_zero, List.setIfInBounds_toArray, List.set_cons_zero, List.set_cons_succ])
                    refine wpAnyF_take (i := 25) (oi := _) (v := ?_) rfl (by kernel_rfl) (by kernel_rfl) (by kernel_rfl) (by kernel_rfl) (fun _ _ _ h => h) (Or.inl ⟨by rfl, ?_⟩) (by assumption) ?_
                    rotate_left 1
                    · intro w hSw
                      (try dsimp only at hSw)
                      (first | (go_simp; done) | (go_simp; with_reducible rfl))
                    (try simp only [Act.put, List.getElem_toArray, List.getElem_cons_succ, List.getElem_cons_zero, List.setIfInBounds_toArray, List.set_cons_zero, List.set_cons_succ])
                    have hS1 := HVS.out.drew.alloc (.cells #[.int .u8 (e0 : Int), .int .u8 (e1 : Int), .int .u8 (e2 : Int), .int .u8 (e3 : Int)] TyW)
                    have HS1' := Lib.hid hS1
                    have HC1 : Hid (∀ p : Addr, p.block < V.heap.size → (V.drew.alloc (.cells #[.int .u8 (e0 : Int), .int .u8 (e1 : Int), .int .u8 (e2 : Int), .int .u8 (e3 : Int)] TyW)).cell? p = V.cell? p) := Lib.hid (fun p hp => World.cell?_alloc_lt V.drew _ p hp)
                    clear hS1
                    refine wpAnyF_ready (rs := [26]) (by kernel_rfl) (by simp) ?_
                    refine AllReadyF.cons (o := _) rfl (fun K hK => ?_) AllReadyF.nil
                    go_simp
                    refine hK.out _ _ (⟨(HC1.out _ (by have := HVZ.out; show wr.heap.size < V.heap.size; omega)).trans hV0, (HC1.out _ (by have := HVZ.out; show wr.heap.size < V.heap.size; omega)).trans hV1, (HC1.out _ (by have := HVZ.out; show wr.heap.size < V.heap.size; omega)).trans hV2, (HC1.out _ (by have := HVZ.out; show wr.heap.size < V.heap.size; omega)).trans hV3, (HC1.out _ (by have := HVZ.out; show wr.heap.size + 1 < V.heap.size; omega)).trans hU0, (HC1.out _ (by have := HVZ.out; show wr.heap.size + 1 < V.heap.size; omega)).trans hU1, (HC1.out _ (by have := HVZ.out; show wr.heap.size + 1 < V.heap.size; omega)).trans hU2, (HC1.out _ (by have := HVZ.out; show wr.heap.size + 1 < V.heap.size; omega)).trans hU3, HS1'.out.words⟩) (fun hHeld26 => ?_)
                    clear hK K
                    (try simp only [Act.put, List.getElem_toArray, List.getElem_cons_succ, List.getElem_cons_zero, List.setIfInBounds_toArray, List.set_cons_zero, List.set_cons_succ])
                    have HOW := Lib.hid HS1'.out.own
                    have HNW : Hid (∀ j u, (bvals [e0, e1, e2, e3])[j]? = some u → (V.drew.alloc (.cells #[.int .u8 (e0 : Int), .int .u8 (e1 : Int), .int .u8 (e2 : Int), .int .u8 (e3 : Int)] TyW)).cell? ((⟨V.heap.size, 0, none⟩ : Addr).add j) = some u) := Lib.hid (World.news_of_block (cs := (bvals [e0, e1, e2, e3]).toArray) (t := TyW) (fr := (0, 0)) (by exact heap_alloc_new V _))
                    have HSZ : Hid (w.heap.size + 1 ≤ (V.drew.alloc (.cells #[.int .u8 (e0 : Int), .int .u8 (e1 : Int), .int .u8 (e2 : Int), .int .u8 (e3 : Int)] TyW)).heap.size) := Lib.hid (by have := HVS.out.below.size; simp; omega)
                    have HSE : Hid ((V.drew.alloc (.cells #[.int .u8 (e0 : Int), .int .u8 (e1 : Int), .int .u8 (e2 : Int), .int .u8 (e3 : Int)] TyW)).heap.size = V.heap.size + 1) := Lib.hid (by simp)
                    refine wpAnyF_ready (rs := [27]) (by kernel_rfl) (by simp) ?_
                    refine AllReadyF.cons (o := _) rfl (fun K hK => ?_) AllReadyF.nil
                    refine step_append_lies _ (by rfl) (.tmp 187) (.tmp 209) 38 (by rfl) (w.heap.size + 1) TyW i0 _ 4 4 Try.underlying38 hi0 hz0 hz1 hz2 rfl (by omega) (.slice (some ⟨bw, 0, none⟩) i cap) i (bvals ks) (by rfl) (by exact HOW.out) ⟨V.heap.size, 0, none⟩ 1 1 (bvals [e0, e1, e2, e3]) (by rfl) (by rfl) (by exact HNW.out) (bvals_one _) (by omega) (by unfold maxLen; omega) (by omega) (by exact HSZ.out) (V.heap.size + 1) (by exact HSE.out) ?_
                    intro gg cap3 w3 hown3 hgrow3 hat3 hlt3
                    have HEND : Hid (RefS w w.heap.size (twF 256) (.slice (some ⟨gg, 0, none⟩) (i + 1) cap3) ((n : Int) + 6) (i + 1) (Aes.sch Gf.sub key n (i + 1)) (w3.setCell ⟨w.heap.size, 512, none⟩ (.slice (some ⟨gg, 0, none⟩) (i + 1) cap3))) := Lib.hid (HS1'.out.grow hgrow3 (by rw [HKS.out, show bvals (ks ++ [e0, e1, e2, e3]) = bvals ks ++ bvals [e0, e1, e2, e3] by simp [bvals]]; exact hown3))
                    have hG : ∀ (p : Addr), p.block < V.heap.size → p.block ≠ bw → w3.cell? p = (V.drew.alloc (.cells #[.int .u8 (e0 : Int), .int .u8 (e1 : Int), .int .u8 (e2 : Int), .int .u8 (e3 : Int)] TyW)).cell? p := fun p hp hne => hgrow3.cell_far p (by simp; omega) (fun e => hne (by simpa [Value.ownBlock] using e))
                    have f512 : w3.frozen? ⟨w.heap.size, 512, none⟩ = false := (HS1'.out.grown_frozen hgrow3 (Nat.le_refl _)).trans (HS1'.out.frozen (by omega))
                    have hk3 := hHeld26
                    have hz9 : wr.heap.size < V.heap.size := by rw [HVZ.out]; omega
                    have hz10 : wr.heap.size + 1 < V.heap.size := by rw [HVZ.out]; omega
                    have hz0 : w.heap.size < V.heap.size := by rw [HVZ.out]; omega
                    have hn9 : wr.heap.size ≠ bw := by omega
                    have hn10 : wr.heap.size + 1 ≠ bw := by omega
                    have hn0 : w.heap.size ≠ bw := by omega
                    refine hK.out _ _ (⟨(hG _ hz9 hn9).trans hk3.1, (hG _ hz9 hn9).trans hk3.2.1, (hG _ hz9 hn9).trans hk3.2.2.1, (hG _ hz9 hn9).trans hk3.2.2.2.1, (hG _ hz10 hn10).trans hk3.2.2.2.2.1, (hG _ hz10 hn10).trans hk3.2.2.2.2.2.1, (hG _ hz10 hn10).trans hk3.2.2.2.2.2.2.1, (hG _ hz10 hn10).trans hk3.2.2.2.2.2.2.2.1, (hG _ hz0 hn0).trans hk3.2.2.2.2.2.2.2.2⟩) (fun hHeld27 => ?_)
                    clear hK K
                    (try simp only [Act.put, List.getElem_toArray, List.getElem_cons_succ, List.getElem_cons_zero, List.setIfInBounds_toArray, List.set_cons_zero, List.set_cons_succ])
                    clear hG hz9 hz10 hz0 hn9 hn10 hn0 hk3
                    refine wpAnyF_ready (rs := [28]) (by kernel_rfl) (by simp) ?_
                    refine AllReadyF.cons (o := _) rfl (fun K hK => ?_) AllReadyF.nil
                    go_simp
                    refine hK.out _ _ (hHeld27) (fun hHeld28 => ?_)
                    clear hK K
                    (try simp only [Act.put, List.getElem_toArray, List.getElem_cons_succ, List.getElem_cons_zero, List.setIfInBounds_toArray, List.set_cons_zero, List.set_cons_succ])
                    refine wpAnyF_ready (rs := [29]) (by kernel_rfl) (by simp) ?_
                    refine AllReadyF.cons (o := _) rfl (fun K hK => ?_) AllReadyF.nil
                    go_simp
                    refine hK.out _ _ (hHeld27) (fun hHeld29 => ?_)
                    clear hK K
                    (try simp only [Act.put, List.getElem_toArray, List.getElem_cons_succ, List.getElem_cons_zero, List.setIfInBounds_toArray, List.set_cons_zero, List.set_cons_succ])
                    have c512 := hHeld27.2.2.2.2.2.2.2.2
                    refine wpAnyF_ready (rs := [30]) (by kernel_rfl) (by simp) ?_
                    refine AllReadyF.last (o := _) rfl (by rfl) (fun K hK => ?_) AllReadyF.nil
                    go_simp
                    refine hK.out _ _ ?_
                    clear hK K
                    (try simp only [Act.put, List.getElem_toArray, List.getElem_cons_succ, List.getElem_cons_zero, List.setIfInBounds_toArray, List.set_cons_zero, List.set_cons_succ])
                    refine wpAnyF_done (by kernel_rfl) ?_ _
                    go_wp2
                    go_roundw
                    case rel => exact ⟨i + 1, _, (by rw [HPN.out]), rfl, by omega, by omega, HEND.out⟩
                    case measure => simp [intOf]; omega
                  · have m0 : ((i : Int) % (n : Int) == 0) = false := by rw [beq_eq_false_iff_ne, ← Int.natCast_emod]; intro h; exact h0 (by exact_mod_cast h)
                    have m8 : ((n : Int) == 8) = true := by rw [h8]; rfl
                    have m4 : ((i : Int) % 8 == 4) = false := by rw [beq_eq_false_iff_ne]; omega
                    have HPN : Hid (Gf.pw 2 ((i + 1 - 1) / n) = P) := Lib.hid (by rw [Nat.add_sub_cancel, hP, pow_same h0 (by omega)])
                    obtain ⟨e0, he0⟩ : ∃ e, e = x0 ^^^ y0 := ⟨_, rfl⟩
                    have hxe0 : bits BinOp.xor IntKind.u8 (x0 : Int) (y0 : Int) = (e0 : Int) := by rw [he0]; exact xor8 bx0 by0
                    obtain ⟨e1, he1⟩ : ∃ e, e = x1 ^^^ y1 := ⟨_, rfl⟩
                    have hxe1 : bits BinOp.xor IntKind.u8 (x1 : Int) (y1 : Int) = (e1 : Int) := by rw [he1]; exact xor8 bx1 by1
                    obtain ⟨e2, he2⟩ : ∃ e, e = x2 ^^^ y2 := ⟨_, rfl⟩
                    have hxe2 : bits BinOp.xor IntKind.u8 (x2 : Int) (y2 : Int) = (e2 : Int) := by rw [he2]; exact xor8 bx2 by2
                    obtain ⟨e3, he3⟩ : ∃ e, e = x3 ^^^ y3 := ⟨_, rfl⟩
                    have hxe3 : bits BinOp.xor IntKind.u8 (x3 : Int) (y3 : Int) = (e3 : Int) := by rw [he3]; exact xor8 bx3 by3
                    have HKS : Hid (Aes.sch Gf.sub key n (i + 1) = ks ++ [e0, e1, e2, e3]) := Lib.hid (by rw [hsch, (show bv n ks i 0 = y0 by unfold bv; rw [if_neg h0, if_neg (fun c => h4 c.2), ← hj, hy0]), (show bv n ks i 1 = y1 by unfold bv; rw [if_neg h0, if_neg (fun c => h4 c.2), ← hj, hy1]), (show bv n ks i 2 = y2 by unfold bv; rw [if_neg h0, if_neg (fun c => h4 c.2), ← hj, hy2]), (show bv n ks i 3 = y3 by unfold bv; rw [if_neg h0, if_neg (fun c => h4 c.2), ← hj, hy3]), ← hk, ← hx0, ← hx1, ← hx2, ← hx3, he0, he1, he2, he3])
                    have hVS : RefS w w.heap.size (twF 256) (.slice (some ⟨bw, 0, none⟩) i cap) ((n : Int) + 6) i ks (((wr.alloc (.cells #[.int .u8 (y0 : Int), .int .u8 (y1 : Int), .int .u8 (y2 : Int), .int .u8 (y3 : Int)] TyW)).alloc (.cells #[.int .u8 (x0 : Int), .int .u8 (x1 : Int), .int .u8 (x2 : Int), .int .u8 (x3 : Int)] TyW))) := ((hS.alloc (.cells #[.int .u8 (y0 : Int), .int .u8 (y1 : Int), .int .u8 (y2 : Int), .int .u8 (y3 : Int)] TyW)).alloc (.cells #[.int .u8 (x0 : Int), .int .u8 (x1 : Int), .int .u8 (x2 : Int), .int .u8 (x3 : Int)] TyW))
                    have hVZ : (((wr.alloc (.cells #[.int .u8 (y0 : Int), .int .u8 (y1 : Int), .int .u8 (y2 : Int), .int .u8 (y3 : Int)] TyW)).alloc (.cells #[.int .u8 (x0 : Int), .int .u8 (x1 : Int), .int .u8 (x2 : Int), .int .u8 (x3 : Int)] TyW))).heap.size = wr.heap.size + 1 + 1 := by simp
                    have hBQ := (two_blocks wr #[.int .u8 (y0 : Int), .int .u8 (y1 : Int), .int .u8 (y2 : Int), .int .u8 (y3 : Int)] #[.int .u8 (x0 : Int), .int .u8 (x1 : Int), .int .u8 (x2 : Int), .int .u8 (x3 : Int)] TyW).1
                    have hBX := (two_blocks wr #[.int .u8 (y0 : Int), .int .u8 (y1 : Int), .int .u8 (y2 : Int), .int .u8 (y3 : Int)] #[.int .u8 (x0 : Int), .int .u8 (x1 : Int), .int .u8 (x2 : Int), .int .u8 (x3 : Int)] TyW).2
                    have hV0 : (((wr.alloc (.cells #[.int .u8 (y0 : Int), .int .u8 (y1 : Int), .int .u8 (y2 : Int), .int .u8 (y3 : Int)] TyW)).alloc (.cells #[.int .u8 (x0 : Int), .int .u8 (x1 : Int), .int .u8 (x2 : Int), .int .u8 (x3 : Int)] TyW))).cell? ⟨wr.heap.size, 0, none⟩ = some (.int .u8 (y0 : Int)) := blk_cell hBQ 0
                    have hU0 : (((wr.alloc (.cells #[.int .u8 (y0 : Int), .int .u8 (y1 : Int), .int .u8 (y2 : Int), .int .u8 (y3 : Int)] TyW)).alloc (.cells #[.int .u8 (x0 : Int), .int .u8 (x1 : Int), .int .u8 (x2 : Int), .int .u8 (x3 : Int)] TyW))).cell? ⟨wr.heap.size + 1, 0, none⟩ = some (.int .u8 (x0 : Int)) := blk_cell hBX 0
                    have hV1 : (((wr.alloc (.cells #[.int .u8 (y0 : Int), .int .u8 (y1 : Int), .int .u8 (y2 : Int), .int .u8 (y3 : Int)] TyW)).alloc (.cells #[.int .u8 (x0 : Int), .int .u8 (x1 : Int), .int .u8 (x2 : Int), .int .u8 (x3 : Int)] TyW))).cell? ⟨wr.heap.size, 1, none⟩ = some (.int .u8 (y1 : Int)) := blk_cell hBQ 1
                    have hU1 : (((wr.alloc (.cells #[.int .u8 (y0 : Int), .int .u8 (y1 : Int), .int .u8 (y2 : Int), .int .u8 (y3 : Int)] TyW)).alloc (.cells #[.int .u8 (x0 : Int), .int .u8 (x1 : Int), .int .u8 (x2 : Int), .int .u8 (x3 : Int)] TyW))).cell? ⟨wr.heap.size + 1, 1, none⟩ = some (.int .u8 (x1 : Int)) := blk_cell hBX 1
                    have hV2 : (((wr.alloc (.cells #[.int .u8 (y0 : Int), .int .u8 (y1 : Int), .int .u8 (y2 : Int), .int .u8 (y3 : Int)] TyW)).alloc (.cells #[.int .u8 (x0 : Int), .int .u8 (x1 : Int), .int .u8 (x2 : Int), .int .u8 (x3 : Int)] TyW))).cell? ⟨wr.heap.size, 2, none⟩ = some (.int .u8 (y2 : Int)) := blk_cell hBQ 2
                    have hU2 : (((wr.alloc (.cells #[.int .u8 (y0 : Int), .int .u8 (y1 : Int), .int .u8 (y2 : Int), .int .u8 (y3 : Int)] TyW)).alloc (.cells #[.int .u8 (x0 : Int), .int .u8 (x1 : Int), .int .u8 (x2 : Int), .int .u8 (x3 : Int)] TyW))).cell? ⟨wr.heap.size + 1, 2, none⟩ = some (.int .u8 (x2 : Int)) := blk_cell hBX 2
                    have hV3 : (((wr.alloc (.cells #[.int .u8 (y0 : Int), .int .u8 (y1 : Int), .int .u8 (y2 : Int), .int .u8 (y3 : Int)] TyW)).alloc (.cells #[.int .u8 (x0 : Int), .int .u8 (x1 : Int), .int .u8 (x2 : Int), .int .u8 (x3 : Int)] TyW))).cell? ⟨wr.heap.size, 3, none⟩ = some (.int .u8 (y3 : Int)) := blk_cell hBQ 3
                    have hU3 : (((wr.alloc (.cells #[.int .u8 (y0 : Int), .int .u8 (y1 : Int), .int .u8 (y2 : Int), .int .u8 (y3 : Int)] TyW)).alloc (.cells #[.int .u8 (x0 : Int), .int .u8 (x1 : Int), .int .u8 (x2 : Int), .int .u8 (x3 : Int)] TyW))).cell? ⟨wr.heap.size + 1, 3, none⟩ = some (.int .u8 (x3 : Int)) := blk_cell hBX 3
                    clear hBQ hBX
                    clear h8
                    have HVF := Lib.hid (And.intro hVS (And.intro hVZ (And.intro hV0 (And.intro hV1 (And.intro hV2 (And.intro hV3 (And.intro hU0 (And.intro hU1 (And.intro hU2 hU3)))))))))
                    clear hVS hVZ hV0 hV1 hV2 hV3 hU0 hU1 hU2 hU3
                    clear hx0 hx1 hx2 hx3 hy0 hy1 hy2 hy3 he0 he1 he2 he3 hsch hwc hj hk hP
                    have HSS := Lib.hid hS
                    clear hS
                    obtain ⟨i0, hi0, hz0, hz1, hz2⟩ := info_parts info_word
                    go_wp2_with fail
                    obtain ⟨hVS, hVZ, hV0, hV1, hV2, hV3, hU0, hU1, hU2, hU3⟩ := HVF.out
                    generalize hV : ((wr.alloc (.cells #[.int .u8 (y0 : Int), .int .u8 (y1 : Int), .int .u8 (y2 : Int), .int .u8 (y3 : Int)] TyW)).alloc (.cells #[.int .u8 (x0 : Int), .int .u8 (x1 : Int), .int .u8 (x2 : Int), .int .u8 (x3 : Int)] TyW)) = V at *
                    have HVS := Lib.hid hVS
                    have HVZ := Lib.hid hVZ
                    clear hVS hVZ hV
                    refine wp_region_F (S := (fun W => W.cell? ⟨wr.heap.size, 0, none⟩ = some (.int .u8 (y0 : Int)) ∧ W.cell? ⟨wr.heap.size, 1, none⟩ = some (.int .u8 (y1 : Int)) ∧ W.cell? ⟨wr.heap.size, 2, none⟩ = some (.int .u8 (y2 : Int)) ∧ W.cell? ⟨wr.heap.size, 3, none⟩ = some (.int .u8 (y3 : Int)) ∧ W.cell? ⟨wr.heap.size + 1, 0, none⟩ = some (.int .u8 (x0 : Int)) ∧ W.cell? ⟨wr.heap.size + 1, 1, none⟩ = some (.int .u8 (x1 : Int)) ∧ W.cell? ⟨wr.heap.size + 1, 2, none⟩ = some (.int .u8 (x2 : Int)) ∧ W.cell? ⟨wr.heap.size + 1, 3, none⟩ = some (.int .u8 (x3 : Int)) ∧ W.cell? ⟨w.heap.size, 512, none⟩ = some (.slice (some ⟨bw, 0, none⟩) i cap))) [30] (by kernel_rfl) (⟨hV0, hV1, hV2, hV3, hU0, hU1, hU2, hU3, HVS.out.words⟩) (fun hHeld => ?_)
                    refine wpAnyF_take (i := 0) (oi := _) (v := ?_) rfl (by kernel_rfl) (by kernel_rfl) (by kernel_rfl) (by kernel_rfl) (fun _ _ _ h => h) (Or.inl ⟨by rfl, ?_⟩) (by assumption) ?_
                    rotate_left 1
                    · intro w hSw
                      (try dsimp only at hSw)
                      (first | (go_simp; done) | (go_simp; with_reducible rfl))
                    (try simp only [Act.put, List.getElem_toArray, List.getElem_cons_succ, List.getElem_cons_zero, List.setIfInBounds_toArray, List.set_cons_zero, List.set_cons_succ])
                    refine wpAnyF_take (i := 1) (oi := _) (v := ?_) rfl (by kernel_rfl) (by kernel_rfl) (by kernel_rfl) (by kernel_rfl) (fun _ _ _ h => h) (Or.inl ⟨by rfl, ?_⟩) (by assumption) ?_
                    rotate_left 1
                    · intro w hSw
                      (try dsimp only at hSw)
                      (first | (go_simp; done) | (go_simp; with_reducible rfl))
                    (try simp only [Act.put, List.getElem_toArray, List.getElem_cons_succ, List.getElem_cons_zero, List.setIfInBounds_toArray, List.set_cons_zero, List.set_cons_succ])
                    refine wpAnyF_take (i := 2) (oi := _) (v := ?_) rfl (by kernel_rfl) (by kernel_rfl) (by kernel_rfl) (by kernel_rfl) (fun _ _ _ h => h) (Or.inl ⟨by rfl, ?_⟩) (by assumption) ?_
                    rotate_left 1
                    · intro w hSw
                      (try dsimp only at hSw)
                      (first | (go_simp; done) | (go_simp; with_reducible rfl))
                    (try simp only [Act.put, List.getElem_toArray, List.getElem_cons_succ, List.getElem_cons_zero, List.setIfInBounds_toArray, List.set_cons_zero, List.set_cons_succ])
                    refine wpAnyF_take (i := 3) (oi := _) (v := ?_) rfl (by kernel_rfl) (by kernel_rfl) (by kernel_rfl) (by kernel_rfl) (fun _ _ _ h => h) (Or.inl ⟨by rfl, ?_⟩) (by assumption) ?_
                    rotate_left 1
                    · intro w hSw
                      (try dsimp only at hSw)
                      (first | (go_simp; done) | (go_simp; with_reducible rfl))
                    (try simp only [Act.put, List.getElem_toArray, List.getElem_cons_succ, List.getElem_cons_zero, List.setIfInBounds_toArray, List.set_cons_zero, List.set_cons_succ])
                    refine wpAnyF_take (i := 4) (oi := _) (v := ?_) rfl (by kernel_rfl) (by kernel_rfl) (by kernel_rfl) (by kernel_rfl) (fun _ _ _ h => h) (Or.inl ⟨by rfl, ?_⟩) (by assumption) ?_
                    rotate_left 1
                    · intro w hSw
                      (try dsimp only at hSw)
                      (first | (go_simp; done) | (go_simp; with_reducible rfl))
                    (try simp only [Act.put, List.getElem_toArray, List.getElem_cons_succ, List.getElem_cons_zero, List.setIfInBounds_toArray, List.set_cons_zero, List.set_cons_succ])
                    refine wpAnyF_take (i := 5) (oi := _) (v := ?_) rfl (by kernel_rfl) (by kernel_rfl) (by kernel_rfl) (by kernel_rfl) (fun _ _ _ h => h) (Or.inl ⟨by rfl, ?_⟩) (by assumption) ?_
                    rotate_left 1
                    · intro w hSw
                      (try dsimp only at hSw)
                      (first | (go_simp; done) | (go_simp; with_reducible rfl))
                    (try simp only [Act.put, List.getElem_toArray, List.getElem_cons_succ, List.getElem_cons_zero, List.setIfInBounds_toArray, List.set_cons_zero, List.set_cons_succ])
                    refine wpAnyF_take (i := 6) (oi := _) (v := ?_) rfl (by kernel_rfl) (by kernel_rfl) (by kernel_rfl) (by kernel_rfl) (fun _ _ _ h => h) (Or.inl ⟨by rfl, ?_⟩) (by assumption) ?_
                    rotate_left 1
                    · intro w hSw
                      (try dsimp only at hSw)
                      (first | (go_simp; done) | (go_simp; with_reducible rfl))
                    (try simp only [Act.put, List.getElem_toArray, List.getElem_cons_succ, List.getElem_cons_zero, List.setIfInBounds_toArray, List.set_cons_zero, List.set_cons_succ])
                    refine wpAnyF_take (i := 7) (oi := _) (v := ?_) rfl (by kernel_rfl) (by kernel_rfl) (by kernel_rfl) (by kernel_rfl) (fun _ _ _ h => h) (Or.inl ⟨by rfl, ?_⟩) (by assumption) ?_
                    rotate_left 1
                    · intro w hSw
                      (try dsimp only at hSw)
                      (first | (go_simp; done) | (go_simp; with_reducible rfl))
                    (try simp only [Act.put, List.getElem_toArray, List.getElem_cons_succ, List.getElem_cons_zero, List.setIfInBounds_toArray, List.set_cons_zero, List.set_cons_succ])
                    refine wpAnyF_take (i := 8) (oi := _) (v := ?_) rfl (by kernel_rfl) (by kernel_rfl) (by kernel_rfl) (by kernel_rfl) (fun _ _ _ h => h) (Or.inl ⟨by rfl, ?_⟩) (by assumption) ?_
                    rotate_left 1
                    · intro w hSw
                      (try dsimp only at hSw)
                      (first | (go_simp; done) | (go_simp; with_reducible rfl))
                    (try simp only [Act.put, List.getElem_toArray, List.getElem_cons_succ, List.getElem_cons_zero, List.setIfInBounds_toArray, List.set_cons_zero, List.set_cons_succ])
                    refine wpAnyF_take (i := 9) (oi := _) (v := ?_) rfl (by kernel_rfl) (by kernel_rfl) (by kernel_rfl) (by kernel_rfl) (fun _ _ _ h => h) (Or.inl ⟨by rfl, ?_⟩) (by assumption) ?_
                    rotate_left 1
                    · intro w hSw
                      (try dsimp only at hSw)
                      (first | (go_simp; done) | (go_simp; with_reducible rfl))
                    (try simp only [Act.put, List.getElem_toArray, List.getElem_cons_succ, List.getElem_cons_zero, List.setIfInBounds_toArray, List.set_cons_zero, List.set_cons_succ])
                    refine wpAnyF_take (i := 10) (oi := _) (v := ?_) rfl (by kernel_rfl) (by kernel_rfl) (by kernel_rfl) (by kernel_rfl) (fun _ _ _ h => h) (Or.inl ⟨by rfl, ?_⟩) (by assumption) ?_
                    rotate_left 1
                    · intro w hSw
                      (try dsimp only at hSw)
                      (first | (go_simp; done) | (go_simp; with_reducible rfl))
                    (try simp only [Act.put, List.getElem_toArray, List.getElem_cons_succ, List.getElem_cons_zero, List.setIfInBounds_toArray, List.set_cons_zero, List.set_cons_succ])
                    refine wpAnyF_take (i := 11) (oi := _) (v := ?_) rfl (by kernel_rfl) (by kernel_rfl) (by kernel_rfl) (by kernel_rfl) (fun _ _ _ h => h) (Or.inl ⟨by rfl, ?_⟩) (by assumption) ?_
                    rotate_left 1
                    · intro w hSw
                      (try dsimp only at hSw)
                      (first | (go_simp; done) | (go_simp; with_reducible rfl))
                    (try simp only [Act.put, List.getElem_toArray, List.getElem_cons_succ, List.getElem_cons_zero, List.setIfInBounds_toArray, List.set_cons_zero, List.set_cons_succ])
                    refine wpAnyF_take (i := 12) (oi := _) (v := ?_) rfl (by kernel_rfl) (by kernel_rfl) (by kernel_rfl) (by kernel_rfl) (fun _ _ _ h => h) (Or.inl ⟨by rfl, ?_⟩) (by assumption) ?_
                    rotate_left 1
                    · intro w hSw
                      (try dsimp only at hSw)
                      (first | (go_simp; done) | (go_simp; with_reducible rfl))
                    (try simp only [Act.put, List.getElem_toArray, List.getElem_cons_succ, List.getElem_cons_zero, List.setIfInBounds_toArray, List.set_cons_zero, List.set_cons_succ])
                    refine wpAnyF_take (i := 13) (oi := _) (v := ?_) rfl (by kernel_rfl) (by kernel_rfl) (by kernel_rfl) (by kernel_rfl) (fun _ _ _ h => h) (Or.inl ⟨by rfl, ?_⟩) (by assumption) ?_
                    rotate_left 1
                    · intro w hSw
                      (try dsimp only at hSw)
                      (first | (go_simp; done) | (go_simp; with_reducible rfl))
                    (try simp only [Act.put, List.getElem_toArray, List.getElem_cons_succ, List.getElem_cons_zero, List.setIfInBounds_toArray, List.set_cons_zero, List.set_cons_succ])
                    refine wpAnyF_take (i := 14) (oi := _) (v := ?_) rfl (by kernel_rfl) (by kernel_rfl) (by kernel_rfl) (by kernel_rfl) (fun _ _ _ h => h) (Or.inl ⟨by rfl, ?_⟩) (by assumption) ?_
                    rotate_left 1
                    · intro w hSw
                      (try dsimp only at hSw)
                      (first | (go_simp; done) | (go_simp; with_reducible rfl))
                    (try simp only [Act.put, List.getElem_toArray, List.getElem_cons_succ, List.getElem_cons_zero, List.setIfInBounds_toArray, List.set_cons_zero, List.set_cons_succ])
                    refine wpAnyF_take (i := 15) (oi := _) (v := ?_) rfl (by kernel_rfl) (by kernel_rfl) (by kernel_rfl) (by kernel_rfl) (fun _ _ _ h => h) (Or.inl ⟨by rfl, ?_⟩) (by assumption) ?_
                    rotate_left 1
                    · intro w hSw
                      (try dsimp only at hSw)
                      (first | (go_simp; done) | (go_simp; with_reducible rfl))
                    (try simp only [Act.put, List.getElem_toArray, List.getElem_cons_succ, List.getElem_cons_zero, List.setIfInBounds_toArray, List.set_cons_zero, List.set_cons_succ])
                    refine wpAnyF_take (i := 16) (oi := _) (v := ?_) rfl (by kernel_rfl) (by kernel_rfl) (by kernel_rfl) (by kernel_rfl) (fun _ _ _ h => h) (Or.inl ⟨by rfl, ?_⟩) (by assumption) ?_
                    rotate_left 1
                    · intro w hSw
                      (try dsimp only at hSw)
                      (first | (go_simp; done) | (go_simp; with_reducible rfl))
                    (try simp only [Act.put, List.getElem_toArray, List.getElem_cons_succ, List.getElem_cons_zero, List.setIfInBounds_toArray, List.set_cons_zero, List.set_cons_succ])
                    refine wpAnyF_take (i := 17) (oi := _) (v := ?_) rfl (by kernel_rfl) (by kernel_rfl) (by kernel_rfl) (by kernel_rfl) (fun _ _ _ h => h) (Or.inl ⟨by rfl, ?_⟩) (by assumption) ?_
                    rotate_left 1
                    · intro w hSw
                      (try dsimp only at hSw)
                      (first | (go_simp; done) | (go_simp; with_reducible rfl))
                    (try simp only [Act.put, List.getElem_toArray, List.getElem_cons_succ, List.getElem_cons_zero, List.setIfInBounds_toArray, List.set_cons_zero, List.set_cons_succ])
                    refine wpAnyF_take (i := 18) (oi := _) (v := ?_) rfl (by kernel_rfl) (by kernel_rfl) (by kernel_rfl) (by kernel_rfl) (fun _ _ _ h => h) (Or.inl ⟨by rfl, ?_⟩) (by assumption) ?_
                    rotate_left 1
                    · intro w hSw
                      (try dsimp only at hSw)
                      (first | (go_simp; done) | (go_simp; with_reducible rfl))
                    (try simp only [Act.put, List.getElem_toArray, List.getElem_cons_succ, List.getElem_cons_zero, List.setIfInBounds_toArray, List.set_cons_zero, List.set_cons_succ])
                    refine wpAnyF_take (i := 19) (oi := _) (v := ?_) rfl (by kernel_rfl) (by kernel_rfl) (by kernel_rfl) (by kernel_rfl) (fun _ _ _ h => h) (Or.inl ⟨by rfl, ?_⟩) (by assumption) ?_
                    rotate_left 1
                    · intro w hSw
                      (try dsimp only at hSw)
                      (first | (go_simp; done) | (go_simp; with_reducible rfl))
                    (try simp only [Act.put, List.getElem_toArray, List.getElem_cons_succ, List.getElem_cons_zero, List.setIfInBounds_toArray, List.set_cons_zero, List.set_cons_succ])
                    refine wpAnyF_take (i := 20) (oi := _) (v := ?_) rfl (by kernel_rfl) (by kernel_rfl) (by kernel_rfl) (by kernel_rfl) (fun _ _ _ h => h) (Or.inl ⟨by rfl, ?_⟩) (by assumption) ?_
                    rotate_left 1
                    · intro w hSw
                      (try dsimp only at hSw)
                      (first | (go_simp; done) | (go_simp; with_reducible rfl))
                    (try simp only [Act.put, List.getElem_toArray, List.getElem_cons_succ, List.getElem_cons_zero, List.setIfInBounds_toArray, List.set_cons_zero, List.set_cons_succ])
                    refine wpAnyF_take (i := 21) (oi := _) (v := ?_) rfl (by kernel_rfl) (by kernel_rfl) (by kernel_rfl) (by kernel_rfl) (fun _ _ _ h => h) (Or.inl ⟨by rfl, ?_⟩) (by assumption) ?_
                    rotate_left 1
                    · intro w hSw
                      (try dsimp only at hSw)
                      (first | (go_simp; done) | (go_simp; with_reducible rfl))
                    (try simp only [Act.put, List.getElem_toArray, List.getElem_cons_succ, List.getElem_cons_zero, List.setIfInBounds_toArray, List.set_cons_zero, List.set_cons_succ])
                    refine wpAnyF_take (i := 22) (oi := _) (v := ?_) rfl (by kernel_rfl) (by kernel_rfl) (by kernel_rfl) (by kernel_rfl) (fun _ _ _ h => h) (Or.inl ⟨by rfl, ?_⟩) (by assumption) ?_
                    rotate_left 1
                    · intro w hSw
                      (try dsimp only at hSw)
                      (first | (go_simp; done) | (go_simp; with_reducible rfl))
                    (try simp only [Act.put, List.getElem_toArray, List.getElem_cons_succ, List.getElem_cons_zero, List.setIfInBounds_toArray, List.set_cons_zero, List.set_cons_succ])
                    refine wpAnyF_take (i := 23) (oi := _) (v := ?_) rfl (by kernel_rfl) (by kernel_rfl) (by kernel_rfl) (by kernel_rfl) (fun _ _ _ h => h) (Or.inl ⟨by rfl, ?_⟩) (by assumption) ?_
                    rotate_left 1
                    · intro w hSw
                      (try dsimp only at hSw)
                      (first | (go_simp; done) | (go_simp; with_reducible rfl))
                    (try simp only [Act.put, List.getElem_toArray, List.getElem_cons_succ, List.getElem_cons_zero, List.setIfInBounds_toArray, List.set_cons_zero, List.set_cons_succ])
                    refine wpAnyF_take (i := 24) (oi := _) (v := ?_) rfl (by kernel_rfl) (by kernel_rfl) (by kernel_rfl) (by kernel_rfl) (fun _ _ _ h => h) (Or.inl ⟨by rfl, ?_⟩) (by assumption) ?_
                    rotate_left 1
                    · intro w hSw
                      (try dsimp only at hSw)
                      (first | (go_simp; done) | (go_simp; with_reducible rfl))
                    (try simp only [Act.put, List.getElem_toArray, List.getElem_cons_succ, List.getElem_cons_zero, List.setIfInBounds_toArray, List.set_cons_zero, List.set_cons_succ])
                    refine wpAnyF_take (i := 25) (oi := _) (v := ?_) rfl (by kernel_rfl) (by kernel_rfl) (by kernel_rfl) (by kernel_rfl) (fun _ _ _ h => h) (Or.inl ⟨by rfl, ?_⟩) (by assumption) ?_
                    rotate_left 1
                    · intro w hSw
                      (try dsimp only at hSw)
                      (first | (go_simp; done) | (go_simp; with_reducible rfl))
                    (try simp only [Act.put, List.getElem_toArray, List.getElem_cons_succ, List.getElem_cons_zero, List.setIfInBounds_toArray, List.set_cons_zero, List.set_cons_succ])
                    have hS1 := HVS.out.drew.alloc (.cells #[.int .u8 (e0 : Int), .int .u8 (e1 : Int), .int .u8 (e2 : Int), .int .u8 (e3 : Int)] TyW)
                    have HS1' := Lib.hid hS1
                    have HC1 : Hid (∀ p : Addr, p.block < V.heap.size → (V.drew.alloc (.cells #[.int .u8 (e0 : Int), .int .u8 (e1 : Int), .int .u8 (e2 : Int), .int .u8 (e3 : Int)] TyW)).cell? p = V.cell? p) := Lib.hid (fun p hp => World.cell?_alloc_lt V.drew _ p hp)
                    clear hS1
                    refine wpAnyF_ready (rs := [26]) (by kernel_rfl) (by simp) ?_
                    refine AllReadyF.cons (o := _) rfl (fun K hK => ?_) AllReadyF.nil
                    go_simp
                    refine hK.out _ _ (⟨(HC1.out _ (by have := HVZ.out; show wr.heap.size < V.heap.size; omega)).trans hV0, (HC1.out _ (by have := HVZ.out; show wr.heap.size < V.heap.size; omega)).trans hV1, (HC1.out _ (by have := HVZ.out; show wr.heap.size < V.heap.size; omega)).trans hV2, (HC1.out _ (by have := HVZ.out; show wr.heap.size < V.heap.size; omega)).trans hV3, (HC1.out _ (by have := HVZ.out; show wr.heap.size + 1 < V.heap.size; omega)).trans hU0, (HC1.out _ (by have := HVZ.out; show wr.heap.size + 1 < V.heap.size; omega)).trans hU1, (HC1.out _ (by have := HVZ.out; show wr.heap.size + 1 < V.heap.size; omega)).trans hU2, (HC1.out _ (by have := HVZ.out; show wr.heap.size + 1 < V.heap.size; omega)).trans hU3, HS1'.out.words⟩) (fun hHeld26 => ?_)
                    clear hK K
                    (try simp only [Act.put, List.getElem_toArray, List.getElem_cons_succ, List.getElem_cons_zero, List.setIfInBounds_toArray, List.set_cons_zero, List.set_cons_succ])
                    have HOW := Lib.hid HS1'.out.own
                    have HNW : Hid (∀ j u, (bvals [e0, e1, e2, e3])[j]? = some u → (V.drew.alloc (.cells #[.int .u8 (e0 : Int), .int .u8 (e1 : Int), .int .u8 (e2 : Int), .int .u8 (e3 : Int)] TyW)).cell? ((⟨V.heap.size, 0, none⟩ : Addr).add j) = some u) := Lib.hid (World.news_of_block (cs := (bvals [e0, e1, e2, e3]).toArray) (t := TyW) (fr := (0, 0)) (by exact heap_alloc_new V _))
                    have HSZ : Hid (w.heap.size + 1 ≤ (V.drew.alloc (.cells #[.int .u8 (e0 : Int), .int .u8 (e1 : Int), .int .u8 (e2 : Int), .int .u8 (e3 : Int)] TyW)).heap.size) := Lib.hid (by have := HVS.out.below.size; simp; omega)
                    have HSE : Hid ((V.drew.alloc (.cells #[.int .u8 (e0 : Int), .int .u8 (e1 : Int), .int .u8 (e2 : Int), .int .u8 (e3 : Int)] TyW)).heap.size = V.heap.size + 1) := Lib.hid (by simp)
                    refine wpAnyF_ready (rs := [27]) (by kernel_rfl) (by simp) ?_
                    refine AllReadyF.cons (o := _) rfl (fun K hK => ?_) AllReadyF.nil
                    refine step_append_lies _ (by rfl) (.tmp 187) (.tmp 209) 38 (by rfl) (w.heap.size + 1) TyW i0 _ 4 4 Try.underlying38 hi0 hz0 hz1 hz2 rfl (by omega) (.slice (some ⟨bw, 0, none⟩) i cap) i (bvals ks) (by rfl) (by exact HOW.out) ⟨V.heap.size, 0, none⟩ 1 1 (bvals [e0, e1, e2, e3]) (by rfl) (by rfl) (by exact HNW.out) (bvals_one _) (by omega) (by unfold maxLen; omega) (by omega) (by exact HSZ.out) (V.heap.size + 1) (by exact HSE.out) ?_
                    intro gg cap3 w3 hown3 hgrow3 hat3 hlt3
                    have HEND : Hid (RefS w w.heap.size (twF 256) (.slice (some ⟨gg, 0, none⟩) (i + 1) cap3) ((n : Int) + 6) (i + 1) (Aes.sch Gf.sub key n (i + 1)) (w3.setCell ⟨w.heap.size, 512, none⟩ (.slice (some ⟨gg, 0, none⟩) (i + 1) cap3))) := Lib.hid (HS1'.out.grow hgrow3 (by rw [HKS.out, show bvals (ks ++ [e0, e1, e2, e3]) = bvals ks ++ bvals [e0, e1, e2, e3] by simp [bvals]]; exact hown3))
                    have hG : ∀ (p : Addr), p.block < V.heap.size → p.block ≠ bw → w3.cell? p = (V.drew.alloc (.cells #[.int .u8 (e0 : Int), .int .u8 (e1 : Int), .int .u8 (e2 : Int), .int .u8 (e3 : Int)] TyW)).cell? p := fun p hp hne => hgrow3.cell_far p (by simp; omega) (fun e => hne (by simpa [Value.ownBlock] using e))
                    have f512 : w3.frozen? ⟨w.heap.size, 512, none⟩ = false := (HS1'.out.grown_frozen hgrow3 (Nat.le_refl _)).trans (HS1'.out.frozen (by omega))
                    have hk3 := hHeld26
                    have hz9 : wr.heap.size < V.heap.size := by rw [HVZ.out]; omega
                    have hz10 : wr.heap.size + 1 < V.heap.size := by rw [HVZ.out]; omega
                    have hz0 : w.heap.size < V.heap.size := by rw [HVZ.out]; omega
                    have hn9 : wr.heap.size ≠ bw := by omega
                    have hn10 : wr.heap.size + 1 ≠ bw := by omega
                    have hn0 : w.heap.size ≠ bw := by omega
                    refine hK.out _ _ (⟨(hG _ hz9 hn9).trans hk3.1, (hG _ hz9 hn9).trans hk3.2.1, (hG _ hz9 hn9).trans hk3.2.2.1, (hG _ hz9 hn9).trans hk3.2.2.2.1, (hG _ hz10 hn10).trans hk3.2.2.2.2.1, (hG _ hz10 hn10).trans hk3.2.2.2.2.2.1, (hG _ hz10 hn10).trans hk3.2.2.2.2.2.2.1, (hG _ hz10 hn10).trans hk3.2.2.2.2.2.2.2.1, (hG _ hz0 hn0).trans hk3.2.2.2.2.2.2.2.2⟩) (fun hHeld27 => ?_)
                    clear hK K
                    (try simp only [Act.put, List.getElem_toArray, List.getElem_cons_succ, List.getElem_cons_zero, List.setIfInBounds_toArray, List.set_cons_zero, List.set_cons_succ])
                    clear hG hz9 hz10 hz0 hn9 hn10 hn0 hk3
                    refine wpAnyF_ready (rs := [28]) (by kernel_rfl) (by simp) ?_
                    refine AllReadyF.cons (o := _) rfl (fun K hK => ?_) AllReadyF.nil
                    go_simp
                    refine hK.out _ _ (hHeld27) (fun hHeld28 => ?_)
                    clear hK K
                    (try simp only [Act.put, List.getElem_toArray, List.getElem_cons_succ, List.getElem_cons_zero, List.setIfInBounds_toArray, List.set_cons_zero, List.set_cons_succ])
                    refine wpAnyF_ready (rs := [29]) (by kernel_rfl) (by simp) ?_
                    refine AllReadyF.cons (o := _) rfl (fun K hK => ?_) AllReadyF.nil
                    go_simp
                    refine hK.out _ _ (hHeld27) (fun hHeld29 => ?_)
                    clear hK K
                    (try simp only [Act.put, List.getElem_toArray, List.getElem_cons_succ, List.getElem_cons_zero, List.setIfInBounds_toArray, List.set_cons_zero, List.set_cons_succ])
                    have c512 := hHeld27.2.2.2.2.2.2.2.2
                    refine wpAnyF_ready (rs := [30]) (by kernel_rfl) (by simp) ?_
                    refine AllReadyF.last (o := _) rfl (by rfl) (fun K hK => ?_) AllReadyF.nil
                    go_simp
                    refine hK.out _ _ ?_
                    clear hK K
                    (try simp only [Act.put, List.getElem_toArray, List.getElem_cons_succ, List.getElem_cons_zero, List.setIfInBounds_toArray, List.set_cons_zero, List.set_cons_succ])
                    refine wpAnyF_done (by kernel_rfl) ?_ _
                    go_wp2
                    go_roundw
                    case rel => exact ⟨i + 1, _, (by rw [HPN.out]), rfl, by omega, by omega, HEND.out⟩
                    case measure => simp [intOf]; omega
                · have m0 : ((i : Int) % (n : Int) == 0) = false := by rw [beq_eq_false_iff_ne, ← Int.natCast_emod]; intro h; exact h0 (by exact_mod_cast h)
                  have m8 : ((n : Int) == 8) = false := by rw [beq_eq_false_iff_ne]; omega
                  have HPN : Hid (Gf.pw 2 ((i + 1 - 1) / n) = P) := Lib.hid (by rw [Nat.add_sub_cancel, hP, pow_same h0 (by omega)])
                  obtain ⟨e0, he0⟩ : ∃ e, e = x0 ^^^ y0 := ⟨_, rfl⟩
                  have hxe0 : bits BinOp.xor IntKind.u8 (x0 : Int) (y0 : Int) = (e0 : Int) := by rw [he0]; exact xor8 bx0 by0
                  obtain ⟨e1, he1⟩ : ∃ e, e = x1 ^^^ y1 := ⟨_, rfl⟩
                  have hxe1 : bits BinOp.xor IntKind.u8 (x1 : Int) (y1 : Int) = (e1 : Int) := by rw [he1]; exact xor8 bx1 by1
                  obtain ⟨e2, he2⟩ : ∃ e, e = x2 ^^^ y2 := ⟨_, rfl⟩
                  have hxe2 : bits BinOp.xor IntKind.u8 (x2 : Int) (y2 : Int) = (e2 : Int) := by rw [he2]; exact xor8 bx2 by2
                  obtain ⟨e3, he3⟩ : ∃ e, e = x3 ^^^ y3 := ⟨_, rfl⟩
                  have hxe3 : bits BinOp.xor IntKind.u8 (x3 : Int) (y3 : Int) = (e3 : Int) := by rw [he3]; exact xor8 bx3 by3
                  have HKS : Hid (Aes.sch Gf.sub key n (i + 1) = ks ++ [e0, e1, e2, e3]) := Lib.hid (by rw [hsch, (show bv n ks i 0 = y0 by unfold bv; rw [if_neg h0, if_neg (fun c => h8 c.1), ← hj, hy0]), (show bv n ks i 1 = y1 by unfold bv; rw [if_neg h0, if_neg (fun c => h8 c.1), ← hj, hy1]), (show bv n ks i 2 = y2 by unfold bv; rw [if_neg h0, if_neg (fun c => h8 c.1), ← hj, hy2]), (show bv n ks i 3 = y3 by unfold bv; rw [if_neg h0, if_neg (fun c => h8 c.1), ← hj, hy3]), ← hk, ← hx0, ← hx1, ← hx2, ← hx3, he0, he1, he2, he3])
                  have hVS : RefS w w.heap.size (twF 256) (.slice (some ⟨bw, 0, none⟩) i cap) ((n : Int) + 6) i ks (((wr.alloc (.cells #[.int .u8 (y0 : Int), .int .u8 (y1 : Int), .int .u8 (y2 : Int), .int .u8 (y3 : Int)] TyW)).alloc (.cells #[.int .u8 (x0 : Int), .int .u8 (x1 : Int), .int .u8 (x2 : Int), .int .u8 (x3 : Int)] TyW))) := ((hS.alloc (.cells #[.int .u8 (y0 : Int), .int .u8 (y1 : Int), .int .u8 (y2 : Int), .int .u8 (y3 : Int)] TyW)).alloc (.cells #[.int .u8 (x0 : Int), .int .u8 (x1 : Int), .int .u8 (x2 : Int), .int .u8 (x3 : Int)] TyW))
                  have hVZ : (((wr.alloc (.cells #[.int .u8 (y0 : Int), .int .u8 (y1 : Int), .int .u8 (y2 : Int), .int .u8 (y3 : Int)] TyW)).alloc (.cells #[.int .u8 (x0 : Int), .int .u8 (x1 : Int), .int .u8 (x2 : Int), .int .u8 (x3 : Int)] TyW))).heap.size = wr.heap.size + 1 + 1 := by simp
                  have hBQ := (two_blocks wr #[.int .u8 (y0 : Int), .int .u8 (y1 : Int), .int .u8 (y2 : Int), .int .u8 (y3 : Int)] #[.int .u8 (x0 : Int), .int .u8 (x1 : Int), .int .u8 (x2 : Int), .int .u8 (x3 : Int)] TyW).1
                  have hBX := (two_blocks wr #[.int .u8 (y0 : Int), .int .u8 (y1 : Int), .int .u8 (y2 : Int), .int .u8 (y3 : Int)] #[.int .u8 (x0 : Int), .int .u8 (x1 : Int), .int .u8 (x2 : Int), .int .u8 (x3 : Int)] TyW).2
                  have hV0 : (((wr.alloc (.cells #[.int .u8 (y0 : Int), .int .u8 (y1 : Int), .int .u8 (y2 : Int), .int .u8 (y3 : Int)] TyW)).alloc (.cells #[.int .u8 (x0 : Int), .int .u8 (x1 : Int), .int .u8 (x2 : Int), .int .u8 (x3 : Int)] TyW))).cell? ⟨wr.heap.size, 0, none⟩ = some (.int .u8 (y0 : Int)) := blk_cell hBQ 0
                  have hU0 : (((wr.alloc (.cells #[.int .u8 (y0 : Int), .int .u8 (y1 : Int), .int .u8 (y2 : Int), .int .u8 (y3 : Int)] TyW)).alloc (.cells #[.int .u8 (x0 : Int), .int .u8 (x1 : Int), .int .u8 (x2 : Int), .int .u8 (x3 : Int)] TyW))).cell? ⟨wr.heap.size + 1, 0, none⟩ = some (.int .u8 (x0 : Int)) := blk_cell hBX 0
                  have hV1 : (((wr.alloc (.cells #[.int .u8 (y0 : Int), .int .u8 (y1 : Int), .int .u8 (y2 : Int), .int .u8 (y3 : Int)] TyW)).alloc (.cells #[.int .u8 (x0 : Int), .int .u8 (x1 : Int), .int .u8 (x2 : Int), .int .u8 (x3 : Int)] TyW))).cell? ⟨wr.heap.size, 1, none⟩ = some (.int .u8 (y1 : Int)) := blk_cell hBQ 1
                  have hU1 : (((wr.alloc (.cells #[.int .u8 (y0 : Int), .int .u8 (y1 : Int), .int .u8 (y2 : Int), .int .u8 (y3 : Int)] TyW)).alloc (.cells #[.int .u8 (x0 : Int), .int .u8 (x1 : Int), .int .u8 (x2 : Int), .int .u8 (x3 : Int)] TyW))).cell? ⟨wr.heap.size + 1, 1, none⟩ = some (.int .u8 (x1 : Int)) := blk_cell hBX 1
                  have hV2 : (((wr.alloc (.cells #[.int .u8 (y0 : Int), .int .u8 (y1 : Int), .int .u8 (y2 : Int), .int .u8 (y3 : Int)] TyW)).alloc (.cells #[.int .u8 (x0 : Int), .int .u8 (x1 : Int), .int .u8 (x2 : Int), .int .u8 (x3 : Int)] TyW))).cell? ⟨wr.heap.size, 2, none⟩ = some (.int .u8 (y2 : Int)) := blk_cell hBQ 2
                  have hU2 : (((wr.alloc (.cells #[.int .u8 (y0 : Int), .int .u8 (y1 : Int), .int .u8 (y2 : Int), .int .u8 (y3 : Int)] TyW)).alloc (.cells #[.int .u8 (x0 : Int), .int .u8 (x1 : Int), .int .u8 (x2 : Int), .int .u8 (x3 : Int)] TyW))).cell? ⟨wr.heap.size + 1, 2, none⟩ = some (.int .u8 (x2 : Int)) := blk_cell hBX 2
                  have hV3 : (((wr.alloc (.cells #[.int .u8 (y0 : Int), .int .u8 (y1 : Int), .int .u8 (y2 : Int), .int .u8 (y3 : Int)] TyW)).alloc (.cells #[.int .u8 (x0 : Int), .int .u8 (x1 : Int), .int .u8 (x2 : Int), .int .u8 (x3 : Int)] TyW))).cell? ⟨wr.heap.size, 3, none⟩ = some (.int .u8 (y3 : Int)) := blk_cell hBQ 3
                  have hU3 : (((wr.alloc (.cells #[.int .u8 (y0 : Int), .int .u8 (y1 : Int), .int .u8 (y2 : Int), .int .u8 (y3 : Int)] TyW)).alloc (.cells #[.int .u8 (x0 : Int), .int .u8 (x1 : Int), .int .u8 (x2 : Int), .int .u8 (x3 : Int)] TyW))).cell? ⟨wr.heap.size + 1, 3, none⟩ = some (.int .u8 (x3 : Int)) := blk_cell hBX 3
                  clear hBQ hBX
                  have HVF := Lib.hid (And.intro hVS (And.intro hVZ (And.intro hV0 (And.intro hV1 (And.intro hV2 (And.intro hV3 (And.intro hU0 (And.intro hU1 (And.intro hU2 hU3)))))))))
                  clear hVS hVZ hV0 hV1 hV2 hV3 hU0 hU1 hU2 hU3
                  clear hx0 hx1 hx2 hx3 hy0 hy1 hy2 hy3 he0 he1 he2 he3 hsch hwc hj hk hP
                  have HSS := Lib.hid hS
                  clear hS
                  obtain ⟨i0, hi0, hz0, hz1, hz2⟩ := info_parts info_word
                  go_wp2_with fail
                  obtain ⟨hVS, hVZ, hV0, hV1, hV2, hV3, hU0, hU1, hU2, hU3⟩ := HVF.out
                  generalize hV : ((wr.alloc (.cells #[.int .u8 (y0 : Int), .int .u8 (y1 : Int), .int .u8 (y2 : Int), .int .u8 (y3 : Int)] TyW)).alloc (.cells #[.int .u8 (x0 : Int), .int .u8 (x1 : Int), .int .u8 (x2 : Int), .int .u8 (x3 : Int)] TyW)) = V at *
                  have HVS := Lib.hid hVS
                  have HVZ := Lib.hid hVZ
                  clear hVS hVZ hV
                  refine wp_region_F (S := (fun W => W.cell? ⟨wr.heap.size, 0, none⟩ = some (.int .u8 (y0 : Int)) ∧ W.cell? ⟨wr.heap.size, 1, none⟩ = some (.int .u8 (y1 : Int)) ∧ W.cell? ⟨wr.heap.size, 2, none⟩ = some (.int .u8 (y2 : Int)) ∧ W.cell? ⟨wr.heap.size, 3, none⟩ = some (.int .u8 (y3 : Int)) ∧ W.cell? ⟨wr.heap.size + 1, 0, none⟩ = some (.int .u8 (x0 : Int)) ∧ W.cell? ⟨wr.heap.size + 1, 1, none⟩ = some (.int .u8 (x1 : Int)) ∧ W.cell? ⟨wr.heap.size + 1, 2, none⟩ = some (.int .u8 (x2 : Int)) ∧ W.cell? ⟨wr.heap.size + 1, 3, none⟩ = some (.int .u8 (x3 : Int)) ∧ W.cell? ⟨w.heap.size, 512, none⟩ = some (.slice (some ⟨bw, 0, none⟩) i cap))) [30] (by kernel_rfl) (⟨hV0, hV1, hV2, hV3, hU0, hU1, hU2, hU3, HVS.out.words⟩) (fun hHeld => ?_)
                  refine wpAnyF_take (i := 0) (oi := _) (v := ?_) rfl (by kernel_rfl) (by kernel_rfl) (by kernel_rfl) (by kernel_rfl) (fun _ _ _ h => h) (Or.inl ⟨by rfl, ?_⟩) (by assumption) ?_
                  rotate_left 1
                  · intro w hSw
                    (try dsimp only at hSw)
                    (first | (go_simp; done) | (go_simp; with_reducible rfl))
                  (try simp only [Act.put, List.getElem_toArray, List.getElem_cons_succ, List.getElem_cons_zero, List.setIfInBounds_toArray, List.set_cons_zero, List.set_cons_succ])
                  refine wpAnyF_take (i := 1) (oi := _) (v := ?_) rfl (by kernel_rfl) (by kernel_rfl) (by kernel_rfl) (by kernel_rfl) (fun _ _ _ h => h) (Or.inl ⟨by rfl, ?_⟩) (by assumption) ?_
                  rotate_left 1
                  · intro w hSw
                    (try dsimp only at hSw)
                    (first | (go_simp; done) | (go_simp; with_reducible rfl))
                  (try simp only [Act.put, List.getElem_toArray, List.getElem_cons_succ, List.getElem_cons_zero, List.setIfInBounds_toArray, List.set_cons_zero, List.set_cons_succ])
                  refine wpAnyF_take (i := 2) (oi := _) (v := ?_) rfl (by kernel_rfl) (by kernel_rfl) (by kernel_rfl) (by kernel_rfl) (fun _ _ _ h => h) (Or.inl ⟨by rfl, ?_⟩) (by assumption) ?_
                  rotate_left 1
                  · intro w hSw
                    (try dsimp only at hSw)
                    (first | (go_simp; done) | (go_simp; with_reducible rfl))
                  (try simp only [Act.put, List.getElem_toArray, List.getElem_cons_succ, List.getElem_cons_zero, List.setIfInBounds_toArray, List.set_cons_zero, List.set_cons_succ])
                  refine wpAnyF_take (i := 3) (oi := _) (v := ?_) rfl (by kernel_rfl) (by kernel_rfl) (by kernel_rfl) (by kernel_rfl) (fun _ _ _ h => h) (Or.inl ⟨by rfl, ?_⟩) (by assumption) ?_
                  rotate_left 1
                  · intro w hSw
                    (try dsimp only at hSw)
                    (first | (go_simp; done) | (go_simp; with_reducible rfl))
                  (try simp only [Act.put, List.getElem_toArray, List.getElem_cons_succ, List.getElem_cons_zero, List.setIfInBounds_toArray, List.set_cons_zero, List.set_cons_succ])
                  refine wpAnyF_take (i := 4) (oi := _) (v := ?_) rfl (by kernel_rfl) (by kernel_rfl) (by kernel_rfl) (by kernel_rfl) (fun _ _ _ h => h) (Or.inl ⟨by rfl, ?_⟩) (by assumption) ?_
                  rotate_left 1
                  · intro w hSw
                    (try dsimp only at hSw)
                    (first | (go_simp; done) | (go_simp; with_reducible rfl))
                  (try simp only [Act.put, List.getElem_toArray, List.getElem_cons_succ, List.getElem_cons_zero, List.setIfInBounds_toArray, List.set_cons_zero, List.set_cons_succ])
                  refine wpAnyF_take (i := 5) (oi := _) (v := ?_) rfl (by kernel_rfl) (by kernel_rfl) (by kernel_rfl) (by kernel_rfl) (fun _ _ _ h => h) (Or.inl ⟨by rfl, ?_⟩) (by assumption) ?_
                  rotate_left 1
                  · intro w hSw
                    (try dsimp only at hSw)
                    (first | (go_simp; done) | (go_simp; with_reducible rfl))
                  (try simp only [Act.put, List.getElem_toArray, List.getElem_cons_succ, List.getElem_cons_zero, List.setIfInBounds_toArray, List.set_cons_zero, List.set_cons_succ])
                  refine wpAnyF_take (i := 6) (oi := _) (v := ?_) rfl (by kernel_rfl) (by kernel_rfl) (by kernel_rfl) (by kernel_rfl) (fun _ _ _ h => h) (Or.inl ⟨by rfl, ?_⟩) (by assumption) ?_
                  rotate_left 1
                  · intro w hSw
                    (try dsimp only at hSw)
                    (first | (go_simp; done) | (go_simp; with_reducible rfl))
                  (try simp only [Act.put, List.getElem_toArray, List.getElem_cons_succ, List.getElem_cons_zero, List.setIfInBounds_toArray, List.set_cons_zero, List.set_cons_succ])
                  refine wpAnyF_take (i := 7) (oi := _) (v := ?_) rfl (by kernel_rfl) (by kernel_rfl) (by kernel_rfl) (by kernel_rfl) (fun _ _ _ h => h) (Or.inl ⟨by rfl, ?_⟩) (by assumption) ?_
                  rotate_left 1
                  · intro w hSw
                    (try dsimp only at hSw)
                    (first | (go_simp; done) | (go_simp; with_reducible rfl))
                  (try simp only [Act.put, List.getElem_toArray, List.getElem_cons_succ, List.getElem_cons_zero, List.setIfInBounds_toArray, List.set_cons_zero, List.set_cons_succ])
                  refine wpAnyF_take (i := 8) (oi := _) (v := ?_) rfl (by kernel_rfl) (by kernel_rfl) (by kernel_rfl) (by kernel_rfl) (fun _ _ _ h => h) (Or.inl ⟨by rfl, ?_⟩) (by assumption) ?_
                  rotate_left 1
                  · intro w hSw
                    (try dsimp only at hSw)
                    (first | (go_simp; done) | (go_simp; with_reducible rfl))
                  (try simp only [Act.put, List.getElem_toArray, List.getElem_cons_succ, List.getElem_cons_zero, List.setIfInBounds_toArray, List.set_cons_zero, List.set_cons_succ])
                  refine wpAnyF_take (i := 9) (oi := _) (v := ?_) rfl (by kernel_rfl) (by kernel_rfl) (by kernel_rfl) (by kernel_rfl) (fun _ _ _ h => h) (Or.inl ⟨by rfl, ?_⟩) (by assumption) ?_
                  rotate_left 1
                  · intro w hSw
                    (try dsimp only at hSw)
                    (first | (go_simp; done) | (go_simp; with_reducible rfl))
                  (try simp only [Act.put, List.getElem_toArray, List.getElem_cons_succ, List.getElem_cons_zero, List.setIfInBounds_toArray, List.set_cons_zero, List.set_cons_succ])
                  refine wpAnyF_take (i := 10) (oi := _) (v := ?_) rfl (by kernel_rfl) (by kernel_rfl) (by kernel_rfl) (by kernel_rfl) (fun _ _ _ h => h) (Or.inl ⟨by rfl, ?_⟩) (by assumption) ?_
                  rotate_left 1
                  · intro w hSw
                    (try dsimp only at hSw)
                    (first | (go_simp; done) | (go_simp; with_reducible rfl))
                  (try simp only [Act.put, List.getElem_toArray, List.getElem_cons_succ, List.getElem_cons_zero, List.setIfInBounds_toArray, List.set_cons_zero, List.set_cons_succ])
                  refine wpAnyF_take (i := 11) (oi := _) (v := ?_) rfl (by kernel_rfl) (by kernel_rfl) (by kernel_rfl) (by kernel_rfl) (fun _ _ _ h => h) (Or.inl ⟨by rfl, ?_⟩) (by assumption) ?_
                  rotate_left 1
                  · intro w hSw
                    (try dsimp only at hSw)
                    (first | (go_simp; done) | (go_simp; with_reducible rfl))
                  (try simp only [Act.put, List.getElem_toArray, List.getElem_cons_succ, List.getElem_cons_zero, List.setIfInBounds_toArray, List.set_cons_zero, List.set_cons_succ])
                  refine wpAnyF_take (i := 12) (oi := _) (v := ?_) rfl (by kernel_rfl) (by kernel_rfl) (by kernel_rfl) (by kernel_rfl) (fun _ _ _ h => h) (Or.inl ⟨by rfl, ?_⟩) (by assumption) ?_
                  rotate_left 1
                  · intro w hSw
                    (try dsimp only at hSw)
                    (first | (go_simp; done) | (go_simp; with_reducible rfl))
                  (try simp only [Act.put, List.getElem_toArray, List.getElem_cons_succ, List.getElem_cons_zero, List.setIfInBounds_toArray, List.set_cons_zero, List.set_cons_succ])
                  refine wpAnyF_take (i := 13) (oi := _) (v := ?_) rfl (by kernel_rfl) (by kernel_rfl) (by kernel_rfl) (by kernel_rfl) (fun _ _ _ h => h) (Or.inl ⟨by rfl, ?_⟩) (by assumption) ?_
                  rotate_left 1
                  · intro w hSw
                    (try dsimp only at hSw)
                    (first | (go_simp; done) | (go_simp; with_reducible rfl))
                  (try simp only [Act.put, List.getElem_toArray, List.getElem_cons_succ, List.getElem_cons_zero, List.setIfInBounds_toArray, List.set_cons_zero, List.set_cons_succ])
                  refine wpAnyF_take (i := 14) (oi := _) (v := ?_) rfl (by kernel_rfl) (by kernel_rfl) (by kernel_rfl) (by kernel_rfl) (fun _ _ _ h => h) (Or.inl ⟨by rfl, ?_⟩) (by assumption) ?_
                  rotate_left 1
                  · intro w hSw
                    (try dsimp only at hSw)
                    (first | (go_simp; done) | (go_simp; with_reducible rfl))
                  (try simp only [Act.put, List.getElem_toArray, List.getElem_cons_succ, List.getElem_cons_zero, List.setIfInBounds_toArray, List.set_cons_zero, List.set_cons_succ])
                  refine wpAnyF_take (i := 15) (oi := _) (v := ?_) rfl (by kernel_rfl) (by kernel_rfl) (by kernel_rfl) (by kernel_rfl) (fun _ _ _ h => h) (Or.inl ⟨by rfl, ?_⟩) (by assumption) ?_
                  rotate_left 1
                  · intro w hSw
                    (try dsimp only at hSw)
                    (first | (go_simp; done) | (go_simp; with_reducible rfl))
                  (try simp only [Act.put, List.getElem_toArray, List.getElem_cons_succ, List.getElem_cons_zero, List.setIfInBounds_toArray, List.set_cons_zero, List.set_cons_succ])
                  refine wpAnyF_take (i := 16) (oi := _) (v := ?_) rfl (by kernel_rfl) (by kernel_rfl) (by kernel_rfl) (by kernel_rfl) (fun _ _ _ h => h) (Or.inl ⟨by rfl, ?_⟩) (by assumption) ?_
                  rotate_left 1
                  · intro w hSw
                    (try dsimp only at hSw)
                    (first | (go_simp; done) | (go_simp; with_reducible rfl))
                  (try simp only [Act.put, List.getElem_toArray, List.getElem_cons_succ, List.getElem_cons_zero, List.setIfInBounds_toArray, List.set_cons_zero, List.set_cons_succ])
                  refine wpAnyF_take (i := 17) (oi := _) (v := ?_) rfl (by kernel_rfl) (by kernel_rfl) (by kernel_rfl) (by kernel_rfl) (fun _ _ _ h => h) (Or.inl ⟨by rfl, ?_⟩) (by assumption) ?_
                  rotate_left 1
                  · intro w hSw
                    (try dsimp only at hSw)
                    (first | (go_simp; done) | (go_simp; with_reducible rfl))
                  (try simp only [Act.put, List.getElem_toArray, List.getElem_cons_succ, List.getElem_cons_zero, List.setIfInBounds_toArray, List.set_cons_zero, List.set_cons_succ])
                  refine wpAnyF_take (i := 18) (oi := _) (v := ?_) rfl (by kernel_rfl) (by kernel_rfl) (by kernel_rfl) (by kernel_rfl) (fun _ _ _ h => h) (Or.inl ⟨by rfl, ?_⟩) (by assumption) ?_
                  rotate_left 1
                  · intro w hSw
                    (try dsimp only at hSw)
                    (first | (go_simp; done) | (go_simp; with_reducible rfl))
                  (try simp only [Act.put, List.getElem_toArray, List.getElem_cons_succ, List.getElem_cons_zero, List.setIfInBounds_toArray, List.set_cons_zero, List.set_cons_succ])
                  refine wpAnyF_take (i := 19) (oi := _) (v := ?_) rfl (by kernel_rfl) (by kernel_rfl) (by kernel_rfl) (by kernel_rfl) (fun _ _ _ h => h) (Or.inl ⟨by rfl, ?_⟩) (by assumption) ?_
                  rotate_left 1
                  · intro w hSw
                    (try dsimp only at hSw)
                    (first | (go_simp; done) | (go_simp; with_reducible rfl))
                  (try simp only [Act.put, List.getElem_toArray, List.getElem_cons_succ, List.getElem_cons_zero, List.setIfInBounds_toArray, List.set_cons_zero, List.set_cons_succ])
                  refine wpAnyF_take (i := 20) (oi := _) (v := ?_) rfl (by kernel_rfl) (by kernel_rfl) (by kernel_rfl) (by kernel_rfl) (fun _ _ _ h => h) (Or.inl ⟨by rfl, ?_⟩) (by assumption) ?_
                  rotate_left 1
                  · intro w hSw
                    (try dsimp only at hSw)
                    (first | (go_simp; done) | (go_simp; with_reducible rfl))
                  (try simp only [Act.put, List.getElem_toArray, List.getElem_cons_succ, List.getElem_cons_zero, List.setIfInBounds_toArray, List.set_cons_zero, List.set_cons_succ])
                  refine wpAnyF_take (i := 21) (oi := _) (v := ?_) rfl (by kernel_rfl) (by kernel_rfl) (by kernel_rfl) (by kernel_rfl) (fun _ _ _ h => h) (Or.inl ⟨by rfl, ?_⟩) (by assumption) ?_
                  rotate_left 1
                  · intro w hSw
                    (try dsimp only at hSw)
                    (first | (go_simp; done) | (go_simp; with_reducible rfl))
                  (try simp only [Act.put, List.getElem_toArray, List.getElem_cons_succ, List.getElem_cons_zero, List.setIfInBounds_toArray, List.set_cons_zero, List.set_cons_succ])
                  refine wpAnyF_take (i := 22) (oi := _) (v := ?_) rfl (by kernel_rfl) (by kernel_rfl) (by kernel_rfl) (by kernel_rfl) (fun _ _ _ h => h) (Or.inl ⟨by rfl, ?_⟩) (by assumption) ?_
                  rotate_left 1
                  · intro w hSw
                    (try dsimp only at hSw)
                    (first | (go_simp; done) | (go_simp; with_reducible rfl))
                  (try simp only [Act.put, List.getElem_toArray, List.getElem_cons_succ, List.getElem_cons_zero, List.setIfInBounds_toArray, List.set_cons_zero, List.set_cons_succ])
                  refine wpAnyF_take (i := 23) (oi := _) (v := ?_) rfl (by kernel_rfl) (by kernel_rfl) (by kernel_rfl) (by kernel_rfl) (fun _ _ _ h => h) (Or.inl ⟨by rfl, ?_⟩) (by assumption) ?_
                  rotate_left 1
                  · intro w hSw
                    (try dsimp only at hSw)
                    (first | (go_simp; done) | (go_simp; with_reducible rfl))
                  (try simp only [Act.put, List.getElem_toArray, List.getElem_cons_succ, List.getElem_cons_zero, List.setIfInBounds_toArray, List.set_cons_zero, List.set_cons_succ])
                  refine wpAnyF_take (i := 24) (oi := _) (v := ?_) rfl (by kernel_rfl) (by kernel_rfl) (by kernel_rfl) (by kernel_rfl) (fun _ _ _ h => h) (Or.inl ⟨by rfl, ?_⟩) (by assumption) ?_
                  rotate_left 1
                  · intro w hSw
                    (try dsimp only at hSw)
                    (first | (go_simp; done) | (go_simp; with_reducible rfl))
                  (try simp only [Act.put, List.getElem_toArray, List.getElem_cons_succ, List.getElem_cons_zero, List.setIfInBounds_toArray, List.set_cons_zero, List.set_cons_succ])
                  refine wpAnyF_take (i := 25) (oi := _) (v := ?_) rfl (by kernel_rfl) (by kernel_rfl) (by kernel_rfl) (by kernel_rfl) (fun _ _ _ h => h) (Or.inl ⟨by rfl, ?_⟩) (by assumption) ?_
                  rotate_left 1
                  · intro w hSw
                    (try dsimp only at hSw)
                    (first | (go_simp; done) | (go_simp; with_reducible rfl))
                  (try simp only [Act.put, List.getElem_toArray, List.getElem_cons_succ, List.getElem_cons_zero, List.setIfInBounds_toArray, List.set_cons_zero, List.set_cons_succ])
                  have hS1 := HVS.out.drew.alloc (.cells #[.int .u8 (e0 : Int), .int .u8 (e1 : Int), .int .u8 (e2 : Int), .int .u8 (e3 : Int)] TyW)
                  have HS1' := Lib.hid hS1
                  have HC1 : Hid (∀ p : Addr, p.block < V.heap.size → (V.drew.alloc (.cells #[.int .u8 (e0 : Int), .int .u8 (e1 : Int), .int .u8 (e2 : Int), .int .u8 (e3 : Int)] TyW)).cell? p = V.cell? p) := Lib.hid (fun p hp => World.cell?_alloc_lt V.drew _ p hp)
                  clear hS1
                  refine wpAnyF_ready (rs := [26]) (by kernel_rfl) (by simp) ?_
                  refine AllReadyF.cons (o := _) rfl (fun K hK => ?_) AllReadyF.nil
                  go_simp
                  refine hK.out _ _ (⟨(HC1.out _ (by have := HVZ.out; show wr.heap.size < V.heap.size; omega)).trans hV0, (HC1.out _ (by have := HVZ.out; show wr.heap.size < V.heap.size; omega)).trans hV1, (HC1.out _ (by have := HVZ.out; show wr.heap.size < V.heap.size; omega)).trans hV2, (HC1.out _ (by have := HVZ.out; show wr.heap.size < V.heap.size; omega)).trans hV3, (HC1.out _ (by have := HVZ.out; show wr.heap.size + 1 < V.heap.size; omega)).trans hU0, (HC1.out _ (by have := HVZ.out; show wr.heap.size + 1 < V.heap.size; omega)).trans hU1, (HC1.out _ (by have := HVZ.out; show wr.heap.size + 1 < V.heap.size; omega)).trans hU2, (HC1.out _ (by have := HVZ.out; show wr.heap.size + 1 < V.heap.size; omega)).trans hU3, HS1'.out.words⟩) (fun hHeld26 => ?_)
                  clear hK K
                  (try simp only [Act.put, List.getElem_toArray, List.getElem_cons_succ, List.getElem_cons_zero, List.setIfInBounds_toArray, List.set_cons_zero, List.set_cons_succ])
                  have HOW := Lib.hid HS1'.out.own
                  have HNW : Hid (∀ j u, (bvals [e0, e1, e2, e3])[j]? = some u → (V.drew.alloc (.cells #[.int .u8 (e0 : Int), .int .u8 (e1 : Int), .int .u8 (e2 : Int), .int .u8 (e3 : Int)] TyW)).cell? ((⟨V.heap.size, 0, none⟩ : Addr).add j) = some u) := Lib.hid (World.news_of_block (cs := (bvals [e0, e1, e2, e3]).toArray) (t := TyW) (fr := (0, 0)) (by exact heap_alloc_new V _))
                  have HSZ : Hid (w.heap.size + 1 ≤ (V.drew.alloc (.cells #[.int .u8 (e0 : Int), .int .u8 (e1 : Int), .int .u8 (e2 : Int), .int .u8 (e3 : Int)] TyW)).heap.size) := Lib.hid (by have := HVS.out.below.size; simp; omega)
                  have HSE : Hid ((V.drew.alloc (.cells #[.int .u8 (e0 : Int), .int .u8 (e1 : Int), .int .u8 (e2 : Int), .int .u8 (e3 : Int)] TyW)).heap.size = V.heap.size + 1) := Lib.hid (by simp)
                  refine wpAnyF_ready (rs := [27]) (by kernel_rfl) (by simp) ?_
                  refine AllReadyF.cons (o := _) rfl (fun K hK => ?_) AllReadyF.nil
                  refine step_append_lies _ (by rfl) (.tmp 187) (.tmp 209) 38 (by rfl) (w.heap.size + 1) TyW i0 _ 4 4 Try.underlying38 hi0 hz0 hz1 hz2 rfl (by omega) (.slice (some ⟨bw, 0, none⟩) i cap) i (bvals ks) (by rfl) (by exact HOW.out) ⟨V.heap.size, 0, none⟩ 1 1 (bvals [e0, e1, e2, e3]) (by rfl) (by rfl) (by exact HNW.out) (bvals_one _) (by omega) (by unfold maxLen; omega) (by omega) (by exact HSZ.out) (V.heap.size + 1) (by exact HSE.out) ?_
                  intro gg cap3 w3 hown3 hgrow3 hat3 hlt3
                  have HEND : Hid (RefS w w.heap.size (twF 256) (.slice (some ⟨gg, 0, none⟩) (i + 1) cap3) ((n : Int) + 6) (i + 1) (Aes.sch Gf.sub key n (i + 1)) (w3.setCell ⟨w.heap.size, 512, none⟩ (.slice (some ⟨gg, 0, none⟩) (i + 1) cap3))) := Lib.hid (HS1'.out.grow hgrow3 (by rw [HKS.out, show bvals (ks ++ [e0, e1, e2, e3]) = bvals ks ++ bvals [e0, e1, e2, e3] by simp [bvals]]; exact hown3))
                  have hG : ∀ (p : Addr), p.block < V.heap.size → p.block ≠ bw → w3.cell? p = (V.drew.alloc (.cells #[.int .u8 (e0 : Int), .int .u8 (e1 : Int), .int .u8 (e2 : Int), .int .u8 (e3 : Int)] TyW)).cell? p := fun p hp hne => hgrow3.cell_far p (by simp; omega) (fun e => hne (by simpa [Value.ownBlock] using e))
                  have f512 : w3.frozen? ⟨w.heap.size, 512, none⟩ = false := (HS1'.out.grown_frozen hgrow3 (Nat.le_refl _)).trans (HS1'.out.frozen (by omega))
                  have hk3 := hHeld26
                  have hz9 : wr.heap.size < V.heap.size := by rw [HVZ.out]; omega
                  have hz10 : wr.heap.size + 1 < V.heap.size := by rw [HVZ.out]; omega
                  have hz0 : w.heap.size < V.heap.size := by rw [HVZ.out]; omega
                  have hn9 : wr.heap.size ≠ bw := by omega
                  have hn10 : wr.heap.size + 1 ≠ bw := by omega
                  have hn0 : w.heap.size ≠ bw := by omega
                  refine hK.out _ _ (⟨(hG _ hz9 hn9).trans hk3.1, (hG _ hz9 hn9).trans hk3.2.1, (hG _ hz9 hn9).trans hk3.2.2.1, (hG _ hz9 hn9).trans hk3.2.2.2.1, (hG _ hz10 hn10).trans hk3.2.2.2.2.1, (hG _ hz10 hn10).trans hk3.2.2.2.2.2.1, (hG _ hz10 hn10).trans hk3.2.2.2.2.2.2.1, (hG _ hz10 hn10).trans hk3.2.2.2.2.2.2.2.1, (hG _ hz0 hn0).trans hk3.2.2.2.2.2.2.2.2⟩) (fun hHeld27 => ?_)
                  clear hK K
                  (try simp only [Act.put, List.getElem_toArray, List.getElem_cons_succ, List.getElem_cons_zero, List.setIfInBounds_toArray, List.set_cons_zero, List.set_cons_succ])
                  clear hG hz9 hz10 hz0 hn9 hn10 hn0 hk3
                  refine wpAnyF_ready (rs := [28]) (by kernel_rfl) (by simp) ?_
                  refine AllReadyF.cons (o := _) rfl (fun K hK => ?_) AllReadyF.nil
                  go_simp
                  refine hK.out _ _ (hHeld27) (fun hHeld28 => ?_)
                  clear hK K
                  (try simp only [Act.put, List.getElem_toArray, List.getElem_cons_succ, List.getElem_cons_zero, List.setIfInBounds_toArray, List.set_cons_zero, List.set_cons_succ])
                  refine wpAnyF_ready (rs := [29]) (by kernel_rfl) (by simp) ?_
                  refine AllReadyF.cons (o := _) rfl (fun K hK => ?_) AllReadyF.nil
                  go_simp
                  refine hK.out _ _ (hHeld27) (fun hHeld29 => ?_)
                  clear hK K
                  (try simp only [Act.put, List.getElem_toArray, List.getElem_cons_succ, List.getElem_cons_zero, List.setIfInBounds_toArray, List.set_cons_zero, List.set_cons_succ])
                  have c512 := hHeld27.2.2.2.2.2.2.2.2
                  refine wpAnyF_ready (rs := [30]) (by kernel_rfl) (by simp) ?_
                  refine AllReadyF.last (o := _) rfl (by rfl) (fun K hK => ?_) AllReadyF.nil
                  go_simp
                  refine hK.out _ _ ?_
                  clear hK K
                  (try simp only [Act.put, List.getElem_toArray, List.getElem_cons_succ, List.getElem_cons_zero, List.setIfInBounds_toArray, List.set_cons_zero, List.set_cons_succ])
                  refine wpAnyF_done (by kernel_rfl) ?_ _
                  go_wp2
                  go_roundw
                  case rel => exact ⟨i + 1, _, (by rw [HPN.out]), rfl, by omega, by omega, HEND.out⟩
                  case measure => simp [intOf]; omega

            · have e : i = M := by omega
              have HFIN : Hid (RefS w w.heap.size (twF 256) v ((n : Int) + 6) M (Aes.sch Gf.sub key n M) wr) := Lib.hid (by rw [e] at hS; exact hS)
              clear hS
              have hlt2 : ¬ (i : Int) < 4 * ((n : Int) + 6) + 4 := by omega
              clear e
              go_wp2
              go_ret
              exact ⟨rfl, v, HFIN.out⟩

end Go.Proofs.Ytplapepgedagoaa
