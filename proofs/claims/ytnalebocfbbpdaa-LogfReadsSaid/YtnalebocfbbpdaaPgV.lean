/-
  slices.Concat of any few rows of bytes, none of them empty.
-/
import Derived.Test.YtnalebocfbbpdaaOwnW
import Derived.Test.YtnalebocfbbpdaaCls
import Derived.Shelf.Spec.SlicesGrow
namespace Go.Proofs.Ytnalebocfbbpdaa
open Go.RowKit Go Go.Shelf
set_option linter.unusedVariables false
set_option linter.unusedSimpArgs false
def rhoG : Ren := ⟨fun n => if n = 4 then 45 else 0, fun n => if n = 3 then 3 else if n = 4 then 4 else if n = 9 then 9 else if n = 20 then 20 else if n = 22 then 42 else if n = 25 then 5 else 0, fun x => x⟩
theorem laysG : Lays8.n4 Try.prog rhoG where
  mixed := by kernel_rfl
  f4 := ⟨Try.f45.name, by kernel_rfl, by kernel_rfl⟩
  t0 := Try.underlying0
  a0 := fun _ => by kernel_rfl
  z0 := fun _ => by kernel_rfl
  v0 := fun _ => by kernel_rfl
  t3 := Try.underlying3
  a3 := fun _ => by kernel_rfl
  z3 := fun _ => by kernel_rfl
  v3 := fun _ => by kernel_rfl
  t4 := Try.underlying4
  a4 := fun _ => by kernel_rfl
  z4 := fun _ => by kernel_rfl
  v4 := fun _ => by kernel_rfl
  t9 := Try.underlying9
  a9 := fun _ => by kernel_rfl
  z9 := fun _ => by kernel_rfl
  v9 := fun _ => by kernel_rfl
  t20 := Try.underlying20
  a20 := fun _ => by kernel_rfl
  z20 := fun _ => by kernel_rfl
  v20 := fun _ => by kernel_rfl
  t22 := Try.underlying42
  a22 := fun _ => by kernel_rfl
  z22 := fun _ => by kernel_rfl
  v22 := fun _ => by kernel_rfl
/-- Grow of nil: a slice of the call's own, of no bytes, with room -/
theorem grow_any (n : Nat) (h1 : 1 ≤ n) (hn : n ≤ 1000000) (w : World) : Calls Try.prog 45 #[.slice none 0 0, .int .i64 (n : Int)] w fun e w' => ∃ v, e = .returned v ∧ Own w' w.heap.size v [] ∧ Below w.heap.size w w' := by
  obtain ⟨i0, hi, hz0, hz1, hz2⟩ := info_parts info_u8
  have h := Any8.slices_Grow_grow laysG i0 (.int .u8 0) hi hz0 (by omega) none 0 0 n [] w (Nat.le_refl _) (by omega) (by rw [hz2]; omega) (by omega) (by simp) (fun _ => rfl) (fun a e => by cases e)
  refine h.mono fun e w' ⟨he, hw⟩ => ?_
  have hge := grownCap_ge w (0 + n) 0 5
  have hcm := grownCap_le_maxLen w (0 + n) 0 5 (by unfold maxLen; omega)
  subst hw
  refine ⟨_, he, ?_, (Below.refl _ _).drew.alloc (by show w.heap.size ≤ w.drew.heap.size; exact Nat.le_refl _) _⟩
  exact ⟨rfl, .inr ⟨w.heap.size, _, _, rfl, Nat.le_refl _, heap_alloc_new w.drew _, Nat.zero_le _, hcm, by
    have hzc : (Value.int IntKind.u8 0).cells.size = 1 := rfl
    simp only [Array.size_append, List.size_toArray, size_zeroCells, List.length_nil, hzc]
    have hge2 : 0 + n ≤ grownCap w (0 + n) 0 (rhoG.t 25) := grownCap_ge w (0 + n) 0 _
    omega, by simp [bvals]⟩⟩
/-! Concat -/
def CcTo (w : World) (l : List Nat) (e : Ending) (w' : World) : Prop := ∃ v, e = .returned v ∧ Own w' w.heap.size v l ∧ Below w.heap.size w w'
/-- rows stand in block b, and read so; none is empty -/
def RowsAt (w : World) (b : Nat) (xs : List (List Nat)) : Prop :=
  b < w.heap.size ∧ ∀ k, k < xs.length → 0 < (xs.getD k []).length ∧ (xs.getD k []).length ≤ 100 ∧ ∃ A c, w.cell? ⟨b, k, none⟩ = some (.slice A (xs.getD k []).length c) ∧ BS w w.heap.size A (xs.getD k []).length c (xs.getD k [])
theorem RowsAt.below {w w' : World} {b : Nat} {xs : List (List Nat)} (h : RowsAt w b xs) (hb : Below w.heap.size w w') : RowsAt w' b xs := by
  refine ⟨Nat.lt_of_lt_of_le h.1 hb.size, fun k hk => ?_⟩
  obtain ⟨h1, h2, A, c, h3, h4⟩ := h.2 k hk
  exact ⟨h1, h2, A, c, (hb.cell (p := ⟨b, k, none⟩) h.1).trans h3, (h4.below hb).more hb.size⟩
def sumL (xs : List (List Nat)) (k : Nat) : Nat := ((xs.take k).flatten).length
theorem sumL_0 (xs : List (List Nat)) : sumL xs 0 = 0 := by simp [sumL]
theorem flat_step (xs : List (List Nat)) {k : Nat} (hk : k < xs.length) : (xs.take (k + 1)).flatten = (xs.take k).flatten ++ xs.getD k [] := by
  rw [List.take_add_one, List.flatten_append, List.getElem?_eq_getElem hk]
  simp [List.getD, List.getElem?_eq_getElem hk]
theorem sumL_step (xs : List (List Nat)) {k : Nat} (hk : k < xs.length) : sumL xs (k + 1) = sumL xs k + (xs.getD k []).length := by
  unfold sumL
  rw [flat_step xs hk, List.length_append]
theorem sumL_le {w : World} {b : Nat} {xs : List (List Nat)} (h : RowsAt w b xs) : ∀ k, k ≤ xs.length → sumL xs k ≤ 100 * k
  | 0, _ => by rw [sumL_0]; omega
  | k + 1, hk => by
    have := sumL_le h k (by omega)
    have := (h.2 k (by omega)).2.1
    rw [sumL_step xs (by omega)]
    omega
theorem sumL_pos {w : World} {b : Nat} {xs : List (List Nat)} (h : RowsAt w b xs) : ∀ k, k ≤ xs.length → k ≤ sumL xs k
  | 0, _ => by omega
  | k + 1, hk => by
    have := sumL_pos h k (by omega)
    have := (h.2 k (by omega)).1
    rw [sumL_step xs (by omega)]
    omega
def CcR (w : World) (xs : List (List Nat)) (v iv : Value) (wr : World) : Prop := ∃ k : Nat, iv = .int .i64 (k : Int) ∧ k ≤ xs.length ∧ Own wr w.heap.size v (xs.take k).flatten ∧ Below w.heap.size w wr
set_option maxRecDepth 100000 in
set_option maxHeartbeats 2000000 in
theorem concat_any (b c n : Nat) (xs : List (List Nat)) (w : World) (h : RowsAt w b xs) (hn : xs.length = n) (h1 : 1 ≤ n) (h9 : n ≤ 100) :
    Calls Try.prog 33 #[.slice (some ⟨b, 0, none⟩) n c] w (CcTo w xs.flatten) := by
  have HH := Lib.hid h
  have HN := Lib.hid hn
  have HS1 := Lib.hid (sumL_le h)
  have HS2 := Lib.hid (sumL_pos h)
  have h0 := h.1
  clear h hn
  go_enter Try.func33, Try.ntmps33
  go_wp2
  go_loop [3, 11] (fun sv iv => ∃ k : Nat, iv = .int .i64 (k : Int) ∧ k ≤ n ∧ sv = .int .i64 ((sumL xs k : Nat) : Int)) (fun _ iv => (n - intOf iv).toNat)
  case atStart => exact ⟨0, rfl, by omega, by rw [sumL_0]; rfl⟩
  case round =>
    obtain ⟨k, rfl, hk, rfl⟩ := hrel
    have hle := HS1.out k (by rw [HN.out]; exact hk)
    by_cases hk1 : k < n
    · have HT := Lib.hid (sumL_step xs (k := k) (by rw [HN.out]; exact hk1))
      obtain ⟨q1, q2, A, cc, hcell, hbs⟩ := HH.out.2 k (by rw [HN.out]; exact hk1)
      clear hbs
      have HT' := HT.out
      generalize (xs.getD k []).length = m at *
      generalize sumL xs k = s at *
      go_wp2
      go_round
      case rel => exact ⟨k + 1, by push_cast; rfl, by omega, by rw [HT.out]; push_cast; rfl⟩
      case measure => simp [intOf]; omega
    · obtain rfl : k = n := by omega
      have hp := HS2.out k (by rw [HN.out]; exact Nat.le_refl _)
      generalize sumL xs k = sz at *
      go_wp2_with fail
      refine (grow_any sz (by omega) (by omega) _).mono ?_
      rintro e w1 ⟨v, rfl, hown, hb1⟩
      have HR : Hid (CcR w xs v (.int .i64 0) w1) := Lib.hid ⟨0, rfl, by omega, by simpa using hown, hb1⟩
      clear hown hb1
      go_wp2
      go_loopw [6, 27] (fun v iv wr => CcR w xs v iv wr) (fun _ iv _ => (k - intOf iv).toNat)
      case atStart => exact HR.out
      case round =>
        clear HR
        obtain ⟨j, rfl, hj, hown, hb⟩ := hrel
        have HB := Lib.hid hb
        have hbsz : w.heap.size ≤ wr.heap.size := hb.size
        clear hb
        have hj' : j ≤ k := by rw [← HN.out]; exact hj
        clear hj
        by_cases hj1 : j < k
        · obtain ⟨q1, q2, A, cc, hcell, hbs⟩ := HH.out.2 j (by rw [HN.out]; exact hj1)
          have HF2 := Lib.hid (flat_step xs (k := j) (by rw [HN.out]; exact hj1))
          have hl : ((xs.take j).flatten).length ≤ 100 * j := HS1.out j (by rw [HN.out]; exact hj')
          have m1 : wr.cell? ⟨b, j, none⟩ = some (.slice A (xs.getD j []).length cc) := (HB.out.cell (p := ⟨b, j, none⟩) h0).trans hcell
          have hr := (hbs.below HB.out).more hbsz
          have hA : A = none → cc = 0 := fun q => by
            obtain ⟨b', o', e', _⟩ := hbs.at_ q1
            rw [q] at e'
            cases e'
          clear hbs hcell
          generalize hgx : xs.getD j [] = x at *
          generalize hgp : (xs.take j).flatten = p at *
          generalize hgm : x.length = m at *
          go_wp2_with (refine wp_apps _ rfl _ _ rfl w.heap.size _ _ rfl hown _ _ _ _ _ rfl hr hA (by omega) hbsz ?_; intro v' w2 hown2 hb2)
          have HF : Hid (CcR w xs v' (.int .i64 ((j : Int) + 1)) w2) := Lib.hid ⟨j + 1, by push_cast; rfl, by rw [HN.out]; omega, by rw [HF2.out]; exact hown2, HB.out.trans hb2⟩
          clear hown2 hb2 hr m1
          go_wp2
          go_roundw
          case rel => exact HF.out
          case measure => simp [intOf]; omega
        · obtain rfl : j = k := by omega
          have HF : Hid (CcTo w xs.flatten (.returned u6) wr) := Lib.hid ⟨_, rfl, by rw [List.take_of_length_le (by rw [HN.out]; exact Nat.le_refl _)] at hown; exact hown, HB.out⟩
          clear hown
          go_wp2
          go_ret
          exact HF.out
end Go.Proofs.Ytnalebocfbbpdaa
