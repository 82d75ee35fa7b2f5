/-
  Heads of roots: seventeen numbers read, one behind the other.
-/
import Derived.Test.YtfnppoagmambgaaHoD
namespace Go.Proofs.Ytfnppoagmambgaa
open Go.RowKit Go
set_option linter.unusedVariables false
set_option linter.unusedSimpArgs false
set_option maxRecDepth 100000
/-- what is left of a row behind k numbers, and the error -/
def rst (b : List Nat) : Nat → List Nat × Int
  | 0 => (b, 0)
  | k + 1 => (takeS (rst b k).1 (rst b k).2 8 (mayN 8)).2
def rval (b : List Nat) (k : Nat) : Nat := num ((takeS (rst b k).1 (rst b k).2 8 (mayN 8)).1.take 8)
def rdL (b : List Nat) : List Nat := (List.range 17).map (rval b)
theorem rdL_len (b : List Nat) : (rdL b).length = 17 := by simp [rdL]
theorem rdL_at (b : List Nat) {i : Nat} (hi : i < 17) : (rdL b).getD i 0 = rval b i := by
  simp [rdL, List.getD, List.getElem?_map, List.getElem?_range hi]
theorem take_byte' {l : List Nat} (h : ∀ i, l.getD i 0 < 256) (k i : Nat) : (l.take k).getD i 0 < 256 := by
  by_cases hi : i < k
  · have : (l.take k).getD i 0 = l.getD i 0 := by simp [List.getD, List.getElem?_take_of_lt hi]
    rw [this]; exact h i
  · have : (l.take k)[i]? = none := by rw [List.getElem?_eq_none]; rw [List.length_take]; omega
    simp [List.getD, this]
theorem takeS_byte {l : List Nat} (h : ∀ i, l.getD i 0 < 256) (e n : Int) (m : Bool) : (∀ i, (takeS l e n m).1.getD i 0 < 256) ∧ ∀ i, (takeS l e n m).2.1.getD i 0 < 256 := by
  unfold takeS
  split
  · exact ⟨fun i => by simp, h⟩
  · split
    · exact ⟨fun i => by simp, fun i => by simp⟩
    · split
      · exact ⟨fun i => by simp, fun i => by simp⟩
      · exact ⟨take_byte' h _, drop_byte h _⟩
theorem rst_byte {b : List Nat} (h : ∀ i, b.getD i 0 < 256) : ∀ k i, (rst b k).1.getD i 0 < 256
  | 0, i => h i
  | k + 1, i => (takeS_byte (rst_byte h k) _ _ _).2 i
theorem rval_lt {b : List Nat} (h : ∀ i, b.getD i 0 < 256) (k : Nat) : rval b k < 2 ^ 64 := by
  unfold rval
  have h1 := num_lt (l := (takeS (rst b k).1 (rst b k).2 8 (mayN 8)).1.take 8) (take_byte' (takeS_byte (rst_byte h k) _ _ _).1 _)
  refine Nat.lt_of_lt_of_le h1 ?_
  have : 256 ^ ((takeS (rst b k).1 (rst b k).2 8 (mayN 8)).1.take 8).length ≤ 256 ^ 8 := Nat.pow_le_pow_right (by omega) (by rw [List.length_take]; omega)
  exact Nat.le_trans this (by decide)
theorem rdL_64 {b : List Nat} (h : ∀ i, b.getD i 0 < 256) (i : Nat) : (rdL b).getD i 0 < 2 ^ 64 := by
  by_cases hi : i < 17
  · rw [rdL_at b hi]; exact rval_lt h i
  · have : (rdL b)[i]? = none := by rw [List.getElem?_eq_none]; rw [rdL_len]; omega
    rw [List.getD_eq_getElem?_getD, this]; decide
theorem rst_ok {b : List Nat} (hl : b.length = 256) : ∀ k, k ≤ 32 → rst b k = (b.drop (8 * k), 0)
  | 0, _ => rfl
  | k + 1, hk => by
    unfold rst
    rw [rst_ok hl k (by omega)]
    have := takeS_ok (l := b.drop (8 * k)) (n := 8) (by omega) (by omega) (by rw [List.length_drop]; omega)
    rw [show ((8 : Nat) : Int) = 8 from rfl] at this
    rw [this, List.drop_drop, show 8 * k + 8 = 8 * (k + 1) by omega]
theorem rval_ok {b : List Nat} (hl : b.length = 256) {k : Nat} (hk : k < 32) : rval b k = numAt b 8 k := by
  unfold rval numAt
  rw [rst_ok hl k (by omega)]
  have := takeS_ok (l := b.drop (8 * k)) (n := 8) (by omega) (by omega) (by rw [List.length_drop]; omega)
  rw [show ((8 : Nat) : Int) = 8 from rfl] at this
  rw [this, List.take_take]
  rfl
def ReadR (w : World) (g s : Nat) (b : List Nat) (i : Value) (wr : World) : Prop :=
  ∃ k : Nat, i = .int .i64 (k : Int) ∧ k ≤ 16 ∧ w.grownBy wr (some g) ∧ RowSt wr g 78 (rst b (k + 1)).1 (rst b (k + 1)).2 ∧ Row wr w.heap.size 45 (uF zl17) 17 ∧ Row wr s 45 (mixL (rdL b) k) 17
set_option maxHeartbeats 2000000 in
theorem read_any (g : Nat) (b : List Nat) (w : World) (hst : RowSt w g 78 b 0) :
    Calls Try.prog 25 #[.func (Fn.func 27) #[.pointer (some ⟨g, 0, none⟩)] #[]] w fun e w' => e = .returned (.agg (rtV (rdL b))) ∧ w.grownBy w' (some g) := by
  have hz := zero_rth
  have hgl := hst.lt
  obtain ⟨V, hV⟩ : ∃ V, V = w.alloc (.cells (rtV zl17) 45) := ⟨_, rfl⟩
  have hbV : Below w.heap.size w V := by rw [hV]; exact (Below.refl _ _).alloc (Nat.le_refl _) _
  have v1 : Row V w.heap.size 45 (uF zl17) 17 := by rw [hV]; exact Row.new w _ _ _
  have hgV : w.grownBy V (some g) := only_below hbV
  have HN0 := Lib.hid (num_any g b 0 8 V (hst.below hbV))
  have HNK := Lib.hid (fun k W h => num_any g (rst b (k + 1)).1 (rst b (k + 1)).2 8 W h)
  have HV := Lib.hid hV
  have HR0 := Lib.hid v1
  have HG0 := Lib.hid hgV
  have HIZ := Lib.hid (info_rth zl17)
  have HIR := Lib.hid (info_rth (rdL b))
  have HSL : Hid ((rtV zl17).size = (rtV (rdL b)).size) := Lib.hid (by rw [rowV_size, rowV_size])
  have HONE := Lib.hid (rt_one (rdL b))
  clear hV hbV v1 hgV hst
  obtain ⟨zz, hzz⟩ : ∃ z, z = rtV zl17 := ⟨_, rfl⟩
  have hzs : zz.size = 17 := by rw [hzz, rowV_size]
  have hzne : ¬ zz = #[] := fun h => by rw [h] at hzs; simp at hzs
  rw [← hzz] at hz HV HIZ HSL
  have HZ := Lib.hid hzz
  clear hzz
  go_enter Try.func25, Try.ntmps25
  go_wp2_with fail
  rw [← HV.out]
  refine HN0.out.mono ?_
  rintro e w1 ⟨rfl, hst1, hg1⟩
  obtain ⟨x0, hx0⟩ : ∃ x, (rdL b).getD 0 0 = x := ⟨_, rfl⟩
  have hx1 : num (List.take 8 (takeS b 0 8 (mayN 8)).fst) = x0 := by rw [← hx0, rdL_at b (by omega)]; rfl
  rw [hx1]
  have hgl1 : g < w1.heap.size := hst1.lt
  have hsl : w.heap.size < w1.heap.size := Nat.lt_of_lt_of_le HR0.out.lt hg1.size
  have hr1 : Row w1 w.heap.size 45 (uF zl17) 17 := HR0.out.only hg1 (by intro h; injection h with h; omega)
  obtain ⟨W2, hW2⟩ : ∃ W2, W2 = (w1.alloc (.cells zz 45)).setRow w1.heap.size (zz.setIfInBounds 0 (.int .u64 (x0 : Int))) := ⟨_, rfl⟩
  have hb2 : Below w1.heap.size w1 W2 := by rw [hW2]; exact below_setRow ((Below.refl _ _).alloc (Nat.le_refl _) _) (Nat.le_refl _) _
  have h3 := heap_alloc_new w1 (.cells zz 45)
  have hr3 : Row W2 w1.heap.size 45 (mixL (rdL b) 0) 17 := by
    have := setRow_heap _ _ _ (zz.setIfInBounds 0 (.int .u64 (x0 : Int))) _ _ h3
    rw [← hW2, HZ.out, mixL_new (rdL b) x0 hx0] at this
    exact this
  have H0 : Hid (ReadR w g w1.heap.size b (.int .i64 0) W2) := Lib.hid ⟨0, rfl, by omega, only_trans (only_trans HG0.out hg1) (only_below hb2), hst1.below hb2, hr1.below hb2 hsl, hr3⟩
  have H3 := Lib.hid h3
  have HSZ : Hid (zz.size = (zz.setIfInBounds 0 (.int .u64 (x0 : Int))).size) := Lib.hid (by simp)
  have HIY : Hid ((Try.prog.info? 45).map (·.size) = some (zz.setIfInBounds 0 (.int .u64 (x0 : Int))).size) := Lib.hid (by rw [Array.size_setIfInBounds]; exact HIZ.out)
  have HONZ : Hid ((zz.setIfInBounds 0 (.int .u64 (x0 : Int))).all (·.oneCell') = true) := Lib.hid (by rw [HZ.out, rowV_set, Array.all_eq_true]; intro i hi; rw [rowV_size] at hi; have h2 := rowV_at (fun i => if i = 0 then Value.int IntKind.u64 (x0 : Int) else uF zl17 i) hi; rw [Array.getElem?_eq_getElem (by rw [rowV_size]; exact hi)] at h2; rw [Option.some.inj h2]; split <;> rfl)
  obtain ⟨s, hs⟩ : ∃ s, s = w1.heap.size := ⟨_, rfl⟩
  have HSW : Hid (w.heap.size < s) := Lib.hid (by omega)
  have HSE := Lib.hid hs
  rw [hW2] at H0
  clear hst1 hg1 hx1 hx0 hgl1 hsl hr1 hb2 hr3 h3 hW2
  go_wp2_with (with_reducible refine wpList_store_row rfl 45 (.tmp 3) (.tmp 7) rfl _ _ rfl rfl 45 _ H3.out HIY.out HSZ.out HONZ.out ?_)
  rw [← hs] at H0 ⊢
  generalize (w1.alloc (Obj.cells zz 45)).setRow s (zz.setIfInBounds 0 (Value.int IntKind.u64 (x0 : Int))) = W3 at *
  clear hs HSE H3
  have HGL := Lib.hid hgl
  go_loopw [8] (fun i wr => ReadR w g s b i wr) (fun i _ => (16 - intOf i).toNat)
  case atStart => exact H0.out
  case round =>
    obtain ⟨k, rfl, hk, hg, hst, hr1, hr2⟩ := hrel
    by_cases hlt : k < 16
    · have HN := Lib.hid (HNK.out k wr hst)
      have HG := Lib.hid hg
      have HR1 := Lib.hid hr1
      have HR2 := Lib.hid hr2
      clear hst hg hr1 hr2 H0
      go_wp2_with fail
      refine HN.out.mono ?_
      rintro e w4 ⟨rfl, hst4, hg4⟩
      obtain ⟨x, hx⟩ : ∃ x, (rdL b).getD (k + 1) 0 = x := ⟨_, rfl⟩
      have hx1 : num (List.take 8 (takeS (rst b (k + 1)).1 (rst b (k + 1)).2 8 (mayN 8)).fst) = x := by rw [← hx, rdL_at b (by omega)]; rfl
      rw [hx1]
      have hne1 : ¬ s = g := by have := HSW.out; have := HGL.out; omega
      have hne2 : ¬ w.heap.size = g := by have := HGL.out; omega
      have hr14 := HR1.out.only hg4 (by intro h; injection h with h; exact hne2 h)
      have hr24 := HR2.out.only hg4 (by intro h; injection h with h; exact hne1 h)
      have hst5 := mixL_step hr24 hlt
      rw [hx] at hst5
      have hc := hr24.cell (i := 1 + k) (by omega)
      have hf := hr24.free (1 + k)
      obtain ⟨old, hold⟩ : ∃ z, z = mixL (rdL b) k (1 + k) := ⟨_, rfl⟩
      rw [← hold] at hc
      have HNX : Hid (ReadR w g s b (.int .i64 ((k : Int) + 1)) (w4.setCell ⟨s, 1 + k, none⟩ (.int .u64 (x : Int)))) := Lib.hid ⟨k + 1, by simp, by omega,
        only_trans (only_trans HG.out hg4) (only_below (Below.refl _ _)) |> fun h => ⟨h.os, h.tape, h.output, by rw [size_set]; exact h.size, fun i hi hne => (Below.heap_setCell w4 ⟨s, 1 + k, none⟩ _ i (by have := HSW.out; simp; omega)).trans (h.block i hi hne)⟩,
        by
          have hb5 : Below s w4 (w4.setCell ⟨s, 1 + k, none⟩ (.int .u64 (x : Int))) := (Below.refl _ _).setCell (p := ⟨s, 1 + k, none⟩) (Nat.le_refl _) _
          obtain ⟨A, c, e1, e2⟩ := hst4
          exact ⟨A, c, (hb5.block g (by have := HSW.out; have := HGL.out; omega)).trans e1, e2.below (hb5.mono (by have := HSW.out; have := HGL.out; omega))⟩,
        hr14.far (p := ⟨s, 1 + k, none⟩) (by have := HSW.out; simp; omega) _, hst5⟩
      clear hst4 hg4 hr14 hr24 hst5 hx hx1 hold hne1 hne2
      go_wp2
      go_roundw
      case rel => exact HNX.out
      case measure => simp [intOf]; omega
    · obtain rfl : k = 16 := by omega
      have hr2' := mixL_end hr2
      have HR2 : Hid (wr.heap[s]? = some (.cells (rtV (rdL b)) 45 (0, 0))) := Lib.hid hr2'
      have HR1 : Hid (wr.heap[w.heap.size]? = some (.cells zz 45 (0, 0))) := Lib.hid (by rw [HZ.out]; exact hr1)
      have HF := Lib.hid (setRow_heap _ _ _ (rtV (rdL b)) _ _ HR1.out)
      have HGF : Hid (w.grownBy (wr.setRow w.heap.size (rtV (rdL b))) (some g)) := Lib.hid ⟨hg.os, hg.tape, hg.output, by rw [size_setRow]; exact hg.size, fun i hi hne => (setRow_other _ _ _ _ (by omega)).trans (hg.block i hi hne)⟩
      obtain ⟨rt, hrt⟩ : ∃ z, z = rtV (rdL b) := ⟨_, rfl⟩
      rw [← hrt] at HR2 HF HGF HIR HSL HONE
      have HRT := Lib.hid hrt
      clear hrt
      clear hg hst hr1 hr2 hr2' H0 hzs hzne
      go_wp2_with (first
        | (with_reducible refine wpList_load_row rfl 45 (.tmp 3) rfl _ rfl 45 _ _ _ HR2.out Try.underlying45 rfl HIR.out ?_)
        | (with_reducible refine wpList_store_row rfl 45 (.tmp 2) (.tmp 17) rfl _ _ rfl rfl 45 _ HR1.out HIR.out HSL.out HONE.out ?_))
      exact bodyPost_ret (v := .agg rt) (results_cell_row rfl _ _ _ 45 _ (0, 0) _ rfl HF.out Try.underlying45 rfl HIR.out) rfl ⟨by rw [HRT.out], HGF.out⟩
end Go.Proofs.Ytfnppoagmambgaa
