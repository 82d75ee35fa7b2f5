/-
  Layer 18: the first window of a page that a method says yes to; may a page be?
-/
import Derived.Test.YtflgcddgocojpaaDoorSlB
namespace Go.Proofs.YtflgcddgocojpaaDoor
open Go.RowKit Go
set_option linter.unusedVariables false
set_option linter.unusedSimpArgs false
set_option maxHeartbeats 1000000

def FirstAt (p : Nat → Bool) (S : Nat) (i : Int) : Prop := (i = -1 ∧ ∀ j, j < S → p j = false) ∨ ∃ k : Nat, i = (k : Int) ∧ k < S ∧ p k = true ∧ ∀ j, j < k → p j = false
def IdxW (w : World) (p : Nat → Bool) (S : Nat) (i : Value) (wr : World) : Prop := ∃ k : Nat, i = .int .i64 (k : Int) ∧ k ≤ S ∧ Below w.heap.size w wr ∧ ∀ j, j < k → p j = false
theorem windex_broken (g b q z S : Nat) (p : Nat → Bool) (hSS : S ≤ 16) (w : World) (hr : Row w g 63 (winV b q z) S)
    (hF : ∀ i, i < S → ∀ wr, Below w.heap.size w wr → Calls Tryd.prog 29 #[.slice (some ⟨b, q + i * z, none⟩) z z] wr fun e w' => e = .returned (.bool (p i)) ∧ Below wr.heap.size wr w') :
    Calls Tryd.prog 34 #[.slice (some ⟨g, 0, none⟩) S S, .func (Fn.func 29) #[] #[]] w
      fun e w' => (∃ i : Int, e = .returned (.int .i64 i) ∧ FirstAt p S i) ∧ Below w.heap.size w w' := by
  have HR := Lib.hid hr
  have HF := Lib.hid hF
  clear hr hF
  go_enter Tryd.func34, Tryd.ntmps34
  go_wp2
  go_loopw [8] (fun i wr => IdxW w p S i wr) (fun i _ => (S - intOf i).toNat)
  case atStart => exact ⟨0, rfl, by omega, Below.refl _ _, fun j hj => by omega⟩
  case round =>
    obtain ⟨k, rfl, hk, hb, hno⟩ := hrel
    by_cases hlt : k < S
    · have hc : wr.cell? ⟨g, k, none⟩ = some (.slice (some ⟨b, q + k * z, none⟩) z z) := (hb.cell HR.out.lt).trans (HR.out.cell hlt)
      have HS := Lib.hid (HF.out k hlt wr hb)
      have HNO := Lib.hid hno
      have HB := Lib.hid hb
      cases hs : p k
      · rw [hs] at HS
        have HNO1 : Hid (∀ j, j < k + 1 → p j = false) := Lib.hid (fun j hj => by
          by_cases e : j = k
          · subst e; exact hs
          · exact hno j (by omega))
        generalize k * z = m at *
        clear hb hno hs
        go_wp2_with fail
        refine HS.out.mono ?_
        rintro e w1 ⟨rfl, hb⟩
        have HB1 := Lib.hid (HB.out.trans (hb.mono HB.out.size))
        clear hb
        go_wp2
        go_roundw
        case rel => exact ⟨k + 1, by simp, by omega, HB1.out, HNO1.out⟩
        case measure => simp [intOf]; omega
      · rw [hs] at HS
        have HE : Hid (FirstAt p S (k : Int)) := Lib.hid (.inr ⟨k, rfl, hlt, hs, hno⟩)
        generalize k * z = m at *
        clear hb hno hs
        go_wp2_with fail
        refine HS.out.mono ?_
        rintro e w1 ⟨rfl, hb⟩
        have HB1 := Lib.hid (HB.out.trans (hb.mono HB.out.size))
        clear hb
        go_wp2
        go_ret
        exact ⟨⟨_, rfl, HE.out⟩, HB1.out⟩
    · obtain rfl : k = S := by omega
      have HNO := Lib.hid hno
      have HB := Lib.hid hb
      clear hb hno
      go_wp2
      go_ret
      exact ⟨⟨-1, rfl, .inl ⟨rfl, HNO.out⟩⟩, HB.out⟩
theorem windex_free (g b q z S : Nat) (p : Nat → Bool) (hSS : S ≤ 16) (w : World) (hr : Row w g 63 (winV b q z) S)
    (hF : ∀ i, i < S → ∀ wr, Below w.heap.size w wr → Calls Tryd.prog 35 #[.slice (some ⟨b, q + i * z, none⟩) z z] wr fun e w' => e = .returned (.bool (p i)) ∧ Below wr.heap.size wr w') :
    Calls Tryd.prog 34 #[.slice (some ⟨g, 0, none⟩) S S, .func (Fn.func 35) #[] #[]] w
      fun e w' => (∃ i : Int, e = .returned (.int .i64 i) ∧ FirstAt p S i) ∧ Below w.heap.size w w' := by
  have HR := Lib.hid hr
  have HF := Lib.hid hF
  clear hr hF
  go_enter Tryd.func34, Tryd.ntmps34
  go_wp2
  go_loopw [8] (fun i wr => IdxW w p S i wr) (fun i _ => (S - intOf i).toNat)
  case atStart => exact ⟨0, rfl, by omega, Below.refl _ _, fun j hj => by omega⟩
  case round =>
    obtain ⟨k, rfl, hk, hb, hno⟩ := hrel
    by_cases hlt : k < S
    · have hc : wr.cell? ⟨g, k, none⟩ = some (.slice (some ⟨b, q + k * z, none⟩) z z) := (hb.cell HR.out.lt).trans (HR.out.cell hlt)
      have HS := Lib.hid (HF.out k hlt wr hb)
      have HNO := Lib.hid hno
      have HB := Lib.hid hb
      cases hs : p k
      · rw [hs] at HS
        have HNO1 : Hid (∀ j, j < k + 1 → p j = false) := Lib.hid (fun j hj => by
          by_cases e : j = k
          · subst e; exact hs
          · exact hno j (by omega))
        generalize k * z = m at *
        clear hb hno hs
        go_wp2_with fail
        refine HS.out.mono ?_
        rintro e w1 ⟨rfl, hb⟩
        have HB1 := Lib.hid (HB.out.trans (hb.mono HB.out.size))
        clear hb
        go_wp2
        go_roundw
        case rel => exact ⟨k + 1, by simp, by omega, HB1.out, HNO1.out⟩
        case measure => simp [intOf]; omega
      · rw [hs] at HS
        have HE : Hid (FirstAt p S (k : Int)) := Lib.hid (.inr ⟨k, rfl, hlt, hs, hno⟩)
        generalize k * z = m at *
        clear hb hno hs
        go_wp2_with fail
        refine HS.out.mono ?_
        rintro e w1 ⟨rfl, hb⟩
        have HB1 := Lib.hid (HB.out.trans (hb.mono HB.out.size))
        clear hb
        go_wp2
        go_ret
        exact ⟨⟨_, rfl, HE.out⟩, HB1.out⟩
    · obtain rfl : k = S := by omega
      have HNO := Lib.hid hno
      have HB := Lib.hid hb
      clear hb hno
      go_wp2
      go_ret
      exact ⟨⟨-1, rfl, .inl ⟨rfl, HNO.out⟩⟩, HB.out⟩
theorem wcontains_broken (g b q z S : Nat) (p : Nat → Bool) (hSS : S ≤ 16) (w : World) (hr : Row w g 63 (winV b q z) S)
    (hF : ∀ i, i < S → ∀ wr, Below w.heap.size w wr → Calls Tryd.prog 29 #[.slice (some ⟨b, q + i * z, none⟩) z z] wr fun e w' => e = .returned (.bool (p i)) ∧ Below wr.heap.size wr w') :
    Calls Tryd.prog 28 #[.slice (some ⟨g, 0, none⟩) S S, .func (Fn.func 29) #[] #[]] w
      fun e w' => e = .returned (.bool ((List.range S).any p)) ∧ Below w.heap.size w w' := by
  have HI := Lib.hid (windex_broken g b q z S p hSS w hr hF)
  clear hr hF
  go_enter Tryd.func28, Tryd.ntmps28
  go_wp2_with fail
  refine HI.out.mono ?_
  rintro e w1 ⟨⟨i, rfl, hi⟩, hb⟩
  have HB := Lib.hid hb
  have HQ : Hid (decide (0 ≤ i) = (List.range S).any p) := Lib.hid (by
    rcases hi with ⟨rfl, h⟩ | ⟨k, rfl, hk, hp, _⟩
    · rw [Bool.eq_iff_iff, decide_eq_true_iff, List.any_eq_true]
      exact ⟨fun h => by omega, fun ⟨j, hj, e⟩ => by rw [h j (List.mem_range.1 hj)] at e; contradiction⟩
    · rw [Bool.eq_iff_iff, decide_eq_true_iff, List.any_eq_true]
      exact ⟨fun _ => ⟨k, List.mem_range.2 hk, hp⟩, fun _ => by omega⟩)
  clear hb hi
  go_wp2
  go_ret
  exact ⟨ret_bool HQ.out, HB.out⟩
/-- a window out of the page -/
theorem bs_win {w : World} {B b q c z S i : Nat} {t : List Nat} (hs : BS w B (some ⟨b, q, none⟩) 256 c t) (h : S * z ≤ 256) (hz : 16 ≤ z) (hi : i < S) : BS w B (some ⟨b, q + i * z, none⟩) z z (winL t z i) := by
  have hle := slot_le h hi
  have hc := hs.cap
  have h1 := (hs.cut (k := i * z) (by omega)).take (k := z) (by omega)
  have e : cutA (some ⟨b, q, none⟩) c (i * z) = some ⟨b, q + i * z, none⟩ := by unfold cutA; rw [if_neg (by omega)]; simp [Go.WideShapes.add_plain]
  rw [e] at h1
  obtain ⟨a1, a2, a3, a4, a5⟩ := h1
  exact ⟨a1, Nat.le_refl _, by omega, a4, a5⟩
theorem mayP_any (z S : Nat) (t : List Nat) : mayP z S t = !((List.range S).any (fun k => brk z (winL t z k)) || !zr (t.drop (S * z))) := by
  unfold mayP
  rw [Bool.not_or, Bool.not_not, List.not_any_eq_all_not]
def mayE (b : Bool) : Int := match b with | true => 0 | false => 4
theorem check_yes (k b q c : Nat) (t : List Nat) (w : World) (hS : SZ w) (hk : k < 8) (hs : BS w w.heap.size (some ⟨b, q, none⟩) 256 c t) :
    Calls Tryd.prog 11 #[.slice (some ⟨b, q, none⟩) 256 c, .int .i64 (k : Int)] w fun e w' => e = .returned (.int .i64 (mayE (mayP (clZ k) (clS k) t))) ∧ Below w.heap.size w w' := by
  obtain ⟨z1, z2, z3, z4, z5, -⟩ := cl_fits k hk
  have HSL := Lib.hid (slots_n k hk w hS)
  have HC := Lib.hid (cut_any k b q c t w hS hk hs)
  have HM := Lib.hid (mayP_any (clZ k) (clS k) t)
  unfold CutTo at HC
  generalize clZ k = z at *
  generalize clS k = S at *
  have HCO := Lib.hid (fun w1 (hr : Row w1 w.heap.size 63 (winV b q z) S) (hb : Below w.heap.size w w1) =>
    wcontains_broken w.heap.size b q z S (fun i => brk z (winL t z i)) z5 w1 hr (fun i hi wr hbr =>
      broken_w b (q + i * z) z _ wr (bs_win ((hs.below (hb.trans (hbr.mono hb.size))).more (Nat.le_trans hb.size hbr.size)) z3 z1 hi) z1 z2))
  have HZE := Lib.hid (fun w1 (hb : Below w.heap.size w w1) => zero_any _ _ _ _ _ w1 ((hs.below hb).cut (k := S * z) z3) (by omega))
  have hS0 : ¬ S = 0 := by omega
  generalize cutA (some ⟨b, q, none⟩) c (S * z) = Y at *
  generalize hR : (List.range S).any (fun k => brk z (winL t z k)) = R at *
  have HE : Hid (mayP z S t = !(R || !allZ (t.drop (S * z)))) := HM
  generalize mayP z S t = M at *
  clear HM hR hS
  go_enter Tryd.func11, Tryd.ntmps11
  go_wp2_with fail
  refine HSL.out.mono ?_
  rintro e w1 ⟨rfl, rfl⟩
  go_wp2_with fail
  refine HC.out.mono ?_
  rintro e w1 ⟨rfl, hr, hb⟩
  have HCC := Lib.hid (HCO.out w1 hr hb)
  have HB := Lib.hid hb
  clear hr hb
  go_wp2_with fail
  refine HCC.out.mono ?_
  rintro e w2 ⟨rfl, hb⟩
  have HB2 := Lib.hid (HB.out.trans (hb.mono HB.out.size))
  clear hb
  cases R
  · have HZZ := Lib.hid (HZE.out w2 HB2.out)
    generalize allZ (t.drop (S * z)) = T at *
    generalize 256 - S * z = m1 at *
    generalize c - S * z = m2 at *
    go_wp2_with fail
    refine HZZ.out.mono ?_
    rintro e w3 ⟨rfl, rfl⟩
    cases T
    · go_wp2_with fail
      go_ret
      exact ⟨by rw [HE.out]; rfl, HB2.out⟩
    · go_wp2_with fail
      go_ret
      exact ⟨by rw [HE.out]; rfl, HB2.out⟩
  · go_wp2_with fail
    go_ret
    exact ⟨by rw [HE.out]; rfl, HB2.out⟩
theorem check_len (A : Option Addr) (n c : Nat) (k : Int) (w : World) (h : n ≠ 256) (hn : n ≤ 9223372036854775807) :
    Calls Tryd.prog 11 #[.slice A n c, .int .i64 k] w fun e w' => e = .returned (.int .i64 4) ∧ w = w' := by
  have h1 : ((n : Int) != 256) = true := by rw [bne_iff_ne]; omega
  clear h
  go_enter Tryd.func11, Tryd.ntmps11
  go_wp2
  go_ret
  exact ⟨rfl, rfl⟩
theorem check_class (A : Option Addr) (c : Nat) (k : Int) (w : World) (hS : SZ w) (hk : k < 0 ∨ 8 ≤ k) :
    Calls Tryd.prog 11 #[.slice A 256 c, .int .i64 k] w fun e w' => e = .returned (.int .i64 4) ∧ w = w' := by
  have HSL := Lib.hid (slots_out k hk w hS)
  clear hS hk
  go_enter Tryd.func11, Tryd.ntmps11
  go_wp2_with fail
  refine HSL.out.mono ?_
  rintro e w1 ⟨rfl, rfl⟩
  go_wp2
  go_ret
  exact ⟨rfl, rfl⟩
end Go.Proofs.YtflgcddgocojpaaDoor
