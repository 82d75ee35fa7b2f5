/-
  Layer 18: find, Get, Used.
-/
import Derived.Test.YtflgcddgocojpaaDoorSlD
namespace Go.Proofs.YtflgcddgocojpaaDoor
open Go.RowKit Go
set_option linter.unusedVariables false
set_option linter.unusedSimpArgs false
set_option maxHeartbeats 1000000

/-- is there an object? -/
def Has (z S : Nat) (t : List Nat) (i : Int) : Prop := 0 ≤ i ∧ i < (S : Int) ∧ zr ((winL t z i.toNat).take 8) = false
def FindTo (w : World) (z S : Nat) (t : List Nat) (i : Int) (e : Ending) (w' : World) : Prop :=
  (mayP z S t = false ∧ e = .returned (.tuple #[.slice none 0 0, .slice none 0 0, .int .i64 4]) ∧ Below w.heap.size w w') ∨
  (mayP z S t = true ∧ ¬ Has z S t i ∧ e = .returned (.tuple #[.slice none 0 0, .slice none 0 0, .int .i64 6]) ∧ Below w.heap.size w w') ∨
  (mayP z S t = true ∧ Has z S t i ∧ ∃ h cc, e = .returned (.tuple #[.slice (some ⟨h, 0, none⟩) 256 cc, .slice (some ⟨h, i.toNat * z, none⟩) z z, .int .i64 0]) ∧ PgO w' w.heap.size h cc t ∧ Below w.heap.size w w')
theorem find_any (k b q c : Nat) (i : Int) (t : List Nat) (w : World) (hS : SZ w) (hk : k < 8) (hs : BS w w.heap.size (some ⟨b, q, none⟩) 256 c t) :
    Calls Tryd.prog 37 #[.slice (some ⟨b, q, none⟩) 256 c, .int .i64 (k : Int), .int .i64 i] w (FindTo w (clZ k) (clS k) t i) := by
  obtain ⟨z1, z2, z3, z4, z5, -⟩ := cl_fits k hk
  have HO := Lib.hid (open_any k b q c t w hS hk hs)
  clear hs hS
  unfold OpenTo at HO
  generalize clZ k = z at *
  generalize clS k = S at *
  go_enter Tryd.func37, Tryd.ntmps37
  go_wp2_with fail
  refine HO.out.mono ?_
  clear HO
  rintro e w1 (⟨hm, rfl, hb⟩ | ⟨hm, h, cc, g, rfl, hp, hhg, hr, hb⟩)
  · have HR : Hid (FindTo w z S t i (.returned (.tuple #[.slice none 0 0, .slice none 0 0, .int .i64 4])) w1) := Lib.hid (.inl ⟨hm, rfl, hb⟩)
    clear hm hb
    go_wp2_with fail
    go_ret3
    exact HR.out
  · have HN : Hid (¬ Has z S t i → FindTo w z S t i (.returned (.tuple #[.slice none 0 0, .slice none 0 0, .int .i64 6])) w1) := Lib.hid (fun hn => .inr (.inl ⟨hm, hn, rfl, hb⟩))
    have HY : Hid (Has z S t i → FindTo w z S t i (.returned (.tuple #[.slice (some ⟨h, 0, none⟩) 256 cc, .slice (some ⟨h, i.toNat * z, none⟩) z z, .int .i64 0])) w1.drew) := Lib.hid (fun hn => .inr (.inr ⟨hm, hn, h, cc, rfl, by
      obtain ⟨a1, a2, a3, a4, a5, a6⟩ := hp
      exact ⟨a1, a2, a3, a4, a5, a6⟩, hb.drew⟩))
    have HRR := Lib.hid hr
    have HP := Lib.hid hp
    clear hm hb hr hp
    by_cases h0 : i < 0
    · have HF := Lib.hid (HN.out (fun hh => by have := hh.1; omega))
      clear HN HY HRR HP
      go_wp2_with fail
      go_ret3
      exact HF.out
    · obtain ⟨j, rfl⟩ : ∃ j : Nat, i = (j : Int) := ⟨i.toNat, by omega⟩
      by_cases h1 : j < S
      · have hc := HRR.out.cell h1
        have HFR := Lib.hid (free_w h (0 + j * z) z _ _ w1 (bs_win HP.out.bs z3 z1 h1) z1 z2)
        have e1 : winV h 0 z j = .slice (some ⟨h, j * z, none⟩) z z := by unfold winV; rw [Nat.zero_add]
        rw [e1] at hc
        rw [Nat.zero_add] at HFR
        rw [Int.toNat_natCast] at HY
        have h0' : ¬ (j : Int) < 0 := h0
        have h1' : ¬ (S : Int) ≤ (j : Int) := by omega
        cases hf : zr ((winL t z j).take 8)
        · rw [hf] at HFR
          have HF := Lib.hid (HY.out ⟨by omega, by omega, by rw [Int.toNat_natCast]; exact hf⟩)
          clear HN HY HRR HP hf e1
          generalize j * z = m at *
          go_wp2_with fail
          refine HFR.out.mono ?_
          rintro e w2 ⟨rfl, rfl⟩
          go_wp2_with fail
          go_region
          go_wp2_with fail
          go_ret3
          exact HF.out
        · rw [hf] at HFR
          have HF := Lib.hid (HN.out (fun hh => by have := hh.2.2; rw [Int.toNat_natCast, hf] at this; contradiction))
          clear HN HY HRR HP hf e1
          generalize j * z = m at *
          go_wp2_with fail
          refine HFR.out.mono ?_
          rintro e w2 ⟨rfl, rfl⟩
          go_wp2_with fail
          go_ret3
          exact HF.out
      · have HF := Lib.hid (HN.out (fun hh => by have := hh.2.1; omega))
        have h1' : (S : Int) ≤ (j : Int) := by omega
        clear HN HY HRR HP
        go_wp2_with fail
        go_ret3
        exact HF.out
theorem object_w (b q z : Nat) (u : List Nat) (w : World) (hs : BS w w.heap.size (some ⟨b, q, none⟩) z z u) (hz : 16 ≤ z) (h128 : z ≤ 128) (hn1 : 1 ≤ num (u.take 2)) (hn : num (u.take 2) ≤ z - 8) :
    Calls Tryd.prog 39 #[.slice (some ⟨b, q, none⟩) z z] w fun e w' => e = .returned (.slice (some ⟨b, q + 8, none⟩) (num (u.take 2)) (num (u.take 2))) ∧ Below w.heap.size w w' := by
  have HS := Lib.hid (size_w b q z u w hs hz h128)
  clear hs
  generalize num (u.take 2) = n at *
  have hz8 : ¬ z = 8 := by omega
  have hn8 : ¬ 8 + n = 8 := by omega
  have hn0 : ¬ n = 0 := by omega
  go_enter Tryd.func39, Tryd.ntmps39
  go_wp2_with fail
  refine HS.out.mono ?_
  rintro e w1 ⟨rfl, hb⟩
  have HB := Lib.hid hb
  clear hb
  go_wp2_with fail
  go_ret
  refine ⟨?_, HB.out⟩
  show Ending.returned (.slice (some ⟨b, q + 8, none⟩) (8 + n - 8) (8 + n - 8)) = _
  rw [Nat.add_sub_cancel_left]
theorem mayP_brk {z S : Nat} {t : List Nat} (h : mayP z S t = true) {j : Nat} (hj : j < S) : brk z (winL t z j) = false := by
  unfold mayP at h
  rw [Bool.and_eq_true, List.all_eq_true] at h
  have := h.1 j (List.mem_range.2 hj); simpa using this
theorem brk_num {z : Nat} {u : List Nat} (h : brk z u = false) (hf : zr (u.take 8) = false) : 1 ≤ num (u.take 2) ∧ num (u.take 2) ≤ z - 8 ∧ 1 ≤ num ((u.drop 2).take 6) := by
  unfold brk at h
  rw [if_neg (by rw [hf]; decide)] at h
  simp only [Bool.or_eq_false_iff, Bool.not_eq_false', decide_eq_true_eq] at h
  exact ⟨h.1.1, h.1.2, h.2.1⟩
/-- what Get answers -/
def GetTo (w : World) (z S : Nat) (t : List Nat) (i : Int) (e : Ending) (w' : World) : Prop :=
  (mayP z S t = false ∧ e = .returned (.tuple #[.int .u64 0, .slice none 0 0, .int .i64 4]) ∧ Below w.heap.size w w') ∨
  (mayP z S t = true ∧ ¬ Has z S t i ∧ e = .returned (.tuple #[.int .u64 0, .slice none 0 0, .int .i64 6]) ∧ Below w.heap.size w w') ∨
  (mayP z S t = true ∧ Has z S t i ∧ ∃ A n, e = .returned (.tuple #[.int .u64 (((decO (winL t z i.toNat)).1 : Nat) : Int), .slice A n n, .int .i64 0]) ∧ BS w' w'.heap.size A n n (decO (winL t z i.toNat)).2 ∧ Below w.heap.size w w')
theorem get18_any (k b q c : Nat) (i : Int) (t : List Nat) (w : World) (hS : SZ w) (hk : k < 8) (hs : BS w w.heap.size (some ⟨b, q, none⟩) 256 c t) :
    Calls Tryd.prog 16 #[.slice (some ⟨b, q, none⟩) 256 c, .int .i64 (k : Int), .int .i64 i] w (GetTo w (clZ k) (clS k) t i) := by
  obtain ⟨z1, z2, z3, z4, z5, -⟩ := cl_fits k hk
  have HO := Lib.hid (find_any k b q c i t w hS hk hs)
  clear hs hS
  unfold FindTo at HO
  generalize clZ k = z at *
  generalize clS k = S at *
  go_enter Tryd.func16, Tryd.ntmps16
  go_wp2_with fail
  refine HO.out.mono ?_
  clear HO
  rintro e w1 (⟨hm, rfl, hb⟩ | ⟨hm, hh, rfl, hb⟩ | ⟨hm, hh, h, cc, rfl, hp, hb⟩)
  · have HR : Hid (GetTo w z S t i (.returned (.tuple #[.int .u64 0, .slice none 0 0, .int .i64 4])) w1) := Lib.hid (.inl ⟨hm, rfl, hb⟩)
    clear hm hb
    go_wp2_with fail
    go_ret3
    exact HR.out
  · have HR : Hid (GetTo w z S t i (.returned (.tuple #[.int .u64 0, .slice none 0 0, .int .i64 6])) w1) := Lib.hid (.inr (.inl ⟨hm, hh, rfl, hb⟩))
    clear hm hb hh
    go_wp2_with fail
    go_ret3
    exact HR.out
  · obtain ⟨h0, h1, h2⟩ := id hh
    have hj : i.toNat < S := by omega
    have hbs := bs_win hp.bs z3 z1 hj
    rw [Nat.zero_add] at hbs
    obtain ⟨n1, n2, n3⟩ := brk_num (mayP_brk hm hj) h2
    have HS := Lib.hid (serial_w h _ z _ w1 hbs z1 z2)
    have HB0 := Lib.hid (fun w2 (hb : Below w1.heap.size w1 w2) => object_w h _ z _ w2 ((hbs.below hb).more hb.size) z1 z2 n1 n2)
    have HR : Hid (∀ w2, Below w1.heap.size w1 w2 → GetTo w z S t i (.returned (.tuple #[.int .u64 ((num (((winL t z i.toNat).drop 2).take 6) : Nat) : Int), .slice (some ⟨h, i.toNat * z + 8, none⟩) (num ((winL t z i.toNat).take 2)) (num ((winL t z i.toNat).take 2)), .int .i64 0])) w2) :=
      Lib.hid (fun w2 hb2 => .inr (.inr ⟨hm, hh, _, _, rfl, by
        have h3 := (((hbs.below hb2).more hb2.size).cut (k := 8) (by omega)).take (k := num ((winL t z i.toNat).take 2)) (by omega)
        have e2 : cutA (some ⟨h, i.toNat * z, none⟩) z 8 = some ⟨h, i.toNat * z + 8, none⟩ := by unfold cutA; rw [if_neg (by omega)]; simp [Go.WideShapes.add_plain]
        rw [e2] at h3
        obtain ⟨a1, a2, a3, a4, a5⟩ := h3
        exact ⟨a1, Nat.le_refl _, by omega, a4, a5⟩, hb.trans (hb2.mono hb.size)⟩))
    clear hm hb hh h0 h1 h2 hj hbs n1 n2 n3 hp
    generalize winL t z i.toNat = u at *
    generalize i.toNat * z = m at *
    go_wp2_with fail
    refine HS.out.mono ?_
    rintro e w2 ⟨rfl, hb⟩
    have HB2 := Lib.hid hb
    have HB1 := Lib.hid (HB0.out w2 hb)
    clear hb
    go_wp2_with fail
    refine HB1.out.mono ?_
    rintro e w3 ⟨rfl, hb⟩
    have HF := Lib.hid (HR.out w3 (HB2.out.trans (hb.mono HB2.out.size)))
    clear hb
    go_wp2_with fail
    go_ret3
    exact HF.out
end Go.Proofs.YtflgcddgocojpaaDoor
