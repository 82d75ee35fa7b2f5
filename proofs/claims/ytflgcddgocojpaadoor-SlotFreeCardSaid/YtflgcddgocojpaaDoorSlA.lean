/-
  Layer 18's windows, as they are read.
-/
import Derived.Test.YtflgcddgocojpaaDoorSlM
import Derived.Test.YtflgcddgocojpaaDoorWordC
import Derived.Test.YtflgcddgocojpaaDoorCut
namespace Go.Proofs.YtflgcddgocojpaaDoor
open Go.RowKit Go
set_option linter.unusedVariables false
set_option maxHeartbeats 1000000

theorem free_w (b q z B : Nat) (u : List Nat) (w : World) (hs : BS w B (some ⟨b, q, none⟩) z z u) (hz : 16 ≤ z) (h128 : z ≤ 128) :
    Calls Tryd.prog 35 #[.slice (some ⟨b, q, none⟩) z z] w fun e w' => e = .returned (.bool (zr (u.take 8))) ∧ w = w' := by
  have HZ := Lib.hid (zero_any _ 8 z B (u.take 8) w (hs.take (by omega)) (by omega))
  clear hs
  go_enter Tryd.func35, Tryd.ntmps35
  go_wp2_with fail
  refine HZ.out.mono ?_
  rintro e w1 ⟨rfl, rfl⟩
  go_wp2_with fail
  go_ret
  exact ⟨rfl, rfl⟩
theorem size_w (b q z : Nat) (u : List Nat) (w : World) (hs : BS w w.heap.size (some ⟨b, q, none⟩) z z u) (hz : 16 ≤ z) (h128 : z ≤ 128) :
    Calls Tryd.prog 45 #[.slice (some ⟨b, q, none⟩) z z] w fun e w' => e = .returned (.int .i64 ((num (u.take 2) : Nat) : Int)) ∧ Below w.heap.size w w' := by
  have h2 := hs.take (k := 2) (by omega)
  have HG := Lib.hid (get_any _ 2 z (u.take 2) w h2)
  have hlt : num (u.take 2) < 65536 := by
    have := num_lt (l := u.take 2) (take_byte hs.byte 2)
    rwa [h2.len] at this
  have HE := Lib.hid (show (u.take 2).take 8 = u.take 2 by rw [List.take_take]; rfl)
  rw [HE.out] at HG
  clear hs h2
  generalize num (u.take 2) = n at *
  go_enter Tryd.func45, Tryd.ntmps45
  go_wp2_with fail
  refine HG.out.mono ?_
  rintro e w1 ⟨rfl, hb⟩
  have HB := Lib.hid hb
  clear hb
  go_wp2_with fail
  go_ret
  exact ⟨rfl, HB.out⟩
theorem serial_w (b q z : Nat) (u : List Nat) (w : World) (hs : BS w w.heap.size (some ⟨b, q, none⟩) z z u) (hz : 16 ≤ z) (h128 : z ≤ 128) :
    Calls Tryd.prog 40 #[.slice (some ⟨b, q, none⟩) z z] w fun e w' => e = .returned (.int .u64 ((num ((u.drop 2).take 6) : Nat) : Int)) ∧ Below w.heap.size w w' := by
  have h2 := (hs.cut (k := 2) (by omega)).take (k := 6) (by omega)
  have e2 : cutA (some ⟨b, q, none⟩) z 2 = some ⟨b, q + 2, none⟩ := by unfold cutA; rw [if_neg (by omega)]; simp [Go.WideShapes.add_plain]
  rw [e2] at h2
  have HG := Lib.hid (get_any _ 6 (z - 2) ((u.drop 2).take 6) w h2)
  have HE := Lib.hid (show ((u.drop 2).take 6).take 8 = (u.drop 2).take 6 by rw [List.take_take]; rfl)
  rw [HE.out] at HG
  clear hs h2 e2
  generalize num ((u.drop 2).take 6) = n at *
  go_enter Tryd.func40, Tryd.ntmps40
  go_wp2_with fail
  refine HG.out.mono ?_
  rintro e w1 ⟨rfl, hb⟩
  have HB := Lib.hid hb
  clear hb
  go_wp2_with fail
  go_ret
  exact ⟨rfl, HB.out⟩
def holdsB (z : Nat) (n : Int) : Bool := decide (1 ≤ n ∧ n ≤ (z : Int) - 8)
def servesB (s : Nat) : Bool := decide (1 ≤ s ∧ s < 2 ^ 48)
theorem holds_w (A : Option Addr) (z : Nat) (n : Int) (w : World) (hz : 16 ≤ z) (h128 : z ≤ 128) :
    Calls Tryd.prog 33 #[.slice A z z, .int .i64 n] w fun e w' => e = .returned (.bool (holdsB z n)) ∧ w = w' := by
  by_cases h1 : 1 ≤ n
  · by_cases h2 : n ≤ (z : Int) - 8
    · have HD := Lib.hid (show holdsB z n = true from decide_eq_true ⟨h1, h2⟩)
      go_enter Tryd.func33, Tryd.ntmps33
      go_wp2
      go_ret
      exact ⟨by rw [HD.out]; rfl, rfl⟩
    · have HD := Lib.hid (show holdsB z n = false from decide_eq_false fun h => h2 h.2)
      go_enter Tryd.func33, Tryd.ntmps33
      go_wp2
      go_ret
      exact ⟨by rw [HD.out]; rfl, rfl⟩
  · have HD := Lib.hid (show holdsB z n = false from decide_eq_false fun h => h1 h.1)
    go_enter Tryd.func33, Tryd.ntmps33
    go_wp2
    go_ret
    exact ⟨by rw [HD.out]; rfl, rfl⟩
theorem serves_w (s : Nat) (hs : s < 2 ^ 64) (w : World) :
    Calls Tryd.prog 32 #[.int .u64 (s : Int)] w fun e w' => e = .returned (.bool (servesB s)) ∧ w = w' := by
  by_cases h1 : 1 ≤ s
  · by_cases h2 : s ≤ 281474976710655
    · have HD := Lib.hid (show servesB s = true from decide_eq_true ⟨h1, by omega⟩)
      have k2 : decide ((s : Int) ≤ 281474976710655) = decide (s ≤ 281474976710655) := by rw [decide_eq_decide]; omega
      have k1 : decide (s ≤ 281474976710655) = true := decide_eq_true h2
      rw [k1] at k2
      clear hs k1
      go_enter Tryd.func32, Tryd.ntmps32
      go_wp2
      go_ret
      exact ⟨by rw [HD.out]; rfl, rfl⟩
    · have HD := Lib.hid (show servesB s = false from decide_eq_false fun h => h2 (by omega))
      have k2 : decide ((s : Int) ≤ 281474976710655) = decide (s ≤ 281474976710655) := by rw [decide_eq_decide]; omega
      have k1 : decide (s ≤ 281474976710655) = false := decide_eq_false h2
      rw [k1] at k2
      clear hs k1
      go_enter Tryd.func32, Tryd.ntmps32
      go_wp2
      go_ret
      exact ⟨by rw [HD.out]; rfl, rfl⟩
  · have HD := Lib.hid (show servesB s = false from decide_eq_false fun h => h1 h.1)
    clear hs
    go_enter Tryd.func32, Tryd.ntmps32
    go_wp2
    go_ret
    exact ⟨by rw [HD.out]; rfl, rfl⟩
theorem brk_free {z : Nat} {u : List Nat} (h : zr (u.take 8) = true) : brk z u = !zr u := by unfold brk; rw [if_pos h]
theorem broken_w (b q z : Nat) (u : List Nat) (w : World) (hs : BS w w.heap.size (some ⟨b, q, none⟩) z z u) (hz : 16 ≤ z) (h128 : z ≤ 128) :
    Calls Tryd.prog 29 #[.slice (some ⟨b, q, none⟩) z z] w fun e w' => e = .returned (.bool (brk z u)) ∧ Below w.heap.size w w' := by
  have HF := Lib.hid (free_w b q z _ u w hs hz h128)
  by_cases hf : zr (u.take 8) = true
  · have HZ := Lib.hid (zero_any _ z z _ u w hs (by omega))
    have HB := Lib.hid (brk_free (z := z) hf)
    rw [hf] at HF
    clear hs hf
    go_enter Tryd.func29, Tryd.ntmps29
    go_wp2_with fail
    refine HF.out.mono ?_
    rintro e w1 ⟨rfl, rfl⟩
    go_wp2_with fail
    refine HZ.out.mono ?_
    rintro e w1 ⟨rfl, rfl⟩
    go_wp2_with fail
    go_ret
    exact ⟨by rw [HB.out]; rfl, Below.refl _ _⟩
  · have hf' : zr (u.take 8) = false := by simpa using hf
    rw [hf'] at HF
    have h2 := hs.take (k := 2) (by omega)
    have hlt : num (u.take 2) < 65536 := by
      have := num_lt (l := u.take 2) (take_byte hs.byte 2)
      rwa [h2.len] at this
    have hl6 : num ((u.drop 2).take 6) < 2 ^ 64 := by
      have := num_lt (l := (u.drop 2).take 6) (take_byte (fun i => by rw [drop_at]; exact hs.byte _) 6)
      refine Nat.lt_of_lt_of_le this ?_
      rw [show (2 : Nat) ^ 64 = 256 ^ 8 by decide]
      exact Nat.pow_le_pow_right (by decide) (by simp; omega)
    have HS := Lib.hid (size_w b q z u w hs hz h128)
    have HY := Lib.hid (holds_w (some ⟨b, q, none⟩) z ((num (u.take 2) : Nat) : Int))
    have HR := Lib.hid (fun w1 (h : Below w.heap.size w w1) => serial_w b q z u w1 ((hs.below h).more h.size) hz h128)
    have HV := Lib.hid (serves_w (num ((u.drop 2).take 6)) hl6)
    have HZ := Lib.hid (fun w1 (h : Below w.heap.size w w1) (hk : 8 + num (u.take 2) ≤ z) => zero_any _ (z - (8 + num (u.take 2))) (z - (8 + num (u.take 2))) _ _ w1 ((hs.below h).cut hk) (by omega))
    have HE : Hid (brk z u = (!holdsB z ((num (u.take 2) : Nat) : Int) || (!servesB (num ((u.drop 2).take 6)) || !zr (u.drop (8 + num (u.take 2)))))) := Lib.hid (by
      unfold brk; rw [if_neg hf]
      have e1 : holdsB z ((num (u.take 2) : Nat) : Int) = decide (1 ≤ num (u.take 2) ∧ num (u.take 2) ≤ z - 8) := by unfold holdsB; rw [decide_eq_decide]; omega
      have hl48 : num ((u.drop 2).take 6) < 2 ^ 48 := by
        have := num_lt (l := (u.drop 2).take 6) (take_byte (fun i => by rw [drop_at]; exact hs.byte _) 6)
        refine Nat.lt_of_lt_of_le this ?_
        rw [show (2 : Nat) ^ 48 = 256 ^ 6 by decide]
        exact Nat.pow_le_pow_right (by decide) (by simp; omega)
      have e2 : servesB (num ((u.drop 2).take 6)) = decide (1 ≤ num ((u.drop 2).take 6)) := by unfold servesB; rw [decide_eq_decide]; omega
      rw [e1, e2])
    have HC : Hid (∀ k, 8 + k < z → cutA (some ⟨b, q, none⟩) z (8 + k) = some ⟨b, q + (8 + k), none⟩) := Lib.hid (fun k hk => by unfold cutA; rw [if_neg (by omega)]; simp [Go.WideShapes.add_plain])
    have HC0 : Hid (∀ k, 8 + k = z → cutA (some ⟨b, q, none⟩) z (8 + k) = some ⟨b, q, none⟩) := Lib.hid (fun k hk => by unfold cutA; rw [if_pos hk.symm])
    have HO : Hid (holdsB z ((num (u.take 2) : Nat) : Int) = decide (8 + num (u.take 2) ≤ z ∧ 1 ≤ num (u.take 2))) := Lib.hid (by unfold holdsB; rw [decide_eq_decide]; omega)
    clear hs hf hf' h2 hl6
    generalize brk z u = R at *
    generalize hD : u.drop (8 + num (u.take 2)) = D at *
    clear hD
    generalize num ((u.drop 2).take 6) = sr at *
    generalize num (u.take 2) = n at *
    by_cases hok : 8 + n ≤ z ∧ 1 ≤ n
    · rw [decide_eq_true hok] at HO
      rw [HO.out] at HE
      obtain ⟨hk, h1n⟩ := hok
      by_cases hsv : servesB sr = true
      · rw [hsv] at HV HE
        clear hsv
        have HYY := Lib.hid (fun w1 => holds_w (some ⟨b, q, none⟩) z (n : Int) w1 hz h128)
        rw [HO.out] at HYY
        by_cases hkz : 8 + n = z
        · have HZZ := Lib.hid (fun w1 (h : Below w.heap.size w w1) => HZ.out w1 h hk)
          have h0 : z - (8 + n) = 0 := by omega
          rw [HC0.out n hkz, h0] at HZZ
          clear HC HC0 HZ HY
          go_enter Tryd.func29, Tryd.ntmps29
          go_wp2_with fail
          refine HF.out.mono ?_
          rintro e w1 ⟨rfl, rfl⟩
          go_wp2_with fail
          refine HS.out.mono ?_
          rintro e w1 ⟨rfl, hb⟩
          have HB1 := Lib.hid hb
          clear hb
          go_wp2_with fail
          refine (HYY.out w1).mono ?_
          rintro e w2 ⟨rfl, rfl⟩
          go_wp2_with fail
          refine (HR.out w1 HB1.out).mono ?_
          rintro e w2 ⟨rfl, hb⟩
          have HB2 := Lib.hid (HB1.out.trans (hb.mono HB1.out.size))
          clear hb
          go_wp2_with fail
          refine (HV.out w2).mono ?_
          rintro e w3 ⟨rfl, rfl⟩
          go_wp2_with fail
          refine (HZZ.out w2 HB2.out).mono ?_
          rintro e w3 ⟨rfl, rfl⟩
          go_wp2_with fail
          go_ret
          exact ⟨by rw [HE.out]; rfl, HB2.out⟩
        · have HZZ := Lib.hid (fun w1 (h : Below w.heap.size w w1) => HZ.out w1 h hk)
          rw [HC.out n (by omega)] at HZZ
          clear HC HC0 HZ HY
          go_enter Tryd.func29, Tryd.ntmps29
          go_wp2_with fail
          refine HF.out.mono ?_
          rintro e w1 ⟨rfl, rfl⟩
          go_wp2_with fail
          refine HS.out.mono ?_
          rintro e w1 ⟨rfl, hb⟩
          have HB1 := Lib.hid hb
          clear hb
          go_wp2_with fail
          refine (HYY.out w1).mono ?_
          rintro e w2 ⟨rfl, rfl⟩
          go_wp2_with fail
          refine (HR.out w1 HB1.out).mono ?_
          rintro e w2 ⟨rfl, hb⟩
          have HB2 := Lib.hid (HB1.out.trans (hb.mono HB1.out.size))
          clear hb
          go_wp2_with fail
          refine (HV.out w2).mono ?_
          rintro e w3 ⟨rfl, rfl⟩
          go_wp2_with fail
          refine (HZZ.out w2 HB2.out).mono ?_
          rintro e w3 ⟨rfl, rfl⟩
          go_wp2_with fail
          go_ret
          exact ⟨by rw [HE.out]; rfl, HB2.out⟩
      · have hsv' : servesB sr = false := by simpa using hsv
        rw [hsv'] at HV HE
        clear hsv hsv'
        have HYY := Lib.hid (fun w1 => holds_w (some ⟨b, q, none⟩) z (n : Int) w1 hz h128)
        rw [HO.out] at HYY
        clear HC HC0 HZ HY
        go_enter Tryd.func29, Tryd.ntmps29
        go_wp2_with fail
        refine HF.out.mono ?_
        rintro e w1 ⟨rfl, rfl⟩
        go_wp2_with fail
        refine HS.out.mono ?_
        rintro e w1 ⟨rfl, hb⟩
        have HB1 := Lib.hid hb
        clear hb
        go_wp2_with fail
        refine (HYY.out w1).mono ?_
        rintro e w2 ⟨rfl, rfl⟩
        go_wp2_with fail
        refine (HR.out w1 HB1.out).mono ?_
        rintro e w2 ⟨rfl, hb⟩
        have HB2 := Lib.hid (HB1.out.trans (hb.mono HB1.out.size))
        clear hb
        go_wp2_with fail
        refine (HV.out w2).mono ?_
        rintro e w3 ⟨rfl, rfl⟩
        go_wp2_with fail
        go_ret
        exact ⟨by rw [HE.out]; rfl, HB2.out⟩
    · rw [decide_eq_false hok] at HO
      rw [HO.out] at HE
      have HYY := Lib.hid (fun w1 => holds_w (some ⟨b, q, none⟩) z (n : Int) w1 hz h128)
      rw [HO.out] at HYY
      clear HC HC0 HZ HY hok
      go_enter Tryd.func29, Tryd.ntmps29
      go_wp2_with fail
      refine HF.out.mono ?_
      rintro e w1 ⟨rfl, rfl⟩
      go_wp2_with fail
      refine HS.out.mono ?_
      rintro e w1 ⟨rfl, hb⟩
      have HB1 := Lib.hid hb
      clear hb
      go_wp2_with fail
      refine (HYY.out w1).mono ?_
      rintro e w2 ⟨rfl, rfl⟩
      go_wp2_with fail
      go_ret
      exact ⟨by rw [HE.out]; rfl, HB1.out⟩
end Go.Proofs.YtflgcddgocojpaaDoor
