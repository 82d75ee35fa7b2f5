/-
  The document's Pad.
-/
import Derived.Test.YtoclelpmampikaaGreatShaI
import Derived.Test.YtoclelpmampikaaGreatCut
namespace Go.Proofs.YtoclelpmampikaaGreat
open Go.RowKit
set_option linter.unusedVariables false
theorem rp_byte (k : Nat) : ∀ i, (128 :: List.replicate k 0 : List Nat).getD i 0 < 256 := by
  intro i
  cases i with
  | zero => simp
  | succ i =>
    by_cases h : i < k
    · simp [List.getD, h]
    · simp [List.getD, show ¬ i < k from h]
theorem rp_more (k : Nat) : (128 :: List.replicate k 0 : List Nat) ++ [0] = 128 :: List.replicate (k + 1) 0 := by
  rw [List.cons_append, ← List.replicate_succ']
def padK (n : Nat) : Nat := (119 - n % 64) % 64
def RpA (w : World) (n : Nat) (v : Value) (wr : World) : Prop := ∃ k : Nat, k ≤ padK n ∧ Own wr w.heap.size v (128 :: List.replicate k 0) ∧ Below w.heap.size w wr
def rpV (V j i : Nat) : Value := if 8 - j ≤ i then .int .u8 ((V / 256 ^ (7 - i) % 256 : Nat) : Int) else .int .u8 0
def RpB (w : World) (n g : Nat) (b : Value) (x i : Value) (wr : World) : Prop :=
  ∃ j : Nat, j ≤ 8 ∧ i = .int .i64 (7 - (j : Int)) ∧ x = .int .u64 ((8 * n / 256 ^ j : Nat) : Int) ∧ Own wr w.heap.size b (128 :: List.replicate (padK n) 0) ∧ Below w.heap.size w wr ∧ w.heap.size ≤ g ∧ b.ownBlock ≠ some g ∧ Row wr g 5 (rpV (8 * n) j) 8
theorem rpB_start {w wr : World} {n : Nat} {b : Value} (h : Own wr w.heap.size b (128 :: List.replicate (padK n) 0)) (hb : Below w.heap.size w wr) :
    RpB w n wr.heap.size b (.int .u64 ((n : Int) * 8)) (.int .i64 7) (wr.alloc (.cells (zeros 8) 5)) := by
  refine ⟨0, by omega, rfl, by rw [Nat.pow_zero, Nat.div_one, Int.natCast_mul, Int.mul_comm]; rfl, h.alloc _, hb.alloc hb.size _, hb.size, fun e => ?_, ?_⟩
  · have := (h.lt e).2; omega
  · have h2 := heap_alloc_new wr (.cells (zeros 8) 5)
    have e : zeros 8 = rowV (rpV (8 * n) 0) 8 := rowV_ext (by simp [zeros]) fun i hi => by
      rw [zeros_at hi]; unfold rpV; rw [if_neg (by omega)]
    unfold Row
    rw [← e]; exact h2
theorem rpB_step {w W : World} {n g j : Nat} {b : Value} (hj : j < 8) (ho : Own W w.heap.size b (128 :: List.replicate (padK n) 0)) (hb : Below w.heap.size w W) (hg : w.heap.size ≤ g) (hne : b.ownBlock ≠ some g) (hr : Row W g 5 (rpV (8 * n) j) 8) :
    RpB w n g b (.int .u64 ((8 * n / 256 ^ j / 256 : Nat) : Int)) (.int .i64 (7 - (j : Int) - 1)) (W.setCell ⟨g, 7 - j, none⟩ (.int .u8 ((8 * n / 256 ^ j % 256 : Nat) : Int))) := by
  refine ⟨j + 1, by omega, by congr 1; omega, by rw [Nat.pow_succ, Nat.div_div_eq_div_mul], ho.keep fun g' hg' => ?_, hb.setCell hg _, hg, hne, (hr.set_ (7 - j) (.int .u8 ((8 * n / 256 ^ j % 256 : Nat) : Int))).congr fun i hi => ?_⟩
  · exact Below.heap_setCell W ⟨g, 7 - j, none⟩ _ g' (fun e => hne (by rw [hg', e]))
  · unfold rpV
    by_cases e : i = 7 - j
    · subst e; rw [if_pos rfl, if_pos (by omega), show 7 - (7 - j) = j by omega]
    · rw [if_neg e]
      by_cases h : 8 - j ≤ i
      · rw [if_pos h, if_pos (by omega)]
      · rw [if_neg h, if_neg (by omega)]
theorem rp_bs {w : World} {g V : Nat} (h : Row w g 5 (rpV V 8) 8) : BS w w.heap.size (some ⟨g, 0, none⟩) 8 8 (putL 8 V).reverse := by
  refine BS.of_blk h (Row.lt h) (by simp [putL]) (Nat.le_refl _) (by omega) (reverse_byte (putL_byte 8 V)) fun i hi => ?_
  rw [rowV_at _ hi]
  unfold rpV
  rw [if_pos (by omega), reverse_at _ _ (by rw [putL_len]; exact hi), putL_len, putL_at, if_pos (by omega)]
attribute [local irreducible] rpV rowV
set_option maxHeartbeats 1000000 in
set_option maxRecDepth 100000 in
theorem refPad_yes (n : Nat) (hn : n ≤ 1099511627776) (w : World) :
    Calls Tryz.prog 90 #[.int .i64 (n : Int)] w (GivesN w (Sha.pad n)) := by
  have hk63 : padK n ≤ 63 := by unfold padK; omega
  have HK : Hid (padK n = (119 - n % 64) % 64) := Lib.hid rfl
  have HP : Hid (Sha.pad n = 128 :: List.replicate (padK n) 0 ++ (putL 8 (8 * n)).reverse) := Lib.hid rfl
  have hm8 : ∀ W : World, (Instr.makeSlice 89 (.int .i64 8) (.int .i64 8)).run Tryz.prog W = .ok (.slice (some ⟨W.heap.size, 0, none⟩) 8 8) (W.alloc (.cells (zeros 8) 5)) := make_cap 8 8 (by omega) (by omega)
  have HO0 : Hid (Own (w.alloc (.cells #[.int .u8 128] 5)) w.heap.size (.slice (some ⟨w.heap.size, 0, none⟩) 1 1) (128 :: List.replicate 0 0)) :=
    Lib.hid (Own.blk (Nat.le_refl _) (heap_alloc_new w _) rfl (by omega) (by unfold maxLen; omega) rfl rfl)
  have HB0 := Lib.hid ((Below.refl w.heap.size w).alloc (Nat.le_refl _) (.cells #[.int .u8 128] 5))
  go_enter Tryz.func90, Tryz.ntmps90
  go_wp2
  generalize w.alloc (.cells #[.int .u8 128] 5) = w1 at *
  go_loopw [3] (fun v wr => RpA w n v wr) (fun v _ => 100 - lenV v)
  case atStart => exact ⟨0, by omega, HO0.out, HB0.out⟩
  case round =>
    obtain ⟨k, hk, hown, hb⟩ := hrel
    have HL : Hid ((128 :: List.replicate k 0 : List Nat).length = k + 1) := Lib.hid (by simp)
    have hB := hb.size
    have HO := Lib.hid hown
    obtain ⟨A, c, rfl, _⟩ := hown.bs (rp_byte k)
    rw [HL.out] at HO ⊢
    by_cases he : k = padK n
    · have hc : ((n : Int) + ((k : Int) + 1)) % 64 = 56 := by have := HK.out; omega
      have hcb : (((n : Int) + ((k : Int) + 1)) % 64 != 56) = false := by rw [hc]; rfl
      subst he
      have HS := Lib.hid (rpB_start HO.out hb)
      have hw : w.heap.size ≤ wr.heap.size := hb.size
      clear hc hb HO0 HB0 HL HO HK
      go_wp2
      obtain ⟨g, hgw⟩ : ∃ g, g = wr.heap.size := ⟨_, rfl⟩
      have HS2 := Lib.hid HS.out
      rw [← hgw] at HS2 ⊢
      clear HS hm8 hgw
      generalize wr.alloc (.cells (zeros 8) 5) = w3 at *
      go_loopw [4, 6] (fun x i wr => RpB w n g (.slice A (padK n + 1) c) x i wr) (fun _ i _ => (intOf i + 1).toNat)
      case atStart => exact HS2.out
      case round =>
        obtain ⟨j, hj, rfl, rfl, hown, hb, hg, hne, hrow⟩ := hrel
        have HO := Lib.hid hown
        have HR := Lib.hid hrow
        have HB := Lib.hid hb
        have HNE := Lib.hid hne
        clear hown hrow hb hne HS2
        by_cases h8 : j < 8
        · have hV : 8 * n / 256 ^ j < 18446744073709551616 := Nat.lt_of_le_of_lt (Nat.div_le_self _ _) (by omega)
          have kc : _ = some (rpV (8 * n) j (7 - j)) := HR.out.cell (i := 7 - j) (by omega)
          have kf := HR.out.free (7 - j)
          have HN := Lib.hid (rpB_step h8 HO.out HB.out hg HNE.out HR.out)
          clear HO HR HB HNE
          generalize 8 * n / 256 ^ j = V at *
          generalize rpV (8 * n) j (7 - j) = old at *
          have hi : (7 - (j : Int)).toNat = 7 - j := by omega
          have h7 : (0 : Int) ≤ 7 - (j : Int) := by omega
          have HM : Hid ((V : Int) % 256 = ((V % 256 : Nat) : Int)) := Lib.hid (by omega)
          have HD : Hid ((V : Int) / 256 = ((V / 256 : Nat) : Int)) := Lib.hid (by omega)
          go_wp2
          go_roundw
          case rel => rw [HD.out, HM.out]; exact HN.out
          case measure => simp [intOf]; omega
        · obtain rfl : j = 8 := by omega
          have hBS := rp_bs HR.out
          have HBS := Lib.hid hBS
          have hll : (128 :: List.replicate (padK n) 0 : List Nat).length + 8 < 1000000000 := by simp; omega
          have HLL := Lib.hid hll
          have hBz := HB.out.size
          clear HR HNE hBS hll
          go_wp2_with (at_builtin; refine wp_apps _ rfl (.tmp 33) (.tmp 34) rfl w.heap.size (.slice A (padK n + 1) c) _ rfl HO.out _ (some ⟨g, 0, none⟩) 8 8 _ rfl HBS.out (fun h => by cases h) HLL.out hBz ?_; intro v' w5 hown3 hb3)
          have HG : GivesN w (Sha.pad n) (.returned v') w5 := by
            rw [HP.out]
            exact Own.givesN hown3 (by rw [← HP.out]; exact pad_byte n) (HB.out.trans hb3)
          have H := Lib.hid HG
          clear HG hown3 hb3
          go_ret
          exact H.out
    · have hc : ¬ ((n : Int) + ((k : Int) + 1)) % 64 = 56 := by have := HK.out; omega
      have hcb : (((n : Int) + ((k : Int) + 1)) % 64 != 56) = true := by rw [bne_iff_ne]; exact hc
      have HN : Hid (∀ v' w1, Own w1 w.heap.size v' ((128 :: List.replicate k 0) ++ [0]) → Below w.heap.size wr w1 → RpA w n v' w1) := Lib.hid (fun v' w1 h1 h2 => ⟨k + 1, by omega, by rw [← rp_more]; exact h1, hb.trans h2⟩)
      have HL2 : Hid (∀ v' w1, Own w1 w.heap.size v' ((128 :: List.replicate k 0) ++ [0]) → ∃ A c, v' = .slice A (k + 2) c) := Lib.hid (fun v' w1 h => by
        rw [rp_more] at h
        obtain ⟨A, c, e, _⟩ := h.bs (rp_byte (k + 1))
        exact ⟨A, c, by rw [e]; simp⟩)
      clear hc hb HO0 HB0 HK
      have hll : (128 :: List.replicate k 0 : List Nat).length < 1000000000 := by rw [HL.out]; omega
      go_wp2_with (at_builtin; refine wp_app _ rfl (.tmp 14) (.tmp 15) rfl w.heap.size (.slice A (k + 1) c) _ 0 0 rfl HO.out rfl rfl hll hB ?_; intro v' w2 hown2 hb2)
      obtain ⟨A2, c2, rfl⟩ := HL2.out _ _ hown2
      have HR := Lib.hid (HN.out _ _ hown2 hb2)
      clear hown2 hb2 HN HL2
      go_roundw
      case rel => exact HR.out
      case measure => simp [lenV]; omega
end Go.Proofs.YtoclelpmampikaaGreat
