/-
  The document's own counter.
-/
import Derived.Test.YthjpaligpojlnaaCtrA
import Derived.Test.YthjpaligpojlnaaEq
namespace Go.Proofs.Ythjpaligpojlnaa
open Go.RowKit Go
set_option linter.unusedVariables false
theorem equal16 (l m : List Nat) (hl : l.length = 16) (hm : m.length = 16) (w : World) : (Op.equalIn 10000 22 (.agg (rowV (bF l) 16)) (.agg (rowV (bF m) 16))).run Try.prog w = .ok (decide (l = m)) w :=
  equal_row _ 16 Try.underlying22 l m hl hm w
def G1 (e j i : Nat) : Nat := if 8 - j ≤ i ∧ i < 8 then e / 256 ^ (7 - i) % 256 else 0
def G2 (e b j i : Nat) : Nat := if i < 8 then e / 256 ^ (7 - i) % 256 else if 12 - j ≤ i ∧ i < 12 then b / 256 ^ (11 - i) % 256 else 0
theorem ctrL_len (e b l : Nat) : (ctrL e b l).length = 16 := by simp [ctrL, putL_len]
theorem ctrL_at (e b l i : Nat) (hi : i < 16) : (ctrL e b l).getD i 0 = if i < 8 then e / 256 ^ (7 - i) % 256 else if i < 12 then b / 256 ^ (11 - i) % 256 else if i < 14 then l / 256 ^ (13 - i) % 256 else 0 := by
  have h8 : (putL 8 e).reverse.length = 8 := by rw [List.length_reverse, putL_len]
  have h4 : (putL 4 b).reverse.length = 4 := by rw [List.length_reverse, putL_len]
  have h2 : (putL 2 l).reverse.length = 2 := by rw [List.length_reverse, putL_len]
  have r8 : ∀ i, i < 8 → (putL 8 e).reverse.getD i 0 = e / 256 ^ (7 - i) % 256 := fun i hi => by rw [reverse_at _ _ (by rw [putL_len]; exact hi), putL_len, putL_at, if_pos (by omega)]
  have r4 : ∀ i, i < 4 → (putL 4 b).reverse.getD i 0 = b / 256 ^ (3 - i) % 256 := fun i hi => by rw [reverse_at _ _ (by rw [putL_len]; exact hi), putL_len, putL_at, if_pos (by omega)]
  have r2 : ∀ i, i < 2 → (putL 2 l).reverse.getD i 0 = l / 256 ^ (1 - i) % 256 := fun i hi => by rw [reverse_at _ _ (by rw [putL_len]; exact hi), putL_len, putL_at, if_pos (by omega)]
  unfold ctrL
  rw [List.getD_eq_getElem?_getD]
  by_cases c1 : i < 8
  · rw [if_pos c1, List.getElem?_append_left (by omega), ← List.getD_eq_getElem?_getD, r8 i c1]
  · rw [if_neg c1, List.getElem?_append_right (by omega), h8]
    by_cases c2 : i < 12
    · rw [if_pos c2, List.getElem?_append_left (by omega), ← List.getD_eq_getElem?_getD, r4 _ (by omega), show 3 - (i - 8) = 11 - i by omega]
    · rw [if_neg c2, List.getElem?_append_right (by omega), h4]
      by_cases c3 : i < 14
      · rw [if_pos c3, List.getElem?_append_left (by omega), ← List.getD_eq_getElem?_getD, r2 _ (by omega), show 1 - (i - 8 - 4) = 13 - i by omega]
      · rw [if_neg c3, List.getElem?_append_right (by omega), h2]
        rcases (by omega : i = 14 ∨ i = 15) with rfl | rfl <;> rfl
def CtRel (w : World) (G : Nat → Nat) (wr : World) : Prop := Below w.heap.size w wr ∧ wr.heap[w.heap.size]? = some (.cells (rowV (bF z16) 16) 22 (0, 0)) ∧ Row wr (w.heap.size + 1) 22 (fun i => u8 (G i)) 16
theorem CtRel.set {w wr : World} {G G' : Nat → Nat} (h : CtRel w G wr) (k x : Nat) (hg : ∀ i, i < 16 → G' i = if i = k then x else G i) : CtRel w G' (wr.setCell ⟨w.heap.size + 1, k, none⟩ (.int .u8 (x : Int))) := by
  obtain ⟨h1, h2, h3⟩ := h
  refine ⟨h1.setCell (by show w.heap.size ≤ w.heap.size + 1; omega) _, blk_far h2 (by show w.heap.size ≠ w.heap.size + 1; omega) _, (h3.set_ k (.int .u8 (x : Int))).congr fun i hi => ?_⟩
  rw [hg i hi]
  split <;> rfl
def CtA (w : World) (e : Nat) (x i : Value) (wr : World) : Prop := ∃ j : Nat, j ≤ 8 ∧ i = .int .i64 (7 - (j : Int)) ∧ x = .int .u64 ((e / 256 ^ j : Nat) : Int) ∧ CtRel w (G1 e j) wr
def CtB (w : World) (e b : Nat) (x i : Value) (wr : World) : Prop := ∃ j : Nat, j ≤ 4 ∧ i = .int .i64 (11 - (j : Int)) ∧ x = .int .u32 ((b / 256 ^ j : Nat) : Int) ∧ CtRel w (G2 e b j) wr
theorem ctA_start (w : World) (e : Nat) : CtA w e (.int .u64 (e : Int)) (.int .i64 7) ((w.alloc (.cells (rowV (bF z16) 16) 22)).alloc (.cells (rowV (bF z16) 16) 22)) := by
  have b1 := blk_alloc (heap_alloc_new w (.cells (rowV (bF z16) 16) 22)) (.cells (rowV (bF z16) 16) 22)
  have b2 := heap_alloc_new (w.alloc (.cells (rowV (bF z16) 16) 22)) (.cells (rowV (bF z16) 16) 22)
  have e1 : ∀ o, (w.alloc o).heap.size = w.heap.size + 1 := fun o => by simp
  rw [e1] at b2
  have b3 : Row ((w.alloc (.cells (rowV (bF z16) 16) 22)).alloc (.cells (rowV (bF z16) 16) 22)) (w.heap.size + 1) 22 (bF z16) 16 := b2
  refine ⟨0, by omega, rfl, by rw [Nat.pow_zero, Nat.div_one], ((Below.refl _ _).alloc (Nat.le_refl _) _).alloc (by rw [e1]; omega) _, b1, b3.congr fun i hi => ?_⟩
  unfold bF G1 z16
  rw [if_neg (by omega), List.getD_eq_getElem?_getD, List.getElem?_replicate, if_pos hi]
  rfl
theorem ctA_step {w wr : World} {e j : Nat} (hj : j < 8) (h : CtRel w (G1 e j) wr) : CtA w e (.int .u64 ((e / 256 ^ j / 256 : Nat) : Int)) (.int .i64 (7 - (j : Int) - 1)) (wr.setCell ⟨w.heap.size + 1, 7 - j, none⟩ (.int .u8 ((e / 256 ^ j % 256 : Nat) : Int))) := by
  refine ⟨j + 1, by omega, by congr 1; omega, by rw [Nat.pow_succ, Nat.div_div_eq_div_mul], h.set _ _ fun i hi => ?_⟩
  unfold G1
  by_cases c : i = 7 - j
  · subst c; rw [if_pos (by omega), if_pos rfl, show 7 - (7 - j) = j by omega]
  · rw [if_neg c]
    by_cases c2 : 8 - j ≤ i ∧ i < 8
    · rw [if_pos c2, if_pos (by omega)]
    · rw [if_neg c2, if_neg (by omega)]
theorem ctB_start {w wr : World} {e b : Nat} (h : CtRel w (G1 e 8) wr) : CtB w e b (.int .u32 (b : Int)) (.int .i64 11) wr := by
  obtain ⟨h1, h2, h3⟩ := h
  refine ⟨0, by omega, rfl, by rw [Nat.pow_zero, Nat.div_one], h1, h2, h3.congr fun i hi => ?_⟩
  unfold G1 G2
  by_cases c : i < 8
  · rw [if_pos (by omega), if_pos c]
  · rw [if_neg (by omega), if_neg c, if_neg (by omega)]
theorem ctB_step {w wr : World} {e b j : Nat} (hj : j < 4) (h : CtRel w (G2 e b j) wr) : CtB w e b (.int .u32 ((b / 256 ^ j / 256 : Nat) : Int)) (.int .i64 (11 - (j : Int) - 1)) (wr.setCell ⟨w.heap.size + 1, 11 - j, none⟩ (.int .u8 ((b / 256 ^ j % 256 : Nat) : Int))) := by
  refine ⟨j + 1, by omega, by congr 1; omega, by rw [Nat.pow_succ, Nat.div_div_eq_div_mul], h.set _ _ fun i hi => ?_⟩
  unfold G2
  by_cases c : i = 11 - j
  · subst c; rw [if_neg (by omega), if_pos (by omega), if_pos rfl, show 11 - (11 - j) = j by omega]
  · rw [if_neg c]
    by_cases c2 : i < 8
    · rw [if_pos c2, if_pos c2]
    · rw [if_neg c2, if_neg c2]
      by_cases c3 : 12 - j ≤ i ∧ i < 12
      · rw [if_pos c3, if_pos (by omega)]
      · rw [if_neg c3, if_neg (by omega)]
theorem ct_end {w wr : World} {e b l : Nat} (h : CtRel w (G2 e b 4) wr) (hl : l < 65536) :
    CtRel w (fun i => (ctrL e b l).getD i 0) ((wr.setCell ⟨w.heap.size + 1, 12, none⟩ (.int .u8 ((l / 256 % 256 : Nat) : Int))).setCell ⟨w.heap.size + 1, 13, none⟩ (.int .u8 ((l % 256 : Nat) : Int))) := by
  refine (h.set (G' := fun i => if i = 12 then l / 256 % 256 else G2 e b 4 i) 12 _ fun i hi => rfl).set 13 _ fun i hi => ?_
  rw [ctrL_at e b l i hi]
  unfold G2
  by_cases c : i < 8
  · rw [if_pos c, if_neg (by omega), if_neg (by omega), if_pos c]
  · rw [if_neg c]
    by_cases c2 : i < 12
    · rw [if_pos c2, if_neg (by omega), if_neg (by omega), if_neg c, if_pos (by omega)]
    · rw [if_neg c2]
      rcases (by omega : i = 12 ∨ i = 13 ∨ i = 14 ∨ i = 15) with rfl | rfl | rfl | rfl <;> simp
set_option maxHeartbeats 2000000 in
set_option maxRecDepth 100000 in
theorem refCounter_any (e b l : Nat) (he : e < 2 ^ 64) (hb : b < 4294967296) (hl : l < 65536) (w : World) :
    Calls Try.prog 52 #[.int .u64 (e : Int), .int .u32 (b : Int), .int .i64 (l : Int)] w fun en w' => en = .returned (.agg (rowV (bF (ctrL e b l)) 16)) ∧ Below w.heap.size w w' := by
  have hz := zero16
  have HS := Lib.hid (ctA_start w e)
  have HE := Lib.hid he
  clear he
  go_enter Try.func52, Try.ntmps52
  go_wp2
  generalize ((w.alloc (.cells (rowV (bF z16) 16) 22)).alloc (.cells (rowV (bF z16) 16) 22)) = W at *
  clear hz
  go_loopw [0, 8] (fun x i wr => CtA w e x i wr) (fun _ i _ => (intOf i + 1).toNat)
  case atStart => exact HS.out
  case round =>
    obtain ⟨j, hj, rfl, rfl, hr⟩ := hrel
    have HR := Lib.hid hr
    clear hr HS
    by_cases h8 : j < 8
    · have hV : e / 256 ^ j < 18446744073709551616 := Nat.lt_of_le_of_lt (Nat.div_le_self _ _) HE.out
      have kc : wr.cell? ⟨w.heap.size + 1, 7 - j, none⟩ = some (.int .u8 ((G1 e j (7 - j) : Nat) : Int)) := HR.out.2.2.cell (i := 7 - j) (by omega)
      have kf := HR.out.2.2.free (7 - j)
      have HN := Lib.hid (ctA_step h8 HR.out)
      clear HR
      generalize e / 256 ^ j = V at *
      generalize G1 e j (7 - j) = old at *
      have hi : (7 - (j : Int)).toNat = 7 - j := by omega
      have h7 : (0 : Int) ≤ 7 - (j : Int) := by omega
      have HM : Hid ((V : Int) % 256 = ((V % 256 : Nat) : Int)) := Lib.hid (by omega)
      have HD : Hid ((V : Int) / 256 = ((V / 256 : Nat) : Int)) := Lib.hid (by omega)
      go_wp2
      go_roundw
      case rel => rw [HD.out, HM.out]; exact HN.out
      case measure => simp [intOf]; omega
    · obtain rfl : j = 8 := by omega
      have HS2 := Lib.hid (ctB_start (b := b) HR.out)
      clear HR
      go_wp2
      obtain ⟨W2, hW2⟩ : ∃ W2, W2 = wr := ⟨_, rfl⟩
      rw [← hW2] at HS2 ⊢
      clear hW2
      go_loopw [1, 9] (fun x i wr => CtB w e b x i wr) (fun _ i _ => (intOf i - 7).toNat)
      case atStart => exact HS2.out
      case round =>
        obtain ⟨j, hj, rfl, rfl, hr⟩ := hrel
        have HR := Lib.hid hr
        clear hr HS2
        by_cases h4 : j < 4
        · have hV : b / 256 ^ j < 4294967296 := Nat.lt_of_le_of_lt (Nat.div_le_self _ _) hb
          have kc : wr.cell? ⟨w.heap.size + 1, 11 - j, none⟩ = some (.int .u8 ((G2 e b j (11 - j) : Nat) : Int)) := HR.out.2.2.cell (i := 11 - j) (by omega)
          have kf := HR.out.2.2.free (11 - j)
          have HN := Lib.hid (ctB_step h4 HR.out)
          clear HR
          generalize b / 256 ^ j = V at *
          generalize G2 e b j (11 - j) = old at *
          have hi : (11 - (j : Int)).toNat = 11 - j := by omega
          have h7 : (0 : Int) ≤ 11 - (j : Int) := by omega
          have HM : Hid ((V : Int) % 256 = ((V % 256 : Nat) : Int)) := Lib.hid (by omega)
          have HD : Hid ((V : Int) / 256 = ((V / 256 : Nat) : Int)) := Lib.hid (by omega)
          go_wp2
          go_roundw
          case rel => rw [HD.out, HM.out]; exact HN.out
          case measure => simp [intOf]; omega
        · obtain rfl : j = 4 := by omega
          have k1 : wr.cell? ⟨w.heap.size + 1, 12, none⟩ = some (.int .u8 ((G2 e b 4 12 : Nat) : Int)) := HR.out.2.2.cell (i := 12) (by omega)
          have k2 : wr.cell? ⟨w.heap.size + 1, 13, none⟩ = some (.int .u8 ((G2 e b 4 13 : Nat) : Int)) := HR.out.2.2.cell (i := 13) (by omega)
          have f1 := HR.out.2.2.free 12
          have f2 := HR.out.2.2.free 13
          have hx := ct_end (l := l) HR.out hl
          have e1 : ((l / 256 % 256 : Nat) : Int) = (l : Int) / 256 := by omega
          have e2 : ((l % 256 : Nat) : Int) = (l : Int) % 256 := by omega
          rw [e1, e2] at hx
          have HX := Lib.hid hx
          clear hx e1 e2
          have hk4 : ∀ W' : World, CtRel w (fun i => (ctrL e b l).getD i 0) W' → W'.heap[w.heap.size + 1]? = some (.cells (rowV (bF (ctrL e b l)) 16) 22 (0, 0)) := fun W' h => h.2.2
          have C4 := Lib.hid (hk4 _ HX.out)
          have BB4 := Lib.hid HX.out.2.1
          have HI := Lib.hid (info16 (ctrL e b l))
          have HO := Lib.hid (one_row (ctrL e b l) 16)
          have HZ : Hid ((rowV (bF z16) 16).size = (rowV (bF (ctrL e b l)) 16).size) := Lib.hid (by rw [rowV_size, rowV_size])
          have HFX := Lib.hid (setRow_heap _ _ _ (rowV (bF (ctrL e b l)) 16) _ _ HX.out.2.1)
          have HFB := Lib.hid (below_setRow (g := w.heap.size) HX.out.1 (Nat.le_refl _) (rowV (bF (ctrL e b l)) 16))
          obtain ⟨dm, hdm⟩ : ∃ dm, dm = rowV (bF (ctrL e b l)) 16 := ⟨_, rfl⟩
          rw [← hdm] at C4 HI HO HZ HFX HFB
          have HDM := Lib.hid hdm
          clear hdm hk4
          clear HR
          generalize G2 e b 4 12 = o1 at *
          generalize G2 e b 4 13 = o2 at *
          go_wp2_with (first
            | (with_reducible refine wpList_load_row rfl 22 (.tmp 7) rfl _ rfl 22 _ _ _ C4.out Try.underlying22 rfl HI.out ?_)
            | (with_reducible refine wpList_store_row rfl 22 (.tmp 6) (.tmp 40) rfl _ _ rfl rfl 22 _ BB4.out HI.out HZ.out HO.out ?_))
          exact bodyPost_ret (v := .agg dm) (results_cell_row rfl _ _ _ 22 _ (0, 0) _ rfl HFX.out Try.underlying22 rfl HI.out) rfl ⟨by rw [HDM.out], HFB.out⟩
end Go.Proofs.Ythjpaligpojlnaa
