/-
  Package super: numbers are read one behind the other; what Parse answers.
-/
import Derived.Test.YtbfbcjfeicecmaaSupB
namespace Go.Proofs.Ytbfbcjfeicecmaa
open Go.RowKit Go
set_option linter.unusedVariables false
def u64v (n : Nat) : Value := .int .u64 (n : Int)
theorem info_u64 : (Try.prog.info? 41).map (fun i => (i.zero, i.size, i.bytes)) = some (some (.int .u64 0), 1, 8) := by kernel_rfl
theorem make_u64 (n : Nat) (hn : n ≤ 1000000) (w : World) : (Instr.makeSlice 34 (.int .i64 (n : Int)) (.int .i64 (n : Int))).run Try.prog w = .ok (.slice (some ⟨w.heap.size, 0, none⟩) n n) (w.alloc (.cells (rowV (fun _ => u64v 0) n) 41)) := by
  obtain ⟨i, h0, h1, h2, h3⟩ := info_parts info_u64
  have hr := run_make (P := Try.prog) w 34 41 i _ Try.underlying34 h0 h1 .i64 .i64 n n (by omega) (Int.le_refl _) (by rw [h3]; omega) (by omega)
  rw [hr]
  have e1 : madeCells (Value.int IntKind.u64 0).cells ((n : Int).toNat * i.size) = rowV (fun _ => u64v 0) n := by
    rw [h2]
    apply Array.toList_inj.mp
    rw [Int.toNat_natCast, Nat.mul_one]
    show (madeCells #[Value.int IntKind.u64 0] n).toList = _
    rw [toList_madeCells_one]
    apply List.ext_getElem?
    intro j
    by_cases hj : j < n
    · have := rowV_at (fun _ => u64v 0) hj
      rw [List.getElem?_replicate, if_pos hj]
      simpa [u64v] using this.symm
    · have := rowV_none (fun _ => u64v 0) (show n ≤ j by omega)
      rw [List.getElem?_replicate, if_neg hj]
      simpa using this.symm
  rw [e1]
  simp
/-- number i of n bytes each -/
def numAt (l : List Nat) (n i : Nat) : Nat := num ((l.drop (n * i)).take n)
def numsF (l : List Nat) (n k : Nat) (i : Nat) : Value := if i < k then u64v (numAt l n i) else u64v 0
def NumsRel (w : World) (g n many : Nat) (l : List Nat) (i : Value) (wr : World) : Prop :=
  ∃ k : Nat, i = .int .i64 (k : Int) ∧ k ≤ many ∧ w.grownBy wr (some g) ∧ RowSt wr g 103 (l.drop (n * k)) 0 ∧ Row wr w.heap.size 41 (numsF l n k) many
theorem takeS_ok {l : List Nat} {n : Nat} (h1 : 1 ≤ n) (h8 : n ≤ 8) (hl : n ≤ l.length) : takeS l 0 (n : Int) (mayN (n : Int)) = (l.take n, l.drop n, 0) := by
  have hm : mayN (n : Int) = true := decide_eq_true (by omega)
  unfold takeS
  rw [if_neg (by simp), if_neg (by rw [hm]; simp), if_neg (by omega), Int.toNat_natCast]
def NumsPost (w : World) (g n many : Nat) (l : List Nat) (e : Ending) (w' : World) : Prop :=
  e = .returned (.slice (some ⟨w.heap.size, 0, none⟩) many many) ∧ w.grownBy w' (some g) ∧ Row w' w.heap.size 41 (fun i => u64v (numAt l n i)) many
theorem nums_step {w wr w1 : World} {g n many k : Nat} {l : List Nat} (hk : k < many) (hgw : g < w.heap.size) (hb : w.grownBy wr (some g)) (hr : Row wr w.heap.size 41 (numsF l n k) many)
    (hst : RowSt w1 g 103 (l.drop (n * (k + 1))) 0) (hb1 : wr.grownBy w1 (some g)) :
    NumsRel w g n many l (.int .i64 ((k : Int) + 1)) (w1.setCell ⟨w.heap.size, k, none⟩ (.int .u64 ((numAt l n k : Nat) : Int))) := by
  have hlt := hr.lt
  refine ⟨k + 1, rfl, by omega, only_set (only_trans hb hb1) (.inr (Nat.le_refl _)) _, ?_, ?_⟩
  · exact hst.only (g' := w.heap.size) (only_set (p := ⟨w.heap.size, k, none⟩) (World.grownBy.refl _ _) (.inl rfl) _) (by omega) (by omega)
  · have h1 := (Row.only hr hb1 (fun e => by injection e with e; omega)).set_ k (u64v (numAt l n k))
    refine h1.congr fun i hi => ?_
    unfold numsF
    by_cases he : i = k
    · subst he; rw [if_pos rfl, if_pos (by omega)]
    · rw [if_neg he]
      by_cases h2 : i < k
      · rw [if_pos h2, if_pos (by omega)]
      · rw [if_neg h2, if_neg (by omega)]
set_option maxHeartbeats 1000000 in
theorem numbers_any (g n many : Nat) (l : List Nat) (h1 : 1 ≤ n) (h8 : n ≤ 8) (hm : many ≤ 1000) (hl : n * many ≤ l.length) (w : World) (hst : RowSt w g 103 l 0) :
    Calls Try.prog 45 #[.func (Fn.func 48) #[.pointer (some ⟨g, 0, none⟩)] #[], .int .i64 (n : Int), .int .i64 (many : Int)] w (NumsPost w g n many l) := by
  have hgw := hst.lt
  have hmk := make_u64 many (by omega) w
  have HR : Hid (NumsRel w g n many l (.int .i64 0) (w.alloc (.cells (rowV (fun _ => u64v 0) many) 41))) := Lib.hid ⟨0, rfl, by omega, World.grownBy_alloc w _ _, by simpa using hst.below ((Below.refl _ _).alloc (Nat.le_refl _) _),
    (Row.new w _ _ _).congr fun i hi => by unfold numsF; rw [if_neg (by omega)]⟩
  have HL := Lib.hid hl
  clear hst hl
  go_enter Try.func45, Try.ntmps45
  go_wp2
  go_loopw [13] (fun i wr => NumsRel w g n many l i wr) (fun i _ => (many - intOf i).toNat)
  case atStart => exact HR.out
  case round =>
    clear HR hmk
    obtain ⟨k, rfl, hk, hb, hst, hr⟩ := hrel
    by_cases hlt : k < many
    · have HT : Hid (takeS (l.drop (n * k)) 0 (n : Int) (mayN (n : Int)) = ((l.drop (n * k)).take n, (l.drop (n * k)).drop n, 0)) := Lib.hid (takeS_ok h1 h8 (by
        rw [List.length_drop]
        have h3 : n * (k + 1) ≤ n * many := Nat.mul_le_mul_left n hlt
        rw [Nat.mul_add, Nat.mul_one] at h3
        have := HL.out
        omega))
      have HB := Lib.hid hb
      have HRW := Lib.hid hr
      have HST := Lib.hid hst
      have HE : Hid ((l.drop (n * k)).drop n = l.drop (n * (k + 1))) := Lib.hid (by rw [List.drop_drop, Nat.mul_add, Nat.mul_one])
      have HN : Hid (num (((l.drop (n * k)).take n).take 8) = numAt l n k) := Lib.hid (by rw [List.take_of_length_le (by rw [List.length_take]; omega)]; rfl)
      clear hb hr hst
      go_wp2_with fail
      refine (num_any g _ 0 (n : Int) _ HST.out).mono ?_
      rintro e w1 ⟨rfl, hst1, hb1⟩
      rw [HT.out] at hst1 ⊢
      have hst2 : RowSt w1 g 103 (l.drop (n * (k + 1))) 0 := HE.out ▸ hst1
      have f1 : w1.cell? ⟨w.heap.size, k, none⟩ = some (numsF l n k k) := (Row.only HRW.out hb1 (fun e => by injection e with e; omega)).cell hlt
      have f2 : w1.frozen? ⟨w.heap.size, k, none⟩ = false := (Row.only HRW.out hb1 (fun e => by injection e with e; omega)).free k
      have HS := Lib.hid (nums_step hlt hgw HB.out HRW.out hst2 hb1)
      generalize numsF l n k k = old at *
      show _
      rw [HN.out]
      generalize numAt l n k = x at *
      clear hst1 hst2 hb1
      go_wp2
      go_roundw
      case rel => exact HS.out
      case measure => simp [intOf]; omega
    · obtain rfl : k = many := by omega
      have HF : Hid (NumsPost w g n k l (.returned (.slice (some ⟨w.heap.size, 0, none⟩) k k)) wr) := Lib.hid ⟨rfl, hb, hr.congr fun i hi => by unfold numsF; rw [if_pos hi]⟩
      clear hb hst hr
      go_wp2
      go_ret
      exact HF.out
end Go.Proofs.Ytbfbcjfeicecmaa
