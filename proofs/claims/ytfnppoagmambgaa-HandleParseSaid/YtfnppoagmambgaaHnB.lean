/-
  Handles: Make; the document's Of; the example of chapter 20.
-/
import Derived.Test.YtfnppoagmambgaaHnA
namespace Go.Proofs.Ytfnppoagmambgaa
open Go.RowKit Go
set_option linter.unusedVariables false
set_option linter.unusedSimpArgs false
theorem cell3 {w : World} {g : Nat} {t : TypeId} {x y z : Value} (h : w.heap[g]? = some (.cells #[x, y, z] t (0, 0))) : w.cell? ⟨g, 0, none⟩ = some x ∧ w.cell? ⟨g, 1, none⟩ = some y ∧ w.cell? ⟨g, 2, none⟩ = some z ∧ w.frozen? ⟨g, 0, none⟩ = false ∧ w.frozen? ⟨g, 1, none⟩ = false ∧ w.frozen? ⟨g, 2, none⟩ = false :=
  ⟨blk_cell h 0, blk_cell h 1, blk_cell h 2, blk_free h 0, blk_free h 1, blk_free h 2⟩
theorem two_blk (w w1 : World) (a b : Obj) (hb : Below ((w.alloc a).alloc b).heap.size ((w.alloc a).alloc b) w1) : w1.heap[w.heap.size]? = some a ∧ w1.heap[w.heap.size + 1]? = some b ∧ Below w.heap.size w w1 := by
  have e1 : (w.alloc a).heap.size = w.heap.size + 1 := by simp
  have e2 : ((w.alloc a).alloc b).heap.size = w.heap.size + 2 := by simp
  have h1 := heap_alloc_new (w.alloc a) b
  rw [e1] at h1
  refine ⟨?_, ?_, (two_new w a b).trans (hb.mono (by omega))⟩
  · rw [hb.block w.heap.size (by omega), Below.heap_alloc _ _ _ (by omega)]; exact heap_alloc_new w a
  · rw [hb.block (w.heap.size + 1) (by omega)]; exact h1
theorem set3 {w : World} {g : Nat} (x y z : Value) {W : World} (h : Below W.heap.size W w) (hg : W.heap.size ≤ g) : Below W.heap.size W (((w.setCell ⟨g, 0, none⟩ x).setCell ⟨g, 1, none⟩ y).setCell ⟨g, 2, none⟩ z) :=
  ((h.setCell (p := ⟨g, 0, none⟩) hg x).setCell (p := ⟨g, 1, none⟩) hg y).setCell (p := ⟨g, 2, none⟩) hg z
set_option maxRecDepth 100000 in
theorem rof_any (h : Nat) (hh : h < 2 ^ 64) (w : World) :
    Calls Try.prog 13 #[.int .u64 (h : Int)] w fun e w' => e = .returned (PlV (h : Int)) ∧ Below w.heap.size w w' := by
  have HM := Lib.hid (fun W => rmay_any (hP h) (hS h) (hR h) W)
  have e1 : (h : Int) / 281474976710656 / 256 = hP h := by unfold hP; omega
  have tb := Lib.hid (two_blk w)
  by_cases hm : HMay (hP h) (hS h) (hR h)
  · rw [PlV_yes hm]
    rw [decide_eq_true hm] at HM
    clear hm
    go_enter Try.func13, Try.ntmps13
    go_wp2_with fail
    refine (HM.out _).mono ?_
    rintro e w1 ⟨rfl, hb⟩
    obtain ⟨b1, b2, hb3⟩ := tb.out _ _ _ hb
    obtain ⟨c0, c1, c2, f0, f1, f2⟩ := cell3 b1
    obtain ⟨d0, d1, d2, g0, g1, g2⟩ := cell3 b2
    have HB := Lib.hid hb3
    clear hb hb3 b1 b2
    go_wp2
    exact bodyPost_ret (by simp [results, Try.results13, go_sem, c0, c1, c2, f0, f1, f2]) rfl ⟨rfl, set3 _ _ _ HB.out (Nat.le_refl _)⟩
  · rw [PlV_no hm]
    rw [decide_eq_false hm] at HM
    clear hm
    go_enter Try.func13, Try.ntmps13
    go_wp2_with fail
    refine (HM.out _).mono ?_
    rintro e w1 ⟨rfl, hb⟩
    obtain ⟨b1, b2, hb3⟩ := tb.out _ _ _ hb
    obtain ⟨c0, c1, c2, f0, f1, f2⟩ := cell3 b1
    obtain ⟨d0, d1, d2, g0, g1, g2⟩ := cell3 b2
    have HB := Lib.hid hb3
    clear hb hb3 b1 b2
    go_wp2
    exact bodyPost_ret (by simp [results, Try.results13, go_sem, c0, c1, c2, f0, f1, f2]) rfl ⟨rfl, set3 _ _ _ HB.out (Nat.le_refl _)⟩
/-- what Make answers -/
def MkV (p s r : Int) : Value := if HMay p s r then .tuple #[.int .u64 ((p * 256 + s) * 281474976710656 + r), .int .i64 0] else .tuple #[.int .u64 0, .int .i64 1]
theorem MkV_yes {p s r : Int} (hm : HMay p s r) : MkV p s r = .tuple #[.int .u64 ((p * 256 + s) * 281474976710656 + r), .int .i64 0] := if_pos hm
theorem MkV_no {p s r : Int} (hm : ¬ HMay p s r) : MkV p s r = .tuple #[.int .u64 0, .int .i64 1] := if_neg hm
theorem one_blk (w w1 : World) (a : Obj) (hb : Below (w.alloc a).heap.size (w.alloc a) w1) : w1.heap[w.heap.size]? = some a ∧ Below w.heap.size w w1 ∧ w.heap.size < w1.heap.size := by
  have e1 : (w.alloc a).heap.size = w.heap.size + 1 := by simp
  have h1 := hb.size
  refine ⟨?_, ((Below.refl _ _).alloc (Nat.le_refl _) _).trans (hb.mono (by omega)), by omega⟩
  · rw [hb.block w.heap.size (by omega)]; exact heap_alloc_new w a
set_option maxRecDepth 100000 in
theorem hmake_any (p s : Int) (r : Nat) (hr : r < 2 ^ 64) (w : World) :
    Calls Try.prog 8 #[.agg (plA p s (r : Int))] w fun e w' => e = .returned (MkV p s (r : Int)) ∧ Below w.heap.size w w' := by
  have HN := Lib.hid (fun W => hnumber_any p s r hr W)
  have ob := Lib.hid (one_blk w)
  go_enter Try.func8, Try.ntmps8
  go_wp2_with fail
  refine (HN.out _).mono ?_
  rintro e w1 ⟨⟨h, h1, rfl, h3⟩, hb⟩
  have HPL := Lib.hid (fun W => hplace_any h h1 W)
  obtain ⟨b1, hb1, hl1⟩ := ob.out _ _ hb
  have B1 := Lib.hid b1
  have HB1 := Lib.hid hb1
  have HL1 := Lib.hid hl1
  clear b1 hb1 hb hl1
  have H3 := Lib.hid h3
  clear h3
  go_wp2_with fail
  refine (HPL.out _).mono ?_
  rintro e w2 ⟨rfl, hb⟩
  have hb2 := HB1.out.trans (hb.mono (Nat.le_of_lt HL1.out))
  obtain ⟨c0, c1, c2, f0, f1, f2⟩ := cell3 ((hb.block w.heap.size HL1.out).trans B1.out)
  have HB2 := Lib.hid hb2
  have hlt : w.heap.size < w2.heap.size := Nat.lt_of_lt_of_le HL1.out hb.size
  clear hb hb2 
  have hne : ¬ w.heap.size = w2.heap.size := by omega
  by_cases hm : HMay p s (r : Int)
  · have e0 := H3.out hm
    have hm' := hm
    have MV := Lib.hid (MkV_yes hm)
    obtain ⟨m1, m2, m3, m4, m5, m6⟩ := hm
    have q1 : hP h = p := by unfold hP; omega
    have q2 : hS h = s := by unfold hS; omega
    have q3 : hR h = r := by unfold hR; omega
    rw [PlV_yes (by unfold HMay; omega), q1, q2, q3]
    go_wp2
    exact bodyPost_ret (v := .tuple #[.int .u64 ((p * 256 + s) * 281474976710656 + r), .int .i64 0]) (by simp [results, Try.results8, go_sem]) rfl ⟨(congrArg Ending.returned MV.out).symm, HB2.out.alloc (Nat.le_of_lt hlt) _⟩
  · have MV := Lib.hid (MkV_no hm)
    by_cases hm2 : HMay (hP h) (hS h) (hR h)
    · rw [PlV_yes hm2]
      by_cases hq : hP h = p ∧ hS h = s ∧ hR h = r
      · exfalso
        rw [hq.1, hq.2.1, hq.2.2] at hm2
        exact hm hm2
      · go_wp2
        all_goals first
          | exact bodyPost_ret (v := .tuple #[.int .u64 0, .int .i64 1]) (by simp [results, Try.results8, go_sem]) rfl ⟨(congrArg Ending.returned MV.out).symm, HB2.out.alloc (Nat.le_of_lt hlt) _⟩
          | exact absurd ⟨‹_›, ‹_›, ‹_›⟩ hq
    · rw [PlV_no hm2]
      go_wp2
      exact bodyPost_ret (v := .tuple #[.int .u64 0, .int .i64 1]) (by simp [results, Try.results8, go_sem]) rfl ⟨(congrArg Ending.returned MV.out).symm, HB2.out.alloc (Nat.le_of_lt hlt) _⟩
theorem awakeH_any (w : World) : Calls Try.prog 10 #[] w fun e w' => e = .returned (.bool true) ∧ Below w.heap.size w w' := by
  have HM := Lib.hid (fun W => hmake_any 1 2 3 (by omega) W)
  rw [MkV_yes (by decide)] at HM
  go_enter Try.func10, Try.ntmps10
  go_wp2_with fail
  refine (HM.out _).mono ?_
  rintro e w2 ⟨rfl, hb⟩
  have HB2 := Lib.hid hb
  go_wp2
  go_ret
  exact ⟨rfl, HB2.out⟩
end Go.Proofs.Ytfnppoagmambgaa
