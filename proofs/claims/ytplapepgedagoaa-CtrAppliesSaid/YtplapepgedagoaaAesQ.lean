/-
  The key of a law.
-/
import Derived.Test.YtplapepgedagoaaAesP
import Derived.Test.YtplapepgedagoaaOwn
namespace Go.Proofs.Ytplapepgedagoaa
open Go.RowKit Go
set_option linter.unusedVariables false
theorem getD_append_byte {la lb : List Nat} (ha : ∀ i, la.getD i 0 < 256) (hb : ∀ i, lb.getD i 0 < 256) (i : Nat) : (la ++ lb).getD i 0 < 256 := by
  rw [List.getD_eq_getElem?_getD]
  by_cases h : i < la.length
  · rw [List.getElem?_append_left h, ← List.getD_eq_getElem?_getD]; exact ha i
  · rw [List.getElem?_append_right (by omega), ← List.getD_eq_getElem?_getD]; exact hb _
theorem own_gives {w' : World} {B : Nat} {v : Value} {l : List Nat} (h : Own w' B v l) (h2 : ∀ i, l.getD i 0 < 256) (hl : 0 < l.length) :
    ∃ b o c, v = .slice (some ⟨b, o, none⟩) l.length c ∧ BS w' w'.heap.size (some ⟨b, o, none⟩) l.length c l := by
  obtain ⟨A, c, rfl, hb⟩ := h.bs h2
  obtain ⟨b, o, rfl, _⟩ := hb.at_ hl
  exact ⟨b, o, c, rfl, hb⟩
set_option maxHeartbeats 1000000 in
theorem key_any (la lb : List Nat) (ha : la.length = 16) (hb : lb.length = 16) (ha2 : ∀ i, la.getD i 0 < 256) (hb2 : ∀ i, lb.getD i 0 < 256) (lg : Bool) (w : World) :
    Calls Try.prog 11 #[.agg (rowV (bF la) 16), .agg (rowV (bF lb) 16), .bool lg] w fun e w' =>
      ∃ b o c, e = .returned (.slice (some ⟨b, o, none⟩) (if lg then la ++ lb else la).length c) ∧ Below w.heap.size w w' ∧ BS w' w'.heap.size (some ⟨b, o, none⟩) (if lg then la ++ lb else la).length c (if lg then la ++ lb else la) := by
  have hwa : ∀ (W : World) (g : Nat), (Instr.sliceAt 22 (.pointer (some ⟨g, 0, none⟩)) none none none).run Try.prog W = .ok (.slice (some ⟨g, 0, none⟩) 16 16) W := fun W g =>
    run_whole_arr 22 5 16 Try.underlying22 (by kernel_rfl) g 0 W
  have e1 : (w.alloc (.cells (rowV (bF la) 16) 22)).heap.size = w.heap.size + 1 := by simp
  have e2 : ((w.alloc (.cells (rowV (bF la) 16) 22)).alloc (.cells (rowV (bF lb) 16) 22)).heap.size = w.heap.size + 2 := by simp
  have x1 := blk_alloc (blk_alloc (heap_alloc_new w (.cells (rowV (bF la) 16) 22)) (.cells (rowV (bF lb) 16) 22)) (.cells #[] 5)
  have x2 := heap_alloc_new (w.alloc (.cells (rowV (bF la) 16) 22)) (.cells (rowV (bF lb) 16) 22)
  rw [e1] at x2
  have x2' := blk_alloc x2 (.cells #[] 5)
  have x3 := heap_alloc_new ((w.alloc (.cells (rowV (bF la) 16) 22)).alloc (.cells (rowV (bF lb) 16) 22)) (.cells #[] 5)
  rw [e2] at x3
  have hbw : Below w.heap.size w (((w.alloc (.cells (rowV (bF la) 16) 22)).alloc (.cells (rowV (bF lb) 16) 22)).alloc (.cells #[] 5)) :=
    (((Below.refl _ _).alloc (Nat.le_refl _) _).alloc (by rw [e1]; omega) _).alloc (by rw [e2]; omega) _
  have r1 : ∀ i, i < 16 → (rowV (bF la) 16)[i]? = some (.int .u8 ((la.getD i 0 : Nat) : Int)) := fun i hi => by rw [rowV_at _ hi]; rfl
  have r2 : ∀ i, i < 16 → (rowV (bF lb) 16)[i]? = some (.int .u8 ((lb.getD i 0 : Nat) : Int)) := fun i hi => by rw [rowV_at _ hi]; rfl
  have hsz : w.heap.size + 2 ≤ (((w.alloc (.cells (rowV (bF la) 16) 22)).alloc (.cells (rowV (bF lb) 16) 22)).alloc (.cells #[] 5)).heap.size := by simp
  have HS1 := Lib.hid (BS.of_blk (B := w.heap.size + 2) x1 (by omega) ha (Nat.le_refl 16) (by omega) ha2 r1)
  have HS2 := Lib.hid (BS.of_blk (B := w.heap.size + 2) x2' (by omega) hb (Nat.le_refl 16) (by omega) hb2 r2)
  have HO : Hid (Own (((w.alloc (.cells (rowV (bF la) 16) 22)).alloc (.cells (rowV (bF lb) 16) 22)).alloc (.cells #[] 5)) (w.heap.size + 2) (.slice (some ⟨w.heap.size + 2, 0, none⟩) 0 0) []) :=
    Lib.hid (Own.blk (Nat.le_refl _) x3 rfl (by omega) (by unfold maxLen; omega) rfl rfl)
  have HB := Lib.hid hbw
  have HSZ := Lib.hid hsz
  have HLA := Lib.hid ha
  have HLB := Lib.hid hb
  have HA2 := Lib.hid ha2
  have HB2 := Lib.hid hb2
  clear e1 e2 x1 x2 x2' x3 hbw r1 r2 hsz ha hb ha2 hb2
  go_enter Try.func11, Try.ntmps11
  cases lg
  · go_wp2_with (at_builtin; refine wp_apps _ rfl (.tmp 8) (.tmp 9) rfl (w.heap.size + 2) (.slice (some ⟨w.heap.size + 2, 0, none⟩) 0 0) [] rfl HO.out _ _ 16 16 la rfl HS1.out (fun h => by cases h) (by simp) HSZ.out ?_; intro v1 w1 hown1 hb1)
    go_ret
    obtain ⟨b, o, c, rfl, hbs⟩ := own_gives (w' := w1) hown1 HA2.out (by have := HLA.out; rw [List.nil_append]; omega)
    exact ⟨b, o, c, rfl, HB.out.trans (hb1.mono (by omega)), hbs⟩
  · go_wp2_with (first
      | (at_builtin; refine wp_apps _ rfl (.tmp 8) (.tmp 9) rfl (w.heap.size + 2) (.slice (some ⟨w.heap.size + 2, 0, none⟩) 0 0) [] rfl HO.out _ _ 16 16 la rfl HS1.out (fun h => by cases h) (by simp) HSZ.out ?_; intro v1 w1 hown1 hb1)
      | (at_builtin; refine wp_apps _ rfl (.tmp 12) (.tmp 13) rfl (w.heap.size + 2) v1 la rfl hown1 _ _ 16 16 lb rfl (HS2.out.below hb1) (fun h => by cases h) (by have := HLA.out; omega) (Nat.le_trans HSZ.out hb1.size) ?_; intro v2 w2 hown2 hb2))
    go_ret
    obtain ⟨b, o, c, rfl, hbs⟩ := own_gives (w' := w2) hown2 (getD_append_byte HA2.out HB2.out) (by have := HLA.out; rw [List.length_append]; omega)
    rw [← List.length_append]
    exact ⟨b, o, c, rfl, HB.out.trans ((hb1.trans hb2).mono (by omega)), hbs⟩
end Go.Proofs.Ytplapepgedagoaa
