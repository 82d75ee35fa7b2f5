/-
  The sum of parts; the words that are told; the example.
-/
import Derived.Test.YtoclelpmampikaaGreatShaO
namespace Go.Proofs.YtoclelpmampikaaGreat
open Go.RowKit Go
set_option linter.unusedVariables false
theorem Parts.below {w w' : World} {X : Nat} {V : Value} {ls : List (List Nat)} (h : Parts w X V ls) (hb : Below w.heap.size w w') : Parts w' X V ls := by
  obtain ⟨P, c, hV, h1, h2, h3⟩ := h
  refine ⟨P, c, hV, h1, h2, fun h0 => ?_⟩
  obtain ⟨b, o, hP, hne, hlt, hall⟩ := h3 h0
  refine ⟨b, o, hP, hne, Nat.lt_of_lt_of_le hlt hb.size, fun i l hl => ?_⟩
  obtain ⟨A, n, cc, hc, hbs, hoff⟩ := hall i l hl
  exact ⟨A, n, cc, (hb.cell (p := ⟨b, o + i, none⟩) hlt).trans hc, (hbs.below hb).more hb.size, hoff⟩
set_option maxHeartbeats 2000000 in
set_option maxRecDepth 100000 in
theorem tsum_any (g : Nat) (ls : List (List Nat)) (V : Value) (w : World) (h : IsTab w g) (hp : ∀ X, w.heap.size ≤ X → Parts w X V ls) (hby : ∀ i, ls.flatten.getD i 0 < 256) (hl : ls.flatten.length ≤ 900000) (hn : ls.length ≤ 900000) :
    Calls Tryz.prog 38 #[.pointer (some ⟨g, 0, none⟩), V] w fun e w' => e = .returned (.agg (digA ls.flatten)) ∧ Below w.heap.size w w' := by
  have hz := zero_dig
  have hglt : g < w.heap.size := Row.lt h
  have hx := heap_alloc_new w (.cells (zeros 32) 34)
  have hb0 : Below w.heap.size w (w.alloc (.cells (zeros 32) 34)) := (Below.refl _ _).alloc (Nat.le_refl _) _
  have hs0 : (w.alloc (.cells (zeros 32) 34)).heap.size = w.heap.size + 1 := by simp
  have HX := Lib.hid hx
  have HB0 := Lib.hid hb0
  have HS0 := Lib.hid hs0
  have HT := Lib.hid (Row.alloc h (.cells (zeros 32) 34))
  have HP := Lib.hid (fun X hX => (hp X hX).below hb0)
  have hzs : (digA ls.flatten).size = 32 := by unfold digA; rw [rowV_size]
  have HI2 := Lib.hid (info_dig hzs)
  have HO3 := Lib.hid (one_dig ls.flatten)
  have HZ3 : Hid ((zeros 32).size = (digA ls.flatten).size) := Lib.hid (by rw [hzs]; simp [zeros])
  clear h hx hb0 hs0 hp hzs
  go_enter Tryz.func38, Tryz.ntmps38
  go_wp2_with fail
  generalize w.alloc (.cells (zeros 32) 34) = W0 at *
  refine (new_any g _ HT.out).mono ?_
  rintro e w1 ⟨rfl, hb1, hs1⟩
  have HB1 := Lib.hid hb1
  have HS1 := Lib.hid hs1
  clear hb1 hs1
  go_wp2_with fail
  refine (writes_any W0.heap.size g [] ls V _ HS1.out ((HP.out _ (by rw [HS0.out]; omega)).below HB1.out) (by rw [List.length_nil]; omega) (by omega)).mono ?_
  rintro e w2 ⟨rfl, hg2, hs2⟩
  rw [List.nil_append] at hs2
  have HG2 := Lib.hid hg2
  have HS2 := Lib.hid hs2
  clear hg2 hs2
  go_wp2_with fail
  refine (sum_any W0.heap.size g ls.flatten _ HS2.out hby hl).mono ?_
  rintro e w3 ⟨rfl, hb3⟩
  have hlt1 := HS1.out.lt
  have hbW : Below W0.heap.size W0 w3 := by
    have h1 : Below W0.heap.size w1 w2 := ⟨HG2.out.os, HG2.out.tape, HG2.out.output, HG2.out.size, fun i hi => HG2.out.block i (by omega) (fun e => by injection e with e; omega)⟩
    exact HB1.out.trans (h1.trans (hb3.mono (Nat.le_of_lt HS2.out.lt.1)))
  have hs0 := HS0.out
  have hx3 := (hbW.block w.heap.size (by omega)).trans HX.out
  have HX3 := Lib.hid hx3
  have hfx := setRow_heap w3 _ _ (digA ls.flatten) _ _ hx3
  have hfb := below_setRow (g := w.heap.size) (HB0.out.trans (hbW.mono (by omega))) (Nat.le_refl _) (digA ls.flatten)
  have HFX := Lib.hid hfx
  have HFB := Lib.hid hfb
  obtain ⟨dm, hdm⟩ : ∃ dm, dm = digA ls.flatten := ⟨_, rfl⟩
  rw [← hdm] at HI2 HO3 HZ3 HFX HFB ⊢
  have HDM := Lib.hid hdm
  clear hdm hs0 hx3 hfx hfb hbW hb3 hlt1
  go_wp2_with (with_reducible refine wpList_store_row rfl 34 (.tmp 4) (.tmp 12) rfl _ _ rfl rfl 34 _ HX3.out HI2.out HZ3.out HO3.out ?_)
  exact bodyPost_ret (v := .agg dm) (results_cell_row rfl _ _ _ 34 _ (0, 0) _ rfl HFX.out Tryz.underlying34 rfl HI2.out) rfl ⟨by rw [HDM.out], HFB.out⟩
def wordI (k : Int) : Nat := if 0 ≤ k ∧ k < 64 then Sha.K.getD k.toNat 0 else 0
def firstI (k : Int) : Nat := if 0 ≤ k ∧ k < 8 then Sha.H0.getD k.toNat 0 else 0
end Go.Proofs.YtoclelpmampikaaGreat
