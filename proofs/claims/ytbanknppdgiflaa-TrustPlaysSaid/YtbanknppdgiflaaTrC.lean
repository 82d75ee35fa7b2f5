/-
  A register: Read, Set.
-/
import Derived.Test.YtbanknppdgiflaaTrB
namespace Go.Proofs.Ytbanknppdgiflaa
open Go.RowKit Go
set_option linter.unusedVariables false
set_option linter.unusedSimpArgs false
theorem reg_list (c : Nat) (l : List Nat) : ∃ cs : List Value, cs.toArray = rowV (regF c l) 33 ∧ cs.length = 33 := ⟨(rowV (regF c l) 33).toList, by simp, by simp [rowV_size]⟩
theorem trust_range {W : World} {t g : Nat} {f : Nat → Value} {cs : List Value} (h : TrustB W t g f) (hc : cs.toArray = rowV f 33) (hl : cs.length = 33) : W.rangeAt t 0 cs := Cells.range h fun j v hv => by
  have hj : j < 33 := by have := (List.getElem?_eq_some_iff.mp hv).1; omega
  have h2 : (rowV f 33)[j]? = some v := by rw [← hc]; simpa using hv
  rw [rowV_at f hj] at h2
  refine ⟨by omega, ?_⟩
  rw [Nat.zero_add]; unfold trF; rw [if_pos hj]; exact (Option.some.inj h2).symm
theorem trust_store {W : World} {t g : Nat} {f f' : Nat → Value} {cs : Array Value} (h : TrustB W t g f) (hc : cs = rowV f' 33) : TrustB (W.setCells t 0 cs.toList) t g f' := by
  have hl : cs.toList.length = 33 := by rw [hc]; simp [rowV_size]
  refine (Cells.sets (o := 0) (vs := cs.toList) h (by rw [hl]; omega)).congr fun i hi => ?_
  rw [hl]
  unfold trF
  by_cases e : i < 33
  · rw [if_pos ⟨by omega, by omega⟩, if_pos e, Nat.sub_zero, List.getD_eq_getElem?_getD, Array.getElem?_toList, hc, rowV_at _ e]; rfl
  · rw [if_neg (by omega), if_neg e, if_neg e]
set_option maxHeartbeats 1000000 in
set_option maxRecDepth 100000 in
theorem read9_any (t g c : Nat) (l : List Nat) (w : World) (h : TrustB w t g (regF c l)) : Calls Try.prog 15 #[.pointer (some ⟨t, 0, none⟩)] w fun e w' => e = .returned (.agg (rowV (regF c l) 33)) ∧ Below w.heap.size w w' := by
  have hz := zero_reg
  have ho1 := heap_alloc_new w (.cells (rowV (regF 0 []) 33) 26)
  have hb0 : Below w.heap.size w (w.alloc (.cells (rowV (regF 0 []) 33) 26)) := (Below.refl _ _).alloc (Nat.le_refl _) _
  obtain ⟨z, hzz⟩ : ∃ z, z = rowV (regF 0 []) 33 := ⟨_, rfl⟩
  obtain ⟨cs, hcs, hcl⟩ := reg_list c l
  have hT : TrustB (w.alloc (.cells z 26)) t g (regF c l) := Cells.alloc h _
  have HRG := Lib.hid (trust_range hT hcs hcl)
  have hil : (Try.prog.info? 26).map (·.size) = some cs.length := by rw [hcl]; kernel_rfl
  have hia : (Try.prog.info? 26).map (·.size) = some cs.toArray.size := by rw [List.size_toArray]; exact hil
  have hsz : z.size = cs.toArray.size := by rw [hzz, rowV_size, List.size_toArray, hcl]
  have hon : cs.toArray.all (·.oneCell') = true := by rw [hcs]; exact one_reg c l
  rw [← hzz] at hz ho1 hb0
  rw [← hcs]
  have HIL := Lib.hid hil
  have HIA := Lib.hid hia
  have HSZ := Lib.hid hsz
  have HON := Lib.hid hon
  have HO1 := Lib.hid ho1
  have HFX := Lib.hid (setRow_heap _ _ _ cs.toArray _ _ ho1)
  have HFB := Lib.hid (below_setRow (g := w.heap.size) hb0 (Nat.le_refl _) cs.toArray)
  clear hzz ho1 hb0 hT hil hia hsz hon hcs hcl h
  go_enter Try.func15, Try.ntmps15
  go_wp2_with (first
    | (with_reducible refine wpList_load_mid rfl 26 (.tmp 8) rfl t 0 rfl cs _ HRG.out Try.underlying26 rfl HIL.out ?_)
    | (with_reducible refine wpList_store_row rfl 26 (.tmp 2) (.tmp 9) rfl _ _ rfl rfl 26 _ HO1.out HIA.out HSZ.out HON.out ?_))
  exact bodyPost_ret (v := .agg cs.toArray) (results_cell_row rfl _ _ _ 26 _ (0, 0) _ rfl HFX.out Try.underlying26 rfl HIA.out) rfl ⟨rfl, HFB.out⟩
theorem set9_nil (v : Array Value) (w : World) : Calls Try.prog 7 #[.pointer none, .agg v] w fun e w' => e = .returned (.int .i64 2) ∧ Below w.heap.size w w' := by
  go_enter Try.func7, Try.ntmps7
  go_wp2
  go_ret
  exact ⟨rfl, (Below.refl _ _).alloc (Nat.le_refl _) _⟩
end Go.Proofs.Ytbanknppdgiflaa
