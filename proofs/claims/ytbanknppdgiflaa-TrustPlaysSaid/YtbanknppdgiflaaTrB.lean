/-
  A register: At.
-/
import Derived.Test.YtbanknppdgiflaaTrA
import Derived.Laws.CopyOwn
import Derived.Laws.Rows
namespace Go.Proofs.Ytbanknppdgiflaa
open Go.RowKit Go
set_option linter.unusedVariables false
set_option linter.unusedSimpArgs false
set_option maxHeartbeats 1000000 in
set_option maxRecDepth 100000 in
theorem at9_any (g : Nat) (f : Nat → Value) (w : World) :
    Calls Try.prog 6 #[.pointer (some ⟨g, 0, none⟩), .agg (rowV f 33)] w fun e w' => e = .returned (.pointer (some ⟨w.heap.size + 1, 0, none⟩)) ∧ w'.heap[w.heap.size + 1]? = some (.cells (rowV (trF f (.func (Fn.func 17) #[.pointer (some ⟨g, 0, none⟩)] #[]) (.func (Fn.func 20) #[.pointer (some ⟨g, 0, none⟩)] #[])) 35) 60 (0, 0)) ∧ Below w.heap.size w w' := by
  have hbt := built_trust f (Fn.func 17) (Fn.func 20) #[.pointer (some ⟨g, 0, none⟩)] #[.pointer (some ⟨g, 0, none⟩)] #[] #[]
  obtain ⟨rr, hrr⟩ : ∃ z, z = rowV f 33 := ⟨_, rfl⟩
  obtain ⟨tt, htt⟩ : ∃ z, z = rowV (trF f (.func (Fn.func 17) #[.pointer (some ⟨g, 0, none⟩)] #[]) (.func (Fn.func 20) #[.pointer (some ⟨g, 0, none⟩)] #[])) 35 := ⟨_, rfl⟩
  have hi := info_reg f
  rw [← hrr] at hi hbt
  rw [← htt] at hbt
  rw [← hrr, ← htt]
  have HI := Lib.hid hi
  have HBT := Lib.hid hbt
  have hx := heap_alloc_new (w.alloc (.cells rr 26)) (.cells tt 60)
  rw [show (w.alloc (.cells rr 26)).heap.size = w.heap.size + 1 by simp] at hx
  have HX := Lib.hid hx
  have HB : Hid (Below w.heap.size w ((w.alloc (.cells rr 26)).alloc (.cells tt 60))) := Lib.hid (((Below.refl _ _).alloc (Nat.le_refl _) _).alloc (by simp) _)
  clear hx
  have HR := Lib.hid (heap_alloc_new w (.cells rr 26))
  clear hi hbt hrr htt
  go_enter Try.func6, Try.ntmps6
  go_wp2_with (first
    | (with_reducible refine wpList_load_row rfl 26 (.tmp 3) rfl _ rfl 26 _ _ _ HR.out Try.underlying26 rfl HI.out ?_)
    | (with_reducible refine wp_build_eq9 rfl 60 #[(0, .tmp 7), (1, .tmp 9), (2, .tmp 11)] rfl tt (by first | exact HBT.out | (simp [Act.eval, Act.put]; exact HBT.out)) ?_)
    | (with_reducible refine Go.Great.wpList_boxTo rfl 60 (.tmp 12) rfl (some 13) rfl (w.heap.size + 1) (by simp) tt rfl ?_))
  go_ret
  exact ⟨rfl, HX.out, HB.out⟩
/-- block t is a register of the device g: it holds f -/
def TrustB (W : World) (t g : Nat) (f : Nat → Value) : Prop :=
  Cells W t 35 (trF f (.func (Fn.func 17) #[.pointer (some ⟨g, 0, none⟩)] #[]) (.func (Fn.func 20) #[.pointer (some ⟨g, 0, none⟩)] #[]))
set_option maxHeartbeats 1000000 in
set_option maxRecDepth 100000 in
theorem new9_any (g : Nat) (w : World) : Calls Try.prog 28 #[.pointer (some ⟨g, 0, none⟩)] w fun e w' => e = .returned (.pointer (some ⟨w.heap.size + 1, 0, none⟩)) ∧ TrustB w' (w.heap.size + 1) g (regF 0 []) ∧ Below w.heap.size w w' := by
  have HA := Lib.hid (at9_any g (regF 0 []) w)
  have HBT := Lib.hid built_reg0
  obtain ⟨rr, hrr⟩ : ∃ z, z = rowV (regF 0 []) 33 := ⟨_, rfl⟩
  rw [← hrr] at HA HBT
  clear hrr
  go_enter Try.func28, Try.ntmps28
  go_wp2_with (with_reducible refine wp_build_eq9 rfl 26 #[] rfl rr (by first | exact HBT.out | (simp; exact HBT.out)) ?_)
  refine HA.out.mono ?_
  rintro e w1 ⟨rfl, h1, h2⟩
  have H1 : Hid (TrustB w1 (w.heap.size + 1) g (regF 0 [])) := Lib.hid (Cells.of_blk h1 (fun i hi => rowV_at _ hi))
  have H2 := Lib.hid h2
  clear h1 h2
  go_wp2
  go_ret
  exact ⟨rfl, H1.out, H2.out⟩
theorem at9_nil (v : Array Value) (w : World) : Calls Try.prog 6 #[.pointer none, .agg v] w fun e w' => e = .returned (.pointer none) ∧ Below w.heap.size w w' := by
  go_enter Try.func6, Try.ntmps6
  go_wp2
  go_ret
  exact ⟨rfl, (Below.refl _ _).alloc (Nat.le_refl _) _⟩
set_option maxHeartbeats 1000000 in
set_option maxRecDepth 100000 in
theorem new9_nil (w : World) : Calls Try.prog 28 #[.pointer none] w fun e w' => e = .returned (.pointer none) ∧ Below w.heap.size w w' := by
  have HA := Lib.hid (fun v W => at9_nil v W)
  have HBT := Lib.hid built_reg0
  obtain ⟨rr, hrr⟩ : ∃ z, z = rowV (regF 0 []) 33 := ⟨_, rfl⟩
  rw [← hrr] at HBT
  clear hrr
  go_enter Try.func28, Try.ntmps28
  go_wp2_with (with_reducible refine wp_build_eq9 rfl 26 #[] rfl rr (by first | exact HBT.out | (simp; exact HBT.out)) ?_)
  refine (HA.out _ _).mono ?_
  rintro e w1 ⟨rfl, h2⟩
  have H2 := Lib.hid h2
  clear h2
  go_wp2
  go_ret
  exact ⟨rfl, H2.out⟩
theorem one_reg (c : Nat) (l : List Nat) : (rowV (regF c l) 33).all (·.oneCell') = true := by
  rw [Array.all_eq_true]
  intro i hi
  have h := rowV_at (regF c l) (n := 33) (i := i) (by rw [rowV_size] at hi; exact hi)
  rw [Array.getElem?_eq_getElem hi] at h
  rw [Option.some.inj h]
  unfold regF
  split <;> rfl
set_option maxHeartbeats 1000000 in
set_option maxRecDepth 100000 in
theorem read9_nil (w : World) : Calls Try.prog 15 #[.pointer none] w fun e w' => e = .returned (.agg (rowV (regF 0 []) 33)) ∧ Below w.heap.size w w' := by
  have hz := zero_reg
  have ho1 := heap_alloc_new w (.cells (rowV (regF 0 []) 33) 26)
  have hb0 : Below w.heap.size w (w.alloc (.cells (rowV (regF 0 []) 33) 26)) := (Below.refl _ _).alloc (Nat.le_refl _) _
  obtain ⟨z, hzz⟩ : ∃ z, z = rowV (regF 0 []) 33 := ⟨_, rfl⟩
  have HB := Lib.hid built_reg0
  have HI := Lib.hid (info_reg (regF 0 []))
  have HON := Lib.hid (one_reg 0 [])
  rw [← hzz] at hz ho1 hb0 HB HI HON ⊢
  have HO1 := Lib.hid ho1
  have HFX := Lib.hid (setRow_heap _ _ _ z _ _ ho1)
  have HFB := Lib.hid (below_setRow (g := w.heap.size) hb0 (Nat.le_refl _) z)
  clear hzz ho1 hb0
  go_enter Try.func15, Try.ntmps15
  go_wp2_with (first
    | (with_reducible refine wp_build_eq9 rfl 26 #[] rfl z (by first | exact HB.out | (simp; exact HB.out)) ?_)
    | (with_reducible refine wpList_store_row rfl 26 (.tmp 2) (.tmp 5) rfl _ _ rfl rfl 26 _ HO1.out HI.out rfl HON.out ?_))
  exact bodyPost_ret (v := .agg z) (results_cell_row rfl _ _ _ 26 _ (0, 0) _ rfl HFX.out Try.underlying26 rfl HI.out) rfl ⟨rfl, HFB.out⟩
end Go.Proofs.Ytbanknppdgiflaa
