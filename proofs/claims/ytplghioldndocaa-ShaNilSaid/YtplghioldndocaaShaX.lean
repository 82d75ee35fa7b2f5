/-
  ShaNil's walk: tables and sums that are not there.
-/
import Derived.Test.YtplghioldndocaaShaU
import Derived.Deep.RegionHeld3
import Derived.Deep.MidRow
namespace Go.Proofs.Ytplghioldndocaa
open Go.RowKit Go
set_option linter.unusedVariables false
theorem zero32' (w : World) : (zeroValue 24).run Try.prog w = .ok (.agg (zeros 32)) w := by kernel_rfl
theorem zeros_row : zeros 32 = rowV (bF (List.replicate 32 0)) 32 := by
  rw [zero_row]
  exact bF_congr fun i hi => by rw [repl0]; simp
theorem word_nil (k : Int) (w : World) : Calls Try.prog 22 #[.pointer none, .int .i64 k] w fun e w' => e = .returned (.int .u32 0) ∧ w = w' := by
  go_enter Try.func22, Try.ntmps22
  go_wp2
  go_ret
  exact ⟨rfl, rfl⟩
theorem first_nil (k : Int) (w : World) : Calls Try.prog 23 #[.pointer none, .int .i64 k] w fun e w' => e = .returned (.int .u32 0) ∧ w = w' := by
  go_enter Try.func23, Try.ntmps23
  go_wp2
  go_ret
  exact ⟨rfl, rfl⟩
theorem write_nil (V : Value) (w : World) : Calls Try.prog 19 #[.pointer none, V] w fun e w' => e = .returned (.tuple #[]) ∧ w = w' := by
  go_enter Try.func19, Try.ntmps19
  go_wp2_with fail
  refine (none_nil _).mono ?_
  rintro e w' ⟨rfl, rfl⟩
  go_wp2
  refine bodyPost_ret (results_none rfl _ _ _) rfl ?_
  exact ⟨rfl, rfl⟩
theorem one_zeros : (zeros 32).all (·.oneCell') = true := by kernel_rfl
set_option maxHeartbeats 1000000 in
set_option maxRecDepth 100000 in
theorem sum_nil (w : World) : Calls Try.prog 20 #[.pointer none] w fun e w' => e = .returned (.agg (zeros 32)) ∧ Below w.heap.size w w' := by
  have hz := zero_dig
  have hb0 : Below w.heap.size w ((w.alloc (.cells (zeros 32) 25)).alloc (.cells (zeros 32) 25)) := ((Below.refl _ _).alloc (Nat.le_refl _) _).alloc (by simp) _
  have HB0 := Lib.hid hb0
  have ho1 := blk_alloc (heap_alloc_new w (.cells (zeros 32) 25)) (.cells (zeros 32) 25)
  have ho2 := heap_alloc_new (w.alloc (.cells (zeros 32) 25)) (.cells (zeros 32) 25)
  have e1 : (w.alloc (.cells (zeros 32) 25)).heap.size = w.heap.size + 1 := by simp
  rw [e1] at ho2
  have HO1 := Lib.hid ho1
  have HO2 := Lib.hid ho2
  have HI := Lib.hid (info_dig (cs := zeros 32) (by simp [zeros]))
  have HZ : Hid ((zeros 32).size = (zeros 32).size) := Lib.hid rfl
  have HON := Lib.hid one_zeros
  have HFX := Lib.hid (setRow_heap _ _ _ (zeros 32) _ _ ho1)
  have HFB := Lib.hid (below_setRow (g := w.heap.size) hb0 (Nat.le_refl _) (zeros 32))
  clear hb0 ho1 ho2 e1
  obtain ⟨z, hzz⟩ : ∃ z, z = zeros 32 := ⟨_, rfl⟩
  have HO2' : Hid (((w.alloc (.cells (zeros 32) 25)).alloc (.cells (zeros 32) 25)).heap[w.heap.size + 1]? = some (.cells z 25 (0, 0))) := Lib.hid (by rw [hzz]; exact HO2.out)
  have HZ' : Hid ((zeros 32).size = z.size) := Lib.hid (by rw [hzz])
  have HFX' : Hid ((((w.alloc (.cells (zeros 32) 25)).alloc (.cells (zeros 32) 25)).setRow w.heap.size z).heap[w.heap.size]? = some (.cells z 25 (0, 0))) := Lib.hid (by rw [hzz]; exact HFX.out)
  have HFB' : Hid (Below w.heap.size w (((w.alloc (.cells (zeros 32) 25)).alloc (.cells (zeros 32) 25)).setRow w.heap.size z)) := Lib.hid (by rw [hzz]; exact HFB.out)
  rw [← hzz] at HI HON
  have HZZ := Lib.hid hzz
  clear hzz HO2 HZ HFX HFB
  go_enter Try.func20, Try.ntmps20
  go_wp2_with fail
  refine (none_nil _).mono ?_
  rintro e w' ⟨rfl, rfl⟩
  clear hz
  go_wp2_with (first
    | (with_reducible refine wpList_load_row rfl 25 (.tmp 3) rfl _ rfl 25 _ _ _ HO2'.out Try.underlying25 rfl HI.out ?_)
    | (with_reducible refine wpList_store_row rfl 25 (.tmp 2) (.tmp 9) rfl _ _ rfl rfl 25 _ HO1.out HI.out HZ'.out HON.out ?_))
  exact bodyPost_ret (v := .agg z) (results_cell_row rfl _ _ _ 25 _ (0, 0) _ rfl HFX'.out Try.underlying25 rfl HI.out) rfl ⟨by rw [HZZ.out], HFB'.out⟩
set_option maxHeartbeats 1000000 in
set_option maxRecDepth 100000 in
theorem tsum_nil (V : Value) (w : World) : Calls Try.prog 15 #[.pointer none, V] w fun e w' => e = .returned (.agg (zeros 32)) ∧ Below w.heap.size w w' := by
  have hz := zero_dig
  have hb0 : Below w.heap.size w (w.alloc (.cells (zeros 32) 25)) := (Below.refl _ _).alloc (Nat.le_refl _) _
  have HB0 := Lib.hid hb0
  have ho1 := heap_alloc_new w (.cells (zeros 32) 25)
  have es : (w.alloc (.cells (zeros 32) 25)).heap.size = w.heap.size + 1 := by simp
  have HES := Lib.hid es
  have HO1 := Lib.hid ho1
  have HI := Lib.hid (info_dig (cs := zeros 32) (by simp [zeros]))
  have HZ : Hid ((zeros 32).size = (zeros 32).size) := Lib.hid rfl
  have HON := Lib.hid one_zeros
  clear hb0 ho1 es
  go_enter Try.func15, Try.ntmps15
  go_wp2_with fail
  refine (new_nil _).mono ?_
  rintro e w' ⟨rfl, rfl⟩
  go_wp2_with fail
  refine (write_nil _ _).mono ?_
  rintro e w' ⟨rfl, rfl⟩
  generalize w.alloc (.cells (zeros 32) 25) = W0 at *
  go_wp2_with fail
  refine (sum_nil _).mono ?_
  rintro e w3 ⟨rfl, hb3⟩
  have hes := HES.out
  have hx3 := (hb3.block w.heap.size (by omega)).trans HO1.out
  have HX3 := Lib.hid hx3
  have HFX := Lib.hid (setRow_heap w3 _ _ (zeros 32) _ _ hx3)
  have HFB := Lib.hid (below_setRow (g := w.heap.size) (HB0.out.trans (hb3.mono (by omega))) (Nat.le_refl _) (zeros 32))
  clear hx3 hb3 hes hz
  obtain ⟨z, hzz⟩ : ∃ z, z = zeros 32 := ⟨_, rfl⟩
  have HZ' : Hid ((zeros 32).size = z.size) := Lib.hid (by rw [hzz])
  rw [← hzz] at HI HON HFX HFB ⊢
  have HZZ := Lib.hid hzz
  clear hzz HZ
  go_wp2_with (with_reducible refine wpList_store_row rfl 25 (.tmp 4) (.tmp 12) rfl _ _ rfl rfl 25 _ HX3.out HI.out HZ'.out HON.out ?_)
  exact bodyPost_ret (v := .agg z) (results_cell_row rfl _ _ _ 25 _ (0, 0) _ rfl HFX.out Try.underlying25 rfl HI.out) rfl ⟨by rw [HZZ.out], HFB.out⟩
theorem equal_z (w : World) : (Op.equalIn 10000 25 (.agg (zeros 32)) (.agg (zeros 32))).run Try.prog w = .ok true w := by
  rw [zeros_row, equal_row _ 32 Try.underlying25 _ _ (by simp) (by simp), decide_eq_true rfl]
structure NilS (g : Nat) (w W : World) : Prop where
  row : W.heap[g]? = some (.cells (zeros 32) 24 (0, 0))
  below : Below g w W
theorem NilS.next {g : Nat} {w W W' : World} (h : NilS g w W) (hb : Below W.heap.size W W') : NilS g w W' :=
  ⟨(hb.block g (blk_lt h.row)).trans h.row, h.below.trans (hb.mono (Nat.le_of_lt (blk_lt h.row)))⟩
theorem NilS.alloc {g : Nat} {w W : World} (h : NilS g w W) (o : Obj) : NilS g w (W.alloc o) := h.next ((Below.refl _ _).alloc (Nat.le_refl _) o)
theorem NilS.range {g : Nat} {w W : World} (h : NilS g w W) {cs : List Value} (hcs : cs.toArray = zeros 32) : W.rangeAt g 0 cs := fun j v hv => by
  rw [Nat.zero_add, blk_cell h.row j, ← hcs, List.getElem?_toArray]
  exact hv
abbrev NilC (g : Nat) (cs : List Value) (w W : World) : Prop := W.rangeAt g 0 cs ∧ NilS g w W
theorem keepA {g : Nat} {cs : List Value} {w W : World} (hc : cs.toArray = zeros 32) (h : NilS g w W) (o : Obj) : NilC g cs w (W.alloc o) := ⟨(h.alloc o).range hc, h.alloc o⟩
theorem keepD {g : Nat} {cs : List Value} {w W : World} (hc : cs.toArray = zeros 32) (h : NilS g w W.drew) (o : Obj) : NilC g cs w (W.alloc o).drew := by
  have h1 : NilS g w (W.alloc o).drew := h.next ⟨rfl, rfl, rfl, by show W.heap.size ≤ (W.heap.push o).size; simp, fun i hi => Below.heap_alloc W o i hi⟩
  exact ⟨h1.range hc, h1⟩
theorem keepN {g : Nat} {cs : List Value} {w W W' : World} (hb : Below W.heap.size W W') (hc : cs.toArray = zeros 32) (h : NilS g w W) : NilC g cs w W' := ⟨(h.next hb).range hc, h.next hb⟩
end Go.Proofs.Ytplghioldndocaa
