/-
  New: a cipher out of a box and a key.
-/
import Derived.Test.YthjpaligpojlnaaAesO
import Derived.Great.Ranges
namespace Go.Proofs.Ythjpaligpojlnaa
open Go.RowKit Go
set_option linter.unusedVariables false
attribute [local irreducible] Gf.inv Gf.tm Gf.pw Gf.spread Gf.sub Gf.boxAt Gf.bk Gf.rm Gf.bit
set_option maxHeartbeats 2000000 in
set_option maxRecDepth 100000 in
theorem new_16 (gb b off c : Nat) (key : List Nat) (w : World) (hbx : IsBox w gb) (hks : BS w w.heap.size (some ⟨b, off, none⟩) 16 c key) :
    Calls Try.prog 19 #[.pointer (some ⟨gb, 0, none⟩), .slice (some ⟨b, off, none⟩) 16 c] w fun e w' => e = .returned (.tuple #[.pointer (some ⟨w.heap.size, 0, none⟩), .int .i64 0]) ∧ CipR w' w.heap.size 10 (Aes.sch Gf.sub key 4 44) ∧ Below w.heap.size w w' := by
  have hbt : Try.prog.built 78 [(0, .agg (Gf.boxAt 256)), (1, .int .i64 10)] = some (rowV (cipF 10 []) 753) := built_cip 10
  have hi : (Try.prog.info? 72).map (·.size) = some (Gf.boxAt 256).size := by rw [boxAt_size 256]; kernel_rfl
  obtain ⟨bx, hbxe⟩ : ∃ x, x = Gf.boxAt 256 := ⟨_, rfl⟩
  obtain ⟨ci, hcie⟩ : ∃ x, x = rowV (cipF 10 []) 753 := ⟨_, rfl⟩
  have hbx' : w.heap[gb]? = some (.cells bx 72 (0, 0)) := by rw [hbxe]; exact hbx
  rw [← hbxe] at hbt hi
  rw [← hcie] at hbt
  have HBX := Lib.hid hbx'
  have HBT := Lib.hid hbt
  have HI := Lib.hid hi
  have hal := heap_alloc_new w (.cells ci 78)
  have hc : CipR (w.alloc (.cells ci 78)) w.heap.size 10 [] := by rw [hcie] at hal ⊢; exact hal
  have hb1 : Below w.heap.size w (w.alloc (.cells ci 78)) := (Below.refl _ _).alloc (Nat.le_refl _) _
  have HE := Lib.hid (expand_any w.heap.size 10 4 16 44 (by omega) (by omega) (by omega) (by omega) b off c key _ hc (hks.below hb1))
  have HB := Lib.hid hb1
  clear hbt hi hbxe hcie hbx' hbx hks hal hc hb1
  go_enter Try.func19, Try.ntmps19
  go_wp2_with (first
    | (with_reducible refine wpList_load_row rfl 72 (.tmp 20) rfl _ rfl 72 _ _ _ HBX.out Try.underlying72 rfl HI.out ?_)
    | (refine wp_build_eq rfl 78 #[(0, .tmp 21), (1, .tmp 25)] rfl ci (by first | exact HBT.out | (simp [Act.eval, Act.put]; exact HBT.out)) ?_)
    | (refine Go.Great.wpList_boxTo rfl 78 (.tmp 26) rfl (some 27) rfl w.heap.size rfl ci rfl ?_)
    | (go_at_call 30; refine HE.out.mono ?_; rintro e w2 ⟨rfl, hc2, hb2⟩))
  go_ret2
  exact ⟨rfl, hc2, HB.out.trans hb2⟩
set_option maxHeartbeats 2000000 in
set_option maxRecDepth 100000 in
theorem new_32 (gb b off c : Nat) (key : List Nat) (w : World) (hbx : IsBox w gb) (hks : BS w w.heap.size (some ⟨b, off, none⟩) 32 c key) :
    Calls Try.prog 19 #[.pointer (some ⟨gb, 0, none⟩), .slice (some ⟨b, off, none⟩) 32 c] w fun e w' => e = .returned (.tuple #[.pointer (some ⟨w.heap.size, 0, none⟩), .int .i64 0]) ∧ CipR w' w.heap.size 14 (Aes.sch Gf.sub key 8 60) ∧ Below w.heap.size w w' := by
  have hbt : Try.prog.built 78 [(0, .agg (Gf.boxAt 256)), (1, .int .i64 14)] = some (rowV (cipF 14 []) 753) := built_cip 14
  have hi : (Try.prog.info? 72).map (·.size) = some (Gf.boxAt 256).size := by rw [boxAt_size 256]; kernel_rfl
  obtain ⟨bx, hbxe⟩ : ∃ x, x = Gf.boxAt 256 := ⟨_, rfl⟩
  obtain ⟨ci, hcie⟩ : ∃ x, x = rowV (cipF 14 []) 753 := ⟨_, rfl⟩
  have hbx' : w.heap[gb]? = some (.cells bx 72 (0, 0)) := by rw [hbxe]; exact hbx
  rw [← hbxe] at hbt hi
  rw [← hcie] at hbt
  have HBX := Lib.hid hbx'
  have HBT := Lib.hid hbt
  have HI := Lib.hid hi
  have hal := heap_alloc_new w (.cells ci 78)
  have hc : CipR (w.alloc (.cells ci 78)) w.heap.size 14 [] := by rw [hcie] at hal ⊢; exact hal
  have hb1 : Below w.heap.size w (w.alloc (.cells ci 78)) := (Below.refl _ _).alloc (Nat.le_refl _) _
  have HE := Lib.hid (expand_any w.heap.size 14 8 32 60 (by omega) (by omega) (by omega) (by omega) b off c key _ hc (hks.below hb1))
  have HB := Lib.hid hb1
  clear hbt hi hbxe hcie hbx' hbx hks hal hc hb1
  go_enter Try.func19, Try.ntmps19
  go_wp2_with (first
    | (with_reducible refine wpList_load_row rfl 72 (.tmp 20) rfl _ rfl 72 _ _ _ HBX.out Try.underlying72 rfl HI.out ?_)
    | (refine wp_build_eq rfl 78 #[(0, .tmp 21), (1, .tmp 25)] rfl ci (by first | exact HBT.out | (simp [Act.eval, Act.put]; exact HBT.out)) ?_)
    | (refine Go.Great.wpList_boxTo rfl 78 (.tmp 26) rfl (some 27) rfl w.heap.size rfl ci rfl ?_)
    | (go_at_call 30; refine HE.out.mono ?_; rintro e w2 ⟨rfl, hc2, hb2⟩))
  go_ret2
  exact ⟨rfl, hc2, HB.out.trans hb2⟩
end Go.Proofs.Ythjpaligpojlnaa
