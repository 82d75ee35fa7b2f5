/-
  The example of chapter 3.
-/
import Derived.Test.YtoclelpmampikaaGreatShaP
import Derived.Lib.SlBytesConst
namespace Go.Proofs.YtoclelpmampikaaGreat
open Go.RowKit Go
set_option linter.unusedVariables false
theorem abc_at {i : Nat} (h : i < 4) : (Sha.sum [97, 98, 99]).getD i 0 = [186, 120, 22, 191].getD i 0 := by
  have e := Sha.sum_abc
  have h2 : ((Sha.sum [97, 98, 99]).take 4).getD i 0 = (Sha.sum [97, 98, 99]).getD i 0 := by simp [List.getD, List.getElem?_take_of_lt h]
  rw [← h2, e]
theorem parts_one {w : World} {X b : Nat} {A : Option Addr} {n c : Nat} {l : List Nat} {t : TypeId} (hb : w.heap[b]? = some (.cells #[.slice A n c] t (0, 0))) (hne : b ≠ X) (hbs : BS w w.heap.size A n c l) (hoff : Off n A X) : Parts w X (.slice (some ⟨b, 0, none⟩) 1 1) [l] := by
  refine ⟨_, 1, rfl, Nat.le_refl _, by omega, fun _ => ⟨b, 0, rfl, hne, blk_lt hb, fun i l' hl => ?_⟩⟩
  have hi : i < 1 := by
    rcases Nat.lt_or_ge i 1 with h | h
    · exact h
    · rw [List.getElem?_eq_none (by simpa using h)] at hl; cases hl
  obtain rfl : i = 0 := by omega
  injection hl with hl
  subst hl
  exact ⟨A, n, c, blk_cell hb 0, hbs, hoff⟩
def abcA : Array Value := #[.int .u8 97, .int .u8 98, .int .u8 99]
theorem conv_abc (W : World) : (convert 89 89 (.slice (some ⟨W.heap.size, 0, none⟩) 3 3)).run Tryz.prog (W.alloc (.cells #[.int .u8 97, .int .u8 98, .int .u8 99] 5)) =
    .ok (.slice (some ⟨W.heap.size, 0, none⟩) 3 3) (W.alloc (.cells #[.int .u8 97, .int .u8 98, .int .u8 99] 5 (3, 4))) :=
  Lib.run_convert_bytes_const W _ _ #[.int .u8 97, .int .u8 98, .int .u8 99] 3 3 Tryz.underlying89 Tryz.underlying5
theorem abc_bs (W : World) (o : Obj) : BS ((W.alloc (.cells abcA 5 (3, 4))).alloc o) ((W.alloc (.cells abcA 5 (3, 4))).alloc o).heap.size (some ⟨W.heap.size, 0, none⟩) 3 3 [97, 98, 99] := by
  refine ⟨rfl, by omega, by omega, fun i => ?_, fun _ => ⟨W.heap.size, 0, rfl, by simp; omega, fun i hi => ?_⟩⟩
  · match i with
    | 0 => decide
    | 1 => decide
    | 2 => decide
    | i + 3 => simp
  · rw [World.cell?_alloc_lt _ _ _ (by simp), World.cell?_alloc_mark, Nat.zero_add]
    match i, hi with
    | 0, _ => rfl
    | 1, _ => rfl
    | 2, _ => rfl
end Go.Proofs.YtoclelpmampikaaGreat
