/-
  A device that is made: words of zeros.
-/
import Derived.Test.YthigknolpdohoaaNvS
namespace Go.Proofs.Ythigknolpdohoaa
open Go.RowKit Go
set_option linter.unusedVariables false
set_option linter.unusedSimpArgs false
set_option maxRecDepth 100000
def zw : Wd := ⟨List.replicate 8 0, List.replicate 8 0, false, false⟩
theorem zw_ok : zw.Ok := ⟨rfl, rfl, fun v hv => by rw [(List.mem_replicate.1 hv).2]; omega, fun v hv => by rw [(List.mem_replicate.1 hv).2]; omega⟩
theorem zw_cell (i : Nat) (hi : i < 18) : (wdC zw)[i]? = some (lineZ i) := by
  match i, hi with
  | 0, _ => rfl
  | 1, _ => rfl
  | 2, _ => rfl
  | 3, _ => rfl
  | 4, _ => rfl
  | 5, _ => rfl
  | 6, _ => rfl
  | 7, _ => rfl
  | 8, _ => rfl
  | 9, _ => rfl
  | 10, _ => rfl
  | 11, _ => rfl
  | 12, _ => rfl
  | 13, _ => rfl
  | 14, _ => rfl
  | 15, _ => rfl
  | 16, _ => rfl
  | 17, _ => rfl
  | k + 18, h => omega
def zws (n : Nat) : List Wd := List.replicate (8 * n) zw
theorem zws_ok (n : Nat) : OkM (zws n) := fun x hx => by rw [(List.mem_replicate.1 hx).2]; exact zw_ok
theorem zws_len (n : Nat) : (zws n).length = 8 * n := by simp [zws]
theorem made_words (n : Nat) : madeCells (Value.agg (rowV lineZ 144)).cells (n * 144) = (encM (zws n)).toArray := by
  have hl := encM_len (zws_ok n)
  rw [zws_len] at hl
  refine Array.ext_getElem? fun p => ?_
  by_cases hp : p < n * 144
  · have h1 : (madeCells (Value.agg (rowV lineZ 144)).cells (n * 144))[p]? = some ((rowV lineZ 144)[p % 144]!) := by
      show ((Array.range (n * 144)).map ((rowV lineZ 144)[· % (rowV lineZ 144).size]!))[p]? = _
      rw [Array.getElem?_map, Array.getElem?_range, if_pos hp, Option.map_some, rowV_size]
    have h2 : (rowV lineZ 144)[p % 144]! = lineZ (p % 144) := by
      rw [getElem!_def, rowV_at lineZ (by omega)]
    have h3 : (zws n)[p / 18]? = some zw := by unfold zws; rw [List.getElem?_replicate, if_pos (by omega)]
    rw [h1, h2, List.getElem?_toArray, show p = 18 * (p / 18) + p % 18 by omega, encM_cell (zws_ok n) h3 _ (by omega), zw_cell _ (by omega)]
    unfold lineZ
    rw [show (18 * (p / 18) + p % 18) % 144 % 18 = p % 18 % 18 by omega]
  · have h1 : (madeCells (Value.agg (rowV lineZ 144)).cells (n * 144)).size = n * 144 := size_madeCells _ _
    rw [Array.getElem?_eq_none (by omega), List.getElem?_toArray, List.getElem?_eq_none (by omega)]
theorem make_linesM (n : Nat) (hn : n ≤ 1024) (w : World) : (Instr.makeSlice 50 (.int .i64 (n : Int)) (.int .i64 (n : Int))).run Try.prog w = .ok (.slice (some ⟨w.heap.size, 0, none⟩) n n) (w.alloc (.cells (encM (zws n)).toArray 81)) := by
  obtain ⟨i, h0, h1, h2, h3⟩ := info_parts info_line
  have hr := run_make (P := Try.prog) w 50 81 i _ Try.underlying50 h0 h1 .i64 .i64 n n (by omega) (by omega) (by rw [h3]; omega) (by omega)
  rw [hr, h2]
  simp only [Int.toNat_natCast]
  rw [made_words]
def New8M (w : World) (n : Nat) (e : Ending) (w' : World) : Prop :=
  e = .returned (.pointer (some ⟨w.heap.size + 1, 0, none⟩)) ∧ DevM w' (w.heap.size + 1) w.heap.size n n false (.slice none 0 0) 0 [] 0 (.slice none 0 0) (zws n) ∧ Below w.heap.size w w' ∧ w'.heap.size = w.heap.size + 1 + 1
set_option maxHeartbeats 1000000 in
theorem new_M (n : Nat) (hn : n ≤ 1024) (w : World) : Calls Try.prog 7 #[.int .i64 (n : Int)] w (New8M w n) := by
  have hmk := make_linesM n hn
  have e1 : ∀ o, (w.alloc o).heap.size = w.heap.size + 1 := fun o => by simp
  have hd := heap_alloc_new (w.alloc (.cells (encM (zws n)).toArray 81)) (.cells #[.slice (some ⟨w.heap.size, 0, none⟩) n n, .bool false, .slice none 0 0, .int .i64 0, .slice none 0 0] 52)
  rw [e1] at hd
  have hm : MemB ((w.alloc (.cells (encM (zws n)).toArray 81)).alloc (.cells #[.slice (some ⟨w.heap.size, 0, none⟩) n n, .bool false, .slice none 0 0, .int .i64 0, .slice none 0 0] 52)) w.heap.size LineT (zws n) :=
    ⟨zws_ok n, (Below.heap_alloc _ _ _ (by rw [e1]; omega)).trans (heap_alloc_new w _)⟩
  generalize encM (zws n) = cs at hmk hd hm
  have H : Hid (New8M w n (.returned (.pointer (some ⟨w.heap.size + 1, 0, none⟩))) ((w.alloc (.cells cs.toArray 81)).alloc (.cells #[.slice (some ⟨w.heap.size, 0, none⟩) n n, .bool false, .slice none 0 0, .int .i64 0, .slice none 0 0] 52))) :=
    Lib.hid ⟨rfl, ⟨⟨hd, World.ownsRow_nil _ _ _ _⟩, hm, zws_len n, by omega, hn⟩, ((Below.refl _ _).alloc (Nat.le_refl _) _).alloc (by rw [e1]; omega) _, by simp⟩
  clear e1 hd hm
  go_enter Try.func7, Try.ntmps7
  go_wp2
  go_ret
  exact H.out
end Go.Proofs.Ythigknolpdohoaa
