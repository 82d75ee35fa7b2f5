/-
  The example of chapter 3.
-/
import Derived.Test.YtimonlkelgpekacShaP
import Derived.Lib.SlBytesConst
namespace Go.Proofs.Ytimonlkelgpekac
open Go.RowKit Go
set_option linter.unusedVariables false
theorem word0 (g : Nat) (w : World) (h : IsTab w g) : Calls Try.prog 51 #[.pointer (some ⟨g, 0, none⟩), .int .i64 0] w fun e w' => e = .returned (.int .u32 1116352408) ∧ w = w' := word_any g 0 w h
theorem first0 (g : Nat) (w : World) (h : IsTab w g) : Calls Try.prog 52 #[.pointer (some ⟨g, 0, none⟩), .int .i64 0] w fun e w' => e = .returned (.int .u32 1779033703) ∧ w = w' := first_any g 0 w h
theorem abc_at {i : Nat} (h : i < 4) : (Sha.sum [97, 98, 99]).getD i 0 = [186, 120, 22, 191].getD i 0 := by
  have e := Sha.sum_abc
  have h2 : ((Sha.sum [97, 98, 99]).take 4).getD i 0 = (Sha.sum [97, 98, 99]).getD i 0 := by simp [List.getD, List.getElem?_take_of_lt h]
  rw [← h2, e]
theorem parts_one {w : World} {X b : Nat} {A : Option Addr} {n c : Nat} {l : List Nat} {t : TypeId} (hb : w.heap[b]? = some (.cells #[.slice A n c] t (0, 0))) (hne : b ≠ X) (hbs : BS w w.heap.size A n c l) (hoff : Off n A X) : Parts w X (.slice (some ⟨b, 0, none⟩) 1 1) [l] := by
  refine ⟨_, 1, rfl, Nat.le_refl _, by omega, fun _ => ⟨b, 0, rfl, hne, blk_lt hb, fun i l' hl => ?_⟩⟩
  have hi : i < 1 := by
    rcases Nat.lt_or_ge i 1 with h | h
    · exact h
    · rw [List.getElem?_eq_none (by simpa using h)] at hl; cases hl
  obtain rfl : i = 0 := by omega
  injection hl with hl
  subst hl
  exact ⟨A, n, c, blk_cell hb 0, hbs, hoff⟩
def abcA : Array Value := #[.int .u8 97, .int .u8 98, .int .u8 99]
theorem conv_abc (W : World) : (convert 22 22 (.slice (some ⟨W.heap.size, 0, none⟩) 3 3)).run Try.prog (W.alloc (.cells #[.int .u8 97, .int .u8 98, .int .u8 99] 5)) =
    .ok (.slice (some ⟨W.heap.size, 0, none⟩) 3 3) (W.alloc (.cells #[.int .u8 97, .int .u8 98, .int .u8 99] 5 (3, 4))) :=
  Lib.run_convert_bytes_const W _ _ #[.int .u8 97, .int .u8 98, .int .u8 99] 3 3 Try.underlying22 Try.underlying5
theorem abc_bs (W : World) (o : Obj) : BS ((W.alloc (.cells abcA 5 (3, 4))).alloc o) ((W.alloc (.cells abcA 5 (3, 4))).alloc o).heap.size (some ⟨W.heap.size, 0, none⟩) 3 3 [97, 98, 99] := by
  refine ⟨rfl, by omega, by omega, fun i => ?_, fun _ => ⟨W.heap.size, 0, rfl, by simp; omega, fun i hi => ?_⟩⟩
  · match i with
    | 0 => decide
    | 1 => decide
    | 2 => decide
    | i + 3 => simp
  · rw [World.cell?_alloc_lt _ _ _ (by simp), World.cell?_alloc_mark, Nat.zero_add]
    match i, hi with
    | 0, _ => rfl
    | 1, _ => rfl
    | 2, _ => rfl
set_option maxHeartbeats 2000000 in
set_option maxRecDepth 100000 in
theorem awake_any (w : World) : Calls Try.prog 26 #[] w fun e w' => e = .returned (.bool true) ∧ Below w.heap.size w w' := by
  have hz := zero_dig
  go_enter Try.func26, Try.ntmps26
  go_wp2_with fail
  refine (make_any _).mono ?_
  rintro e w1 ⟨rfl, hb1, ht1⟩
  have HB1 := Lib.hid hb1
  have HT1 := Lib.hid ht1
  clear hb1 ht1
  have hcs := conv_abc w1
  have hw0 : w.heap.size < w1.heap.size := Row.lt HT1.out
  -- the bytes of abc, and the list of parts
  have e1 : ∀ o, (w1.alloc o).heap.size = w1.heap.size + 1 := fun o => by simp
  have ha2 := heap_alloc_new (w1.alloc (.cells abcA 5 (3, 4))) (.cells #[.slice (some ⟨w1.heap.size, 0, none⟩) 3 3] 22)
  rw [e1] at ha2
  have hb2 : Below w1.heap.size w1 ((w1.alloc (.cells abcA 5 (3, 4))).alloc (.cells #[.slice (some ⟨w1.heap.size, 0, none⟩) 3 3] 22)) := ((Below.refl _ _).alloc (Nat.le_refl _) _).alloc (by rw [e1]; omega) _
  have ht2 := Row.below HT1.out hb2 hw0
  have e2 : ((w1.alloc (.cells abcA 5 (3, 4))).alloc (.cells #[.slice (some ⟨w1.heap.size, 0, none⟩) 3 3] 22)).heap.size = w1.heap.size + 2 := by simp
  have hbs := abc_bs w1 (.cells #[.slice (some ⟨w1.heap.size, 0, none⟩) 3 3] 22)
  have hp : ∀ X, ((w1.alloc (.cells abcA 5 (3, 4))).alloc (.cells #[.slice (some ⟨w1.heap.size, 0, none⟩) 3 3] 22)).heap.size ≤ X → Parts ((w1.alloc (.cells abcA 5 (3, 4))).alloc (.cells #[.slice (some ⟨w1.heap.size, 0, none⟩) 3 3] 22)) X (.slice (some ⟨w1.heap.size + 1, 0, none⟩) 1 1) [[97, 98, 99]] := fun X hX =>
    parts_one ha2 (by rw [e2] at hX; omega) hbs (fun _ ad he => by
      obtain rfl : (⟨w1.heap.size, 0, none⟩ : Addr) = ad := Option.some.inj he
      show w1.heap.size ≠ X
      rw [e2] at hX; omega)
  have HP := Lib.hid hp
  have HT2 := Lib.hid ht2
  have HB2 := Lib.hid hb2
  clear e1 ha2 hb2 ht2 e2 hbs hp
  unfold abcA at HP HT2 HB2
  go_wp2_with fail
  refine (tsum_any w.heap.size [[97, 98, 99]] _ _ HT2.out HP.out (fun i => by
      match i with
      | 0 => decide
      | 1 => decide
      | 2 => decide
      | i + 3 => simp) (by decide) (by decide)).mono ?_
  rintro e w3 ⟨rfl, hb3⟩
  have hw03 := hw0
  have HB3 : Hid (Below w1.heap.size w1 w3) := Lib.hid (HB2.out.trans (hb3.mono HB2.out.size))
  have HT3 := Lib.hid (Row.below HT1.out HB3.out hw0)
  have hbx : Below w.heap.size w w3 := HB1.out.trans (HB3.out.mono (Nat.le_of_lt hw0))
  have HBX := Lib.hid hbx
  have hfl : ([[97, 98, 99]] : List (List Nat)).flatten = [97, 98, 99] := rfl
  rw [hfl]
  obtain ⟨dm, hdm⟩ : ∃ dm, dm = digA [97, 98, 99] := ⟨_, rfl⟩
  have hzs : dm.size = 32 := by rw [hdm]; unfold digA; rw [rowV_size]
  have HI2 := Lib.hid (info_dig hzs)
  have hon := one_dig [97, 98, 99]
  rw [← hdm] at hon ⊢
  have HO3 := Lib.hid hon
  have HZ3 : Hid ((zeros 32).size = dm.size) := Lib.hid (by rw [hzs]; simp [zeros])
  have hd : ∀ i, i < 4 → dm[i]? = some (.int .u8 (([186, 120, 22, 191].getD i 0 : Nat) : Int)) := fun i hi => by
    rw [hdm]; unfold digA
    rw [rowV_at _ (by omega), abc_at hi]; rfl
  have HD := Lib.hid hd
  clear hd hon hdm hzs hbx hb3 HP HT2 HB2 hfl
  go_wp2_with (first
    | (with_reducible refine wpList_store_row rfl 49 (.tmp 2) (.tmp 8) rfl _ _ rfl rfl 49 _ (heap_alloc_new w3 _) HI2.out HZ3.out HO3.out ?_)
    | fail)
  have h4 := setRow_heap (w3.alloc (.cells (zeros 32) 49)) w3.heap.size _ dm _ _ (heap_alloc_new w3 _)
  have hb4 : Below w3.heap.size w3 ((w3.alloc (.cells (zeros 32) 49)).setRow w3.heap.size dm) := below_setRow ((Below.refl _ _).alloc (Nat.le_refl _) _) (Nat.le_refl _) dm
  have ht4 := Row.below HT3.out hb4 (Row.lt HT3.out)
  have hbw4 : Below w.heap.size w ((w3.alloc (.cells (zeros 32) 49)).setRow w3.heap.size dm) := HBX.out.trans (hb4.mono HBX.out.size)
  generalize (w3.alloc (.cells (zeros 32) 49)).setRow w3.heap.size dm = w4 at *
  have c0 : w4.cell? ⟨w3.heap.size, 0, none⟩ = some (.int .u8 186) := (blk_cell h4 0).trans (HD.out 0 (by omega))
  have c1 : w4.cell? ⟨w3.heap.size, 1, none⟩ = some (.int .u8 120) := (blk_cell h4 1).trans (HD.out 1 (by omega))
  have c2 : w4.cell? ⟨w3.heap.size, 2, none⟩ = some (.int .u8 22) := (blk_cell h4 2).trans (HD.out 2 (by omega))
  have c3 : w4.cell? ⟨w3.heap.size, 3, none⟩ = some (.int .u8 191) := (blk_cell h4 3).trans (HD.out 3 (by omega))
  have HT4 := Lib.hid ht4
  have HB4 := Lib.hid hbw4
  clear h4 hb4 ht4 hbw4
  refine (word0 _ _ HT4.out).mono ?_
  rintro e w5 ⟨rfl, rfl⟩
  go_wp2_with fail
  refine (first0 _ _ HT4.out).mono ?_
  rintro e w5 ⟨rfl, rfl⟩
  go_wp2
  go_ret
  exact ⟨rfl, HB4.out⟩
end Go.Proofs.Ytimonlkelgpekac
