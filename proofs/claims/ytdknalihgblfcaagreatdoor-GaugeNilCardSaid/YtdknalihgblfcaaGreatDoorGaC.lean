/-
  Gauge: Most, the rooms held against one another, the example; GaugeMost's walk.
-/
import Derived.Test.YtdknalihgblfcaaGreatDoorGaB
import Derived.Laws.CopyOwn
import Derived.Test.YtdknalihgblfcaaGreatDoorHeldF
namespace Go.Proofs.YtdknalihgblfcaaGreatDoor
open Go.RowKit Go
set_option linter.unusedVariables false
set_option linter.unusedSimpArgs false
set_option maxRecDepth 100000
def upTo (s : Nat → Int) (k : Nat) (i : Nat) : Int := if i < k then s i else 0
theorem upTo_set (f l : Int) (s : Nat → Int) (k : Nat) (hk : k < 8) : (rmC f l (upTo s k)).setIfInBounds (2 + k) (.int .i64 (s k)) = rmC f l (upTo s (k + 1)) := by
  rcases (by omega : k = 0 ∨ k = 1 ∨ k = 2 ∨ k = 3 ∨ k = 4 ∨ k = 5 ∨ k = 6 ∨ k = 7) with rfl | rfl | rfl | rfl | rfl | rfl | rfl | rfl <;> rfl
theorem upTo_all (f l : Int) (s : Nat → Int) : rmC f l (upTo s 8) = rmC f l s := rfl
theorem upTo_none (f l : Int) (s : Nat → Int) : rmC f l (upTo s 0) = rmC f l (fun _ => 0) := rfl
theorem rm_cells {W : World} {g : Nat} {t : TypeId} {f l : Int} {s : Nat → Int} (h : W.heap[g]? = some (.cells (rmC f l s) t (0, 0))) : W.cell? ⟨g, 0, none⟩ = some (.int .i64 f) ∧ W.cell? ⟨g, 1, none⟩ = some (.int .i64 l) ∧ W.cell? ⟨g, 2, none⟩ = some (.int .i64 (s 0)) ∧ W.cell? ⟨g, 3, none⟩ = some (.int .i64 (s 1)) ∧ W.cell? ⟨g, 4, none⟩ = some (.int .i64 (s 2)) ∧ W.cell? ⟨g, 5, none⟩ = some (.int .i64 (s 3)) ∧ W.cell? ⟨g, 6, none⟩ = some (.int .i64 (s 4)) ∧ W.cell? ⟨g, 7, none⟩ = some (.int .i64 (s 5)) ∧ W.cell? ⟨g, 8, none⟩ = some (.int .i64 (s 6)) ∧ W.cell? ⟨g, 9, none⟩ = some (.int .i64 (s 7)) := by
  refine ⟨?_, ?_, ?_, ?_, ?_, ?_, ?_, ?_, ?_, ?_⟩ <;> (rw [blk_cell h]; rfl)
theorem ga_and7 (c : Int) : ∃ r : Nat, r < 8 ∧ bits BinOp.and .i64 c 7 = (r : Int) := by
  have h : (BitVec.ofInt 64 c &&& BitVec.ofInt 64 7).toNat ≤ 7 := by
    rw [BitVec.toNat_and]
    exact Nat.and_le_right
  refine ⟨(BitVec.ofInt 64 c &&& BitVec.ofInt 64 7).toNat, by omega, ?_⟩
  show IntKind.i64.wrap (((BitVec.ofInt 64 c &&& BitVec.ofInt 64 7).toNat : Nat) : Int) = _
  exact IntWalk.i64_in _ (by omega)
def oneS (r : Nat) (v : Int) (i : Nat) : Int := if i = r then v else 0
theorem oneS_set (f l v : Int) (r : Nat) (hk : r < 8) : ([.int .i64 f, .int .i64 l, .int .i64 0, .int .i64 0, .int .i64 0, .int .i64 0, .int .i64 0, .int .i64 0, .int .i64 0, .int .i64 0].set (2 + r) (.int .i64 v)).toArray = rmC f l (oneS r v) := by
  rcases (by omega : r = 0 ∨ r = 1 ∨ r = 2 ∨ r = 3 ∨ r = 4 ∨ r = 5 ∨ r = 6 ∨ r = 7) with rfl | rfl | rfl | rfl | rfl | rfl | rfl | rfl <;> rfl
theorem fit55 : FitP 5 5 (fun _ => 0) 1280 := .inr ⟨by omega, by omega, by show ((5 : Nat) : Int) ≤ 5; omega⟩
theorem fit55n (n : Int) (h : 1281 ≤ n) : ¬ FitP 5 5 (fun _ => 0) n := by
  rintro (⟨j, hj, _⟩ | ⟨h1, h2, h3⟩)
  · have := hj.le; omega
  · have : 6 ≤ (n.toNat + 255) / 256 := by omega
    omega
theorem most55 : MostP 5 5 (fun _ => 0) 1280 := ⟨by omega, fun _ => fit55, fun k h1 _ => fit55n _ (by omega)⟩
set_option maxHeartbeats 4000000 in
theorem awake26_any (w : World) (hS : SZ w) :
    Calls Tryz.prog 7 #[] w fun e w' => e = .returned (.bool true) ∧ Below w.heap.size w w' := by
  obtain ⟨W1, hW⟩ : ∃ W1, W1 = w.alloc (.cells (rmC 5 5 (fun _ => 0)) 24) := ⟨_, rfl⟩
  have hb1 : Below w.heap.size w W1 := by rw [hW]; exact (Below.refl _ _).alloc (Nat.le_refl _) _
  have hx1 : W1.heap[w.heap.size]? = some (.cells (rmC 5 5 (fun _ => 0)) 24 (0, 0)) := by rw [hW]; exact heap_alloc_new w _
  have HB1 := Lib.hid hb1
  have HS1 := Lib.hid (hS.below hb1)
  have HK := Lib.hid (fun (W : World) (h : Below W1.heap.size W1 W) => rm_cells ((h.block _ (blk_lt hx1)).trans hx1))
  have hW' := hW.symm
  simp only [rmC] at hW'
  have HW := Lib.hid hW'
  obtain ⟨c0, c1, c2, c3, c4, c5, c6, c7, c8, c9⟩ := HK.out W1 (Below.refl _ _)
  clear hb1 hx1 hS hW hW'
  go_enter Tryz.func7, Tryz.ntmps7
  go_wp2_with fail
  rw [HW.out]
  go_wp2_with fail
  obtain ⟨b, hb, hc⟩ := fits1_at 5 5 (fun _ => 0) 1280
  obtain rfl := hb.mpr fit55
  refine (hc W1 HS1.out).mono ?_
  rintro e w2 ⟨rfl, hb2⟩
  have HB2 := Lib.hid hb2
  clear hb hc hb2 c0 c1 c2 c3 c4 c5 c6 c7 c8 c9
  obtain ⟨c0, c1, c2, c3, c4, c5, c6, c7, c8, c9⟩ := HK.out w2 HB2.out
  go_wp2_with fail
  obtain ⟨b, hb, hc⟩ := fits1_at 5 5 (fun _ => 0) 1281
  obtain rfl : b = false := by
    cases b
    · rfl
    · exact absurd (hb.mp rfl) (fit55n _ (by omega))
  refine (hc w2 (HS1.out.below HB2.out)).mono ?_
  rintro e w3 ⟨rfl, hb3⟩
  have HB3 := Lib.hid (HB2.out.trans (hb3.mono HB2.out.size))
  clear hb hc hb3 c0 c1 c2 c3 c4 c5 c6 c7 c8 c9
  obtain ⟨c0, c1, c2, c3, c4, c5, c6, c7, c8, c9⟩ := HK.out w3 HB3.out
  go_wp2_with fail
  refine (most_any 5 5 (fun _ => 0) 1280 most55 w3 (HS1.out.below HB3.out)).mono ?_
  rintro e w4 ⟨rfl, hb4⟩
  have HB4 := Lib.hid (HB1.out.trans ((HB3.out.trans (hb4.mono HB3.out.size)).mono HB1.out.size))
  clear hb4 c0 c1 c2 c3 c4 c5 c6 c7 c8 c9
  go_wp2
  go_ret
  exact ⟨rfl, HB4.out⟩
end Go.Proofs.YtdknalihgblfcaaGreatDoor
