/-
  The document's device, of which no word is pending: On, Arm without picks, Crash.
-/
import Derived.Test.YtbanknppdgiflaaNvB
namespace Go.Proofs.Ytbanknppdgiflaa
open Go.RowKit Go
set_option linter.unusedVariables false
set_option linter.unusedSimpArgs false
abbrev RdT : TypeId := 51
abbrev RaT : TypeId := 77
abbrev z8 : Array Value := #[.bool false, .bool false, .bool false, .bool false, .bool false, .bool false, .bool false, .bool false]
theorem z8_set (m : Nat) (h : m < 8) : z8.setIfInBounds m (.bool false) = z8 := by
  rcases (by omega : m = 0 ∨ m = 1 ∨ m = 2 ∨ m = 3 ∨ m = 4 ∨ m = 5 ∨ m = 6 ∨ m = 7) with rfl | rfl | rfl | rfl | rfl | rfl | rfl | rfl <;> rfl
theorem z8_at (m : Nat) (h : m < 8) : z8[m]? = some (.bool false) := by
  rcases (by omega : m = 0 ∨ m = 1 ∨ m = 2 ∨ m = 3 ∨ m = 4 ∨ m = 5 ∨ m = 6 ∨ m = 7) with rfl | rfl | rfl | rfl | rfl | rfl | rfl | rfl <;> rfl
/-- block g is a device of the document -/
def RdB (W : World) (g bp bm L nc : Nat) (lv : Value) (nA : Option Addr) (off : Bool) (u : Int) (kv av : Value) : Prop :=
  W.heap[g]? = some (.cells #[lv, .slice nA L nc, .slice (some ⟨bp, 0, none⟩) 8 8, .slice (some ⟨bm, 0, none⟩) 8 8, .bool off, .int .i64 u, kv, av] RdT (0, 0))
structure RdQ (W : World) (g bp bm L nc : Nat) (lv : Value) (nA : Option Addr) (off : Bool) (u : Int) (kv av : Value) (k : Nat) (al : List Value) : Prop where
  dev : RdB W g bp bm L nc lv nA off u kv av
  own : W.ownsRow (g + 1) RaT 3 av k al
  pend : W.heap[bp]? = some (.cells z8 4 (0, 0))
  mark : W.heap[bm]? = some (.cells z8 4 (0, 0))
  bg : bp < g
  mg : bm < g
  pm : bp ≠ bm
  L1 : L ≤ 65536
section
variable {W W' : World} {g bp bm L nc : Nat} {lv : Value} {nA : Option Addr} {off : Bool} {u : Int} {kv av : Value} {k : Nat} {al : List Value}
theorem RdB.cell (h : RdB W g bp bm L nc lv nA off u kv av) (i : Nat) : W.cell? ⟨g, i, none⟩ = (#[lv, .slice nA L nc, .slice (some ⟨bp, 0, none⟩) 8 8, .slice (some ⟨bm, 0, none⟩) 8 8, .bool off, .int .i64 u, kv, av] : Array Value)[i]? := blk_cell h i
theorem RdB.free (h : RdB W g bp bm L nc lv nA off u kv av) (i : Nat) : W.frozen? ⟨g, i, none⟩ = false := by simp [World.frozen?, show W.heap[g]? = _ from h]
theorem RdB.lt (h : RdB W g bp bm L nc lv nA off u kv av) : g < W.heap.size := blk_lt h
theorem owns_next (h : W.ownsRow (g + 1) RaT 3 av k al) (hb : Below W.heap.size W W') : W'.ownsRow (g + 1) RaT 3 av k al :=
  h.kept (row := none) ⟨hb.os, hb.tape, hb.output, hb.size, fun i hi _ => hb.block i hi⟩ (by
    rcases hv : av.ownBlock with _ | j
    · exact .inl rfl
    · exact .inr (by simp))
theorem RdQ.next (h : RdQ W g bp bm L nc lv nA off u kv av k al) (hb : Below W.heap.size W W') : RdQ W' g bp bm L nc lv nA off u kv av k al := by
  have hg := h.dev.lt
  have h1 := h.bg
  have h2 := h.mg
  exact ⟨(hb.block g hg).trans h.dev, owns_next h.own hb, (hb.block bp (by omega)).trans h.pend, (hb.block bm (by omega)).trans h.mark, h1, h2, h.pm, h.L1⟩
theorem owns_other (h : W.ownsRow (g + 1) RaT 3 av k al) (b i : Nat) (x : Value) (hb : b ≤ g) : (W.setCell ⟨b, i, none⟩ x).ownsRow (g + 1) RaT 3 av k al := by
  obtain ⟨h1, h2⟩ := h
  refine ⟨h1, ?_⟩
  rcases h2 with h2 | ⟨c, cap, cur, hv, hbg, hh, hr⟩
  · exact .inl h2
  · exact .inr ⟨c, cap, cur, hv, hbg, (Below.heap_setCell _ _ _ _ (by show c ≠ b; omega)).trans hh, hr⟩
theorem RdQ.dev_set (h : RdQ W g bp bm L nc lv nA off u kv av k al) : (∀ o', RdQ (W.setCell ⟨g, 4, none⟩ (.bool o')) g bp bm L nc lv nA o' u kv av k al) ∧ (∀ u', RdQ (W.setCell ⟨g, 5, none⟩ (.int .i64 u')) g bp bm L nc lv nA off u' kv av k al) ∧ (∀ kv', RdQ (W.setCell ⟨g, 6, none⟩ kv') g bp bm L nc lv nA off u kv' av k al) := by
  have hg := h.dev.lt
  have h1 := h.bg
  have h2 := h.mg
  refine ⟨fun o' => ⟨?_, owns_other h.own _ _ _ (Nat.le_refl _), (Below.heap_setCell _ _ _ _ (by show bp ≠ g; omega)).trans h.pend, (Below.heap_setCell _ _ _ _ (by show bm ≠ g; omega)).trans h.mark, h1, h2, h.pm, h.L1⟩, fun u' => ⟨?_, owns_other h.own _ _ _ (Nat.le_refl _), (Below.heap_setCell _ _ _ _ (by show bp ≠ g; omega)).trans h.pend, (Below.heap_setCell _ _ _ _ (by show bm ≠ g; omega)).trans h.mark, h1, h2, h.pm, h.L1⟩, fun kv' => ⟨?_, owns_other h.own _ _ _ (Nat.le_refl _), (Below.heap_setCell _ _ _ _ (by show bp ≠ g; omega)).trans h.pend, (Below.heap_setCell _ _ _ _ (by show bm ≠ g; omega)).trans h.mark, h1, h2, h.pm, h.L1⟩⟩
  · have := blk_set h.dev 4 (.bool o'); unfold RdB; rw [this]; rfl
  · have := blk_set h.dev 5 (.int .i64 u'); unfold RdB; rw [this]; rfl
  · have := blk_set h.dev 6 kv'; unfold RdB; rw [this]; rfl
/-- one word's marks are put out that were out -/
theorem RdQ.unmark (h : RdQ W g bp bm L nc lv nA off u kv av k al) (m : Nat) (hm : m < 8) : RdQ ((W.setCell ⟨bp, m, none⟩ (.bool false)).setCell ⟨bm, m, none⟩ (.bool false)) g bp bm L nc lv nA off u kv av k al := by
  have hg := h.dev.lt
  have h1 := h.bg
  have h2 := h.mg
  have h3 := h.pm
  have s1 := blk_set h.pend m (.bool false)
  rw [z8_set m hm] at s1
  have s2 : (W.setCell ⟨bp, m, none⟩ (.bool false)).heap[bm]? = some (.cells z8 4 (0, 0)) := (Below.heap_setCell _ _ _ _ (by show bm ≠ bp; omega)).trans h.mark
  have s3 := blk_set s2 m (.bool false)
  rw [z8_set m hm] at s3
  exact ⟨(Below.heap_setCell _ _ _ _ (by show g ≠ bm; omega)).trans ((Below.heap_setCell _ _ _ _ (by show g ≠ bp; omega)).trans h.dev), owns_other (owns_other h.own _ _ _ (by omega)) _ _ _ (by omega),
    (Below.heap_setCell _ _ _ _ (by show bp ≠ bm; omega)).trans s1, s3, h1, h2, h3, h.L1⟩
end
/-- what a call that turns the device's own block and the marks leaves -/
abbrev RdS (g bp bm : Nat) : Nat → Prop := fun j => j = g ∨ j = bp ∨ j = bm
theorem ron_any (g bp bm L nc : Nat) (lv : Value) (nA : Option Addr) (off : Bool) (u : Int) (kv av : Value) (k : Nat) (al : List Value) (w : World) (h : RdQ w g bp bm L nc lv nA off u kv av k al) :
    Calls Try.prog 12 #[.pointer (some ⟨g, 0, none⟩)] w fun e w' => e = .returned (.tuple #[]) ∧ RdQ w' g bp bm L nc lv nA false 0 kv av k al ∧ Turns (RdS g bp bm) w w' := by
  have k4 : w.cell? ⟨g, 4, none⟩ = some (.bool off) := h.dev.cell 4
  have k5 : w.cell? ⟨g, 5, none⟩ = some (.int .i64 u) := h.dev.cell 5
  have f4 := h.dev.free 4
  have f5 := h.dev.free 5
  have HR : Hid (RdQ ((w.setCell ⟨g, 4, none⟩ (.bool false)).setCell ⟨g, 5, none⟩ (.int .i64 0)) g bp bm L nc lv nA false 0 kv av k al) := Lib.hid ((h.dev_set.1 false).dev_set.2.1 0)
  have HT : Hid (Turns (RdS g bp bm) w ((w.setCell ⟨g, 4, none⟩ (.bool false)).setCell ⟨g, 5, none⟩ (.int .i64 0))) := Lib.hid ((Turns.set (S := RdS g bp bm) ⟨g, 4, none⟩ _ (.inl rfl)).trans (S' := RdS g bp bm) (Turns.set (S := RdS g bp bm) ⟨g, 5, none⟩ _ (.inl rfl)) (fun _ _ q => q))
  clear h
  go_enter Try.func12, Try.ntmps12
  go_wp2
  go_end0
  exact ⟨rfl, HR.out, HT.out⟩
set_option maxHeartbeats 1000000 in
set_option maxRecDepth 100000 in
theorem rcrash_any (g bp bm L nc : Nat) (lv : Value) (nA : Option Addr) (u : Int) (kv av pv : Value) (k : Nat) (al : List Value) (w : World) (h : RdQ w g bp bm L nc lv nA false u kv av k al) :
    Calls Try.prog 10 #[.pointer (some ⟨g, 0, none⟩), pv] w fun e w' => e = .returned (.tuple #[]) ∧ RdQ w' g bp bm L nc lv nA true 0 kv av k al ∧ Turns (RdS g bp bm) w w' := by
  have k4 : w.cell? ⟨g, 4, none⟩ = some (.bool false) := h.dev.cell 4
  have k2 : w.cell? ⟨g, 2, none⟩ = some (.slice (some ⟨bp, 0, none⟩) 8 8) := h.dev.cell 2
  have HQ := Lib.hid h
  clear h
  go_enter Try.func10, Try.ntmps10
  go_wp2
  clear k4 k2
  go_loopw [15] (fun v wr => ∃ m : Nat, v = .int .i64 (m : Int) ∧ m ≤ 8 ∧ RdQ wr g bp bm L nc lv nA false u kv av k al ∧ Turns (RdS g bp bm) w wr) (fun v _ => (8 - intOf v).toNat)
  case atStart => exact ⟨0, rfl, by omega, HQ.out, Turns.of_below (Below.refl _ _)⟩
  case round =>
    obtain ⟨m, rfl, hm, hq, ht⟩ := hrel
    have HQ1 := Lib.hid hq
    have HT1 := Lib.hid ht
    have k2 : wr.cell? ⟨g, 2, none⟩ = some (.slice (some ⟨bp, 0, none⟩) 8 8) := hq.dev.cell 2
    have k3 : wr.cell? ⟨g, 3, none⟩ = some (.slice (some ⟨bm, 0, none⟩) 8 8) := hq.dev.cell 3
    by_cases hlt : m < 8
    · have hlti : (m : Int) < 8 := by omega
      have p0 : wr.cell? ⟨bp, m, none⟩ = some (.bool false) := (blk_cell hq.pend m).trans (z8_at m hlt)
      have p1 : wr.cell? ⟨bm, m, none⟩ = some (.bool false) := (blk_cell hq.mark m).trans (z8_at m hlt)
      have p2 := blk_free hq.pend m
      have p3 := blk_free hq.mark m
      have n1 : g ≠ bp := by have := hq.bg; omega
      have n2 : bm ≠ bp := fun e => hq.pm e.symm
      have HQ2 := Lib.hid (hq.unmark m hlt)
      have HT2 : Hid (Turns (RdS g bp bm) w ((wr.setCell ⟨bp, m, none⟩ (.bool false)).setCell ⟨bm, m, none⟩ (.bool false))) := Lib.hid ((ht.trans (S' := RdS g bp bm) (Turns.set (S := RdS g bp bm) ⟨bp, m, none⟩ _ (.inr (.inl rfl))) (fun _ _ q => q)).trans (S' := RdS g bp bm) (Turns.set (S := RdS g bp bm) ⟨bm, m, none⟩ _ (.inr (.inr rfl))) (fun _ _ q => q))
      clear hq ht
      go_wp2
      go_roundw
      case rel => exact ⟨m + 1, by go_num, by omega, HQ2.out, HT2.out⟩
      case measure => simp [intOf]; omega
    · have hlti : ¬ (m : Int) < 8 := by omega
      have k4 : wr.cell? ⟨g, 4, none⟩ = some (.bool false) := hq.dev.cell 4
      have k5 : wr.cell? ⟨g, 5, none⟩ = some (.int .i64 u) := hq.dev.cell 5
      have f4 := hq.dev.free 4
      have f5 := hq.dev.free 5
      have HR : Hid (RdQ ((wr.setCell ⟨g, 4, none⟩ (.bool true)).setCell ⟨g, 5, none⟩ (.int .i64 0)) g bp bm L nc lv nA true 0 kv av k al) := Lib.hid ((hq.dev_set.1 true).dev_set.2.1 0)
      have HT : Hid (Turns (RdS g bp bm) w ((wr.setCell ⟨g, 4, none⟩ (.bool true)).setCell ⟨g, 5, none⟩ (.int .i64 0))) := Lib.hid ((ht.trans (S' := RdS g bp bm) (Turns.set (S := RdS g bp bm) ⟨g, 4, none⟩ _ (.inl rfl)) (fun _ _ q => q)).trans (S' := RdS g bp bm) (Turns.set (S := RdS g bp bm) ⟨g, 5, none⟩ _ (.inl rfl)) (fun _ _ q => q))
      clear hq ht k2 k3
      go_wp2
      go_end0
      exact ⟨rfl, HR.out, HT.out⟩
theorem rcrash_off (g bp bm L nc : Nat) (lv : Value) (nA : Option Addr) (u : Int) (kv av pv : Value) (k : Nat) (al : List Value) (w : World) (h : RdQ w g bp bm L nc lv nA true u kv av k al) :
    Calls Try.prog 10 #[.pointer (some ⟨g, 0, none⟩), pv] w fun e w' => e = .returned (.tuple #[]) ∧ w = w' := by
  have k4 : w.cell? ⟨g, 4, none⟩ = some (.bool true) := h.dev.cell 4
  clear h
  go_enter Try.func10, Try.ntmps10
  go_wp2
  refine bodyPost_ret (results_none rfl _ _ _) rfl ?_
  exact ⟨rfl, rfl⟩
end Go.Proofs.Ytbanknppdgiflaa
