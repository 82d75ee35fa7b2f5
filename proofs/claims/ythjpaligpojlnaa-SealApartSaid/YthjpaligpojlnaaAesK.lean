/-
  Where a word of the schedule stands; what it has of the one ahead of it.
-/
import Derived.Test.YthjpaligpojlnaaAesJ
import Derived.Test.YthjpaligpojlnaaGfC
namespace Go.Proofs.Ythjpaligpojlnaa
open Go.RowKit Go
set_option linter.unusedVariables false
attribute [local irreducible] Gf.inv Gf.tm Gf.pw Gf.spread Gf.sub Gf.boxAt Gf.bk Gf.rm Gf.bit
set_option maxHeartbeats 400000 in
theorem at_any (g k : Nat) (hk : k < 60) (w : World) : Calls Try.prog 42 #[.pointer (some ⟨g, 0, none⟩), .int .i64 (k : Int)] w fun e w' => e = .returned (.pointer (some ⟨g, 513 + k * 4, none⟩)) ∧ w = w' := by
  obtain ⟨c, hc⟩ : ∃ c, c = k / 4 := ⟨_, rfl⟩
  obtain ⟨r, hr⟩ : ∃ r, r = k % 4 := ⟨_, rfl⟩
  have e1 : 513 + k * 4 = 513 + c * 16 + r * 4 := by omega
  have q1 : (k : Int) / 4 = (c : Int) := by omega
  have q2 : (k : Int) % 4 = (r : Int) := by omega
  have hc1 : c < 15 := by omega
  have hr1 : r < 4 := by omega
  rw [e1]
  clear e1 hc hr
  go_enter Try.func42, Try.ntmps42
  go_wp2
  go_ret
  exact ⟨rfl, rfl⟩
theorem turned4 (a b c d : Nat) (w : World) : Calls Try.prog 67 #[.agg (l4 a b c d)] w fun e w' => e = .returned (.agg (l4 b c d a)) ∧ Below w.heap.size w w' :=
  turned_any (f4 a b c d) w
/-- word k stands in the cipher g -/
structure Wd (w : World) (g k : Nat) (a b c d : Nat) : Prop where
  lt : g < w.heap.size
  a0 : w.cell? ⟨g, 513 + k * 4, none⟩ = some (.int .u8 (a : Int))
  a1 : w.cell? ⟨g, 513 + k * 4 + 1, none⟩ = some (.int .u8 (b : Int))
  a2 : w.cell? ⟨g, 513 + k * 4 + 2, none⟩ = some (.int .u8 (c : Int))
  a3 : w.cell? ⟨g, 513 + k * 4 + 3, none⟩ = some (.int .u8 (d : Int))
theorem Wd.next {w w' : World} {g k a b c d : Nat} (h : Wd w g k a b c d) (hb : Below w.heap.size w w') : Wd w' g k a b c d :=
  ⟨Nat.lt_of_lt_of_le h.lt hb.size, (hb.cell (p := ⟨g, 513 + k * 4, none⟩) h.lt).trans h.a0, (hb.cell (p := ⟨g, 513 + k * 4 + 1, none⟩) h.lt).trans h.a1, (hb.cell (p := ⟨g, 513 + k * 4 + 2, none⟩) h.lt).trans h.a2, (hb.cell (p := ⟨g, 513 + k * 4 + 3, none⟩) h.lt).trans h.a3⟩
theorem zero_l4 : zeros 4 = l4 0 0 0 0 := rfl
theorem store4 (w : World) (g : Nat) (a b c d e f h i : Nat) (hg : w.heap[g]? = some (.cells (l4 a b c d) 73 (0, 0))) :
    (w.setRow g (l4 e f h i)).heap[g]? = some (.cells (l4 e f h i) 73 (0, 0)) := setRow_heap w g _ _ _ _ hg
abbrev z4 : Array Value := #[.int .u8 0, .int .u8 0, .int .u8 0, .int .u8 0]
theorem set4z {w : World} {g a b c d e f h i : Nat} (hg : w.heap[g]? = some (.cells (l4 a b c d) 73 (0, 0))) :
    ((((w.setCell ⟨g, 0, none⟩ (.int .u8 (e : Int))).setCell ⟨g, 1, none⟩ (.int .u8 (f : Int))).setCell ⟨g, 2, none⟩ (.int .u8 (h : Int))).setCell ⟨g, 3, none⟩ (.int .u8 (i : Int))).heap[g]? = some (.cells (l4 e f h i) 73 (0, 0)) :=
  blk_set (blk_set (blk_set (blk_set hg 0 _) 1 _) 2 _) 3 _
set_option maxHeartbeats 1000000 in
set_option maxRecDepth 100000 in
theorem bent_c4 (g i k a b c d : Nat) (hi : i = k + 1) (hi2 : i < 60) (h1 : ¬ i % 4 = 0) (w : World) (hw : Wd w g k a b c d) :
    Calls Try.prog 44 #[.pointer (some ⟨g, 0, none⟩), .int .i64 (i : Int), .int .i64 4] w fun e w' => e = .returned (.agg (l4 a b c d)) ∧ Below w.heap.size w w' := by
  have q0' : (i : Int) - 1 = (k : Int) := by omega
  have hW := hw.next ((Below.refl w.heap.size w).alloc (Nat.le_refl _) (.cells z4 73))
  have hgl := hw.lt
  have hne : ((i : Int) % 4 == 0) = false := by rw [beq_eq_false_iff_ne]; omega
  clear h1 hi
  have HI := Lib.hid (info_l4 a b c d)
  have HW := Lib.hid hW
  clear hw hW
  go_enter Try.func44, Try.ntmps44
  go_wp2_with fail
  refine (at_any g k (by omega) _).mono ?_
  rintro e w' ⟨rfl, hw'⟩
  obtain ⟨_, k0, k1, k2, k3⟩ := HW.out
  rw [← hw']
  clear hw'
  go_wp2
  exact bodyPost_ret (v := .agg (l4 a b c d)) (results_cell_row rfl _ _ _ 73 _ (0, 0) _ rfl (blk_alloc (heap_alloc_new w _) _) Try.underlying73 rfl HI.out) rfl ⟨rfl, ((Below.refl _ _).alloc (Nat.le_refl _) _).alloc (by simp) _⟩
set_option maxHeartbeats 1000000 in
set_option maxRecDepth 100000 in
theorem bent_c8 (g i k a b c d : Nat) (hi : i = k + 1) (hi2 : i < 60) (h1 : ¬ i % 8 = 0) (h2 : ¬ i % 8 = 4) (w : World) (hw : Wd w g k a b c d) :
    Calls Try.prog 44 #[.pointer (some ⟨g, 0, none⟩), .int .i64 (i : Int), .int .i64 8] w fun e w' => e = .returned (.agg (l4 a b c d)) ∧ Below w.heap.size w w' := by
  have q0' : (i : Int) - 1 = (k : Int) := by omega
  have hW := hw.next ((Below.refl w.heap.size w).alloc (Nat.le_refl _) (.cells z4 73))
  have hgl := hw.lt
  have hne : ((i : Int) % 8 == 0) = false := by rw [beq_eq_false_iff_ne]; omega
  have h4 : ((i : Int) % 8 == 4) = false := by rw [beq_eq_false_iff_ne]; omega
  clear h2
  clear h1 hi
  have HI := Lib.hid (info_l4 a b c d)
  have HW := Lib.hid hW
  clear hw hW
  go_enter Try.func44, Try.ntmps44
  go_wp2_with fail
  refine (at_any g k (by omega) _).mono ?_
  rintro e w' ⟨rfl, hw'⟩
  obtain ⟨_, k0, k1, k2, k3⟩ := HW.out
  rw [← hw']
  clear hw'
  go_wp2
  exact bodyPost_ret (v := .agg (l4 a b c d)) (results_cell_row rfl _ _ _ 73 _ (0, 0) _ rfl (blk_alloc (heap_alloc_new w _) _) Try.underlying73 rfl HI.out) rfl ⟨rfl, ((Below.refl _ _).alloc (Nat.le_refl _) _).alloc (by simp) _⟩
set_option maxHeartbeats 1000000 in
set_option maxRecDepth 100000 in
theorem bent_b8 (g i k a b c d : Nat) (hi : i = k + 1) (hi2 : i < 60) (h2 : i % 8 = 4) (ha : a < 256) (hb : b < 256) (hc : c < 256) (hd : d < 256) (w : World) (hw : Wd w g k a b c d) (hbx : BoxC w g) :
    Calls Try.prog 44 #[.pointer (some ⟨g, 0, none⟩), .int .i64 (i : Int), .int .i64 8] w fun e w' => e = .returned (.agg (l4 (Gf.sub a) (Gf.sub b) (Gf.sub c) (Gf.sub d))) ∧ Below w.heap.size w w' := by
  have q0' : (i : Int) - 1 = (k : Int) := by omega
  have hW := hw.next ((Below.refl w.heap.size w).alloc (Nat.le_refl _) (.cells z4 73))
  have hgl := hw.lt
  have hne : ((i : Int) % 8 == 0) = false := by rw [beq_eq_false_iff_ne]; omega
  have h4 : ((i : Int) % 8 == 4) = true := by rw [beq_iff_eq]; omega
  have HT := Lib.hid (fun W h => through4_sub (g := g) ha hb hc hd W h)
  have HBX := Lib.hid hbx
  have HI := Lib.hid (info_l4 (Gf.sub a) (Gf.sub b) (Gf.sub c) (Gf.sub d))
  clear h2 hi hbx
  have HW := Lib.hid hW
  clear hw hW
  go_enter Try.func44, Try.ntmps44
  go_wp2_with fail
  refine (at_any g k (by omega) _).mono ?_
  rintro e w' ⟨rfl, hw'⟩
  obtain ⟨_, k0, k1, k2, k3⟩ := HW.out
  rw [← hw']
  clear hw'
  go_wp2
  have hb1 : Below w.heap.size w ((w.alloc (.cells z4 73)).alloc (.cells (l4 a b c d) 73)) := ((Below.refl _ _).alloc (Nat.le_refl _) _).alloc (by simp) _
  have hr1 : ((w.alloc (.cells z4 73)).alloc (.cells (l4 a b c d) 73)).heap[w.heap.size]? = some (.cells (l4 0 0 0 0) 73 (0, 0)) := blk_alloc (heap_alloc_new w _) _
  have hl1 : ((w.alloc (.cells z4 73)).alloc (.cells (l4 a b c d) 73)).heap[w.heap.size + 1]? = some (.cells (l4 a b c d) 73 (0, 0)) := by
    have h := heap_alloc_new (w.alloc (.cells z4 73)) (.cells (l4 a b c d) 73)
    have e1 : (w.alloc (.cells z4 73)).heap.size = w.heap.size + 1 := by simp
    rw [e1] at h
    exact h
  have m0 := blk_cell hl1 0
  have m1 := blk_cell hl1 1
  have m2 := blk_cell hl1 2
  have m3 := blk_cell hl1 3
  have HB1 := Lib.hid hb1
  have HR1 := Lib.hid hr1
  have hz1 := blk_lt hr1
  have HBX1 := Lib.hid (HBX.out.next hb1)
  clear hb1 hr1 hl1 k0 k1 k2 k3
  generalize (w.alloc (.cells z4 73)).alloc (.cells (l4 a b c d) 73) = W1 at *
  go_region_with (first
    | (go_at_call 68; (with_reducible refine (HT.out _ (BoxC.drew HBX1.out)).mono ?_); rintro e w2 ⟨rfl, hb2⟩
       have hr2 := (hb2.block w.heap.size hz1).trans HR1.out
       have c0 := blk_cell hr2 0
       have c1 := blk_cell hr2 1
       have c2 := blk_cell hr2 2
       have c3 := blk_cell hr2 3
       have f0 := blk_free hr2 0
       have f1 := blk_free hr2 1
       have f2 := blk_free hr2 2
       have f3 := blk_free hr2 3
       have HX := Lib.hid (set4z (e := Gf.sub a) (f := Gf.sub b) (h := Gf.sub c) (i := Gf.sub d) hr2)
       have HB2 := Lib.hid ((((((HB1.out.drew).trans (hb2.mono (Nat.le_of_lt hz1))).setCell (p := ⟨w.heap.size, 0, none⟩) (Nat.le_refl _) (.int .u8 ((Gf.sub a : Nat) : Int))).setCell (p := ⟨w.heap.size, 1, none⟩) (Nat.le_refl _) (.int .u8 ((Gf.sub b : Nat) : Int))).setCell (p := ⟨w.heap.size, 2, none⟩) (Nat.le_refl _) (.int .u8 ((Gf.sub c : Nat) : Int))).setCell (p := ⟨w.heap.size, 3, none⟩) (Nat.le_refl _) (.int .u8 ((Gf.sub d : Nat) : Int)))
       clear hb2 hr2))
  all_goals
    go_wp2
    exact bodyPost_ret (v := .agg (l4 (Gf.sub a) (Gf.sub b) (Gf.sub c) (Gf.sub d))) (results_cell_row rfl _ _ _ 73 _ (0, 0) _ rfl HX.out Try.underlying73 rfl HI.out) rfl ⟨rfl, HB2.out⟩
end Go.Proofs.Ythjpaligpojlnaa
