/-
  Words that are turned and go through the box.
-/
import Derived.Test.YthjpaligpojlnaaAesK
namespace Go.Proofs.Ythjpaligpojlnaa
open Go.RowKit Go
set_option linter.unusedVariables false
attribute [local irreducible] Gf.inv Gf.tm Gf.pw Gf.spread Gf.sub Gf.boxAt Gf.bk Gf.rm Gf.bit
theorem power2 (p : Nat) (hp : p < 1000) (w : World) : Calls Try.prog 48 #[.int .u8 2, .int .i64 (p : Int)] w fun e w' => e = .returned (.int .u8 (Gf.pw 2 p : Nat)) ∧ w = w' := power_any 2 p (by omega) (by omega) w
structure BtS (w : World) (g x a b c d : Nat) (W : World) : Prop where
  below : Below w.heap.size w W
  out : ∃ cs : Array Value, W.heap[w.heap.size]? = some (.cells cs 73 (0, 0)) ∧ cs.size = 4
  col : W.heap[w.heap.size + 1]? = some (.cells (l4 a b c d) 73 (0, 0))
  first : W.heap[w.heap.size + 1 + 1]? = some (.cells #[.int .u8 (x : Int), .int .u8 0, .int .u8 0, .int .u8 0] 73 (0, 0))
  box : BoxC W g
  far : g < w.heap.size
abbrev BtC (w : World) (g x a b c d : Nat) (W : World) : Prop :=
  W.cell? ⟨w.heap.size + 1, 0, none⟩ = some (.int .u8 (a : Int)) ∧ W.cell? ⟨w.heap.size + 1, 1, none⟩ = some (.int .u8 (b : Int)) ∧ W.cell? ⟨w.heap.size + 1, 2, none⟩ = some (.int .u8 (c : Int)) ∧ W.cell? ⟨w.heap.size + 1, 3, none⟩ = some (.int .u8 (d : Int)) ∧
  W.cell? ⟨w.heap.size + 1 + 1, 0, none⟩ = some (.int .u8 (x : Int)) ∧ W.cell? ⟨w.heap.size + 1 + 1, 1, none⟩ = some (.int .u8 0) ∧ W.cell? ⟨w.heap.size + 1 + 1, 2, none⟩ = some (.int .u8 0) ∧ W.cell? ⟨w.heap.size + 1 + 1, 3, none⟩ = some (.int .u8 0) ∧ BtS w g x a b c d W
section
variable {w W W' : World} {g x a b c d : Nat}
theorem BtS.all (h : BtS w g x a b c d W) : BtC w g x a b c d W :=
  ⟨blk_cell h.col 0, blk_cell h.col 1, blk_cell h.col 2, blk_cell h.col 3, blk_cell h.first 0, blk_cell h.first 1, blk_cell h.first 2, blk_cell h.first 3, h⟩
theorem BtS.next (h : BtS w g x a b c d W) (hb : Below W.heap.size W W') : BtS w g x a b c d W' := by
  obtain ⟨cs, h1, h2⟩ := h.out
  exact ⟨h.below.trans (hb.mono h.below.size), ⟨cs, (hb.block _ (blk_lt h1)).trans h1, h2⟩, (hb.block _ (blk_lt h.col)).trans h.col, (hb.block _ (blk_lt h.first)).trans h.first, h.box.next hb, h.far⟩
theorem BtS.drew (h : BtS w g x a b c d W) : BtS w g x a b c d W.drew := ⟨h.below.drew, h.out, h.col, h.first, h.box, h.far⟩
theorem BtS.set (h : BtS w g x a b c d W) (k : Nat) (v : Value) : BtS w g x a b c d (W.setCell ⟨w.heap.size, k, none⟩ v) := by
  obtain ⟨cs, h1, h2⟩ := h.out
  have hne : g ≠ w.heap.size := Nat.ne_of_lt h.far
  have hc : ∀ o, (W.setCell ⟨w.heap.size, k, none⟩ v).cell? ⟨g, o, none⟩ = W.cell? ⟨g, o, none⟩ := fun o => World.cell?_of_block (Below.heap_setCell W ⟨w.heap.size, k, none⟩ v g hne)
  exact ⟨h.below.setCell (Nat.le_refl _) _, ⟨_, blk_set h1 k v, by simpa using h2⟩, blk_far h.col (by show w.heap.size + 1 ≠ w.heap.size; omega) _, blk_far h.first (by show w.heap.size + 1 + 1 ≠ w.heap.size; omega) _,
    ⟨by rw [size_set]; exact h.box.1, fun q hq => ⟨(hc q).trans (h.box.2 q hq).1, (hc _).trans (h.box.2 q hq).2⟩⟩, h.far⟩
theorem bt_set4 (u0 u1 u2 u3 : Value) (h : BtC w g x a b c d W) : BtC w g x a b c d ((((W.setCell ⟨w.heap.size, 0, none⟩ u0).setCell ⟨w.heap.size, 1, none⟩ u1).setCell ⟨w.heap.size, 2, none⟩ u2).setCell ⟨w.heap.size, 3, none⟩ u3) :=
  ((((h.2.2.2.2.2.2.2.2.set 0 u0).set 1 u1).set 2 u2).set 3 u3).all
theorem bt_next (hb : Below W.heap.size W W') (h : BtC w g x a b c d W) : BtC w g x a b c d W' := (h.2.2.2.2.2.2.2.2.next hb).all
theorem cs4 {cs : Array Value} (h : cs.size = 4) (u0 u1 u2 u3 : Value) : (((cs.setIfInBounds 0 u0).setIfInBounds 1 u1).setIfInBounds 2 u2).setIfInBounds 3 u3 = #[u0, u1, u2, u3] := by
  apply Array.ext_getElem?
  intro i
  by_cases hi : i < 4
  · rcases (by omega : i = 0 ∨ i = 1 ∨ i = 2 ∨ i = 3) with rfl | rfl | rfl | rfl <;> simp [h]
  · rw [Array.getElem?_eq_none (by simp; omega), Array.getElem?_eq_none (by simp; omega)]
theorem BtS.end_ (h : BtS w g x a b c d W) (u0 u1 u2 u3 : Value) : ((((W.setCell ⟨w.heap.size, 0, none⟩ u0).setCell ⟨w.heap.size, 1, none⟩ u1).setCell ⟨w.heap.size, 2, none⟩ u2).setCell ⟨w.heap.size, 3, none⟩ u3).heap[w.heap.size]? = some (.cells #[u0, u1, u2, u3] 73 (0, 0)) := by
  obtain ⟨cs, h1, h2⟩ := h.out
  have := blk_set (blk_set (blk_set (blk_set h1 0 u0) 1 u1) 2 u2) 3 u3
  rw [cs4 h2] at this
  exact this
theorem BtS.there (h : BtS w g x a b c d W) {k : Nat} (hk : k < 4) : (∃ v, W.cell? ⟨w.heap.size, k, none⟩ = some v) ∧ W.frozen? ⟨w.heap.size, k, none⟩ = false := by
  obtain ⟨cs, h1, h2⟩ := h.out
  exact ⟨⟨_, (blk_cell h1 k).trans (Array.getElem?_eq_getElem (by omega))⟩, blk_free h1 k⟩
end
set_option maxHeartbeats 1000000 in
set_option maxRecDepth 100000 in
theorem bent_a4 (g i k p a b c d : Nat) (hi : i = k + 1) (hi2 : i < 60) (hip : i = 4 * (p + 1)) (ha : a < 256) (hb : b < 256) (hc : c < 256) (hd : d < 256) (w : World) (hw : Wd w g k a b c d) (hbx : BoxC w g) :
    Calls Try.prog 44 #[.pointer (some ⟨g, 0, none⟩), .int .i64 (i : Int), .int .i64 4] w fun e w' => e = .returned (.agg (l4 (Gf.sub b ^^^ Gf.pw 2 p) (Gf.sub c) (Gf.sub d) (Gf.sub a))) ∧ Below w.heap.size w w' := by
  have q0' : (i : Int) - 1 = (k : Int) := by omega
  have hW := hw.next ((Below.refl w.heap.size w).alloc (Nat.le_refl _) (.cells z4 73))
  have hgl := hw.lt
  have hne : ((i : Int) % 4 == 0) = true := by rw [beq_iff_eq]; omega
  have q1 : (i : Int) / 4 - 1 = (p : Int) := by omega
  have hpw : Gf.pw 2 p < 256 := Gf.pw_lt (by omega) p
  have HP := Lib.hid (fun W => power2 p (by omega) W)
  have HTU := Lib.hid (fun W => turned4 a b c d W)
  have HT := Lib.hid (fun W h => through4_sub (g := g) hb hc hd ha W h)
  have hpl : ∀ W : World, Calls Try.prog 43 #[.agg (l4 (Gf.sub b) (Gf.sub c) (Gf.sub d) (Gf.sub a)), .agg #[.int .u8 ((Gf.pw 2 p : Nat) : Int), .int .u8 0, .int .u8 0, .int .u8 0]] W fun en w' => en = .returned (.agg (l4 (Gf.sub b ^^^ Gf.pw 2 p) (Gf.sub c) (Gf.sub d) (Gf.sub a))) ∧ Below W.heap.size W w' := (fun W => by
    have h := plus4 (Gf.sub_lt hb) (Gf.sub_lt hc) (Gf.sub_lt hd) (Gf.sub_lt ha) hpw (show 0 < 256 by omega) (show 0 < 256 by omega) (show 0 < 256 by omega) W
    rw [Nat.xor_zero, Nat.xor_zero, Nat.xor_zero] at h
    exact h)
  have HPL := Lib.hid hpl
  clear hpl
  have HBX := Lib.hid hbx
  have HI := Lib.hid (info_l4 (Gf.sub b ^^^ Gf.pw 2 p) (Gf.sub c) (Gf.sub d) (Gf.sub a))
  clear hi hbx hip
  have HW := Lib.hid hW
  clear hw hW
  go_enter Try.func44, Try.ntmps44
  go_wp2_with fail
  refine (at_any g k (by omega) _).mono ?_
  rintro e w' ⟨rfl, hw'⟩
  obtain ⟨_, k0, k1, k2, k3⟩ := HW.out
  rw [← hw']
  clear hw'
  go_wp2_with fail
  refine (HP.out _).mono ?_
  rintro e w' ⟨rfl, hw'⟩
  rw [← hw']
  clear hw' HP k0 k1 k2 k3
  obtain ⟨x, hx⟩ : ∃ x, x = Gf.pw 2 p := ⟨_, rfl⟩
  obtain ⟨sa, hsa⟩ : ∃ s, s = Gf.sub a := ⟨_, rfl⟩
  obtain ⟨sb, hsb⟩ : ∃ s, s = Gf.sub b := ⟨_, rfl⟩
  obtain ⟨sc, hsc⟩ : ∃ s, s = Gf.sub c := ⟨_, rfl⟩
  obtain ⟨sd, hsd⟩ : ∃ s, s = Gf.sub d := ⟨_, rfl⟩
  have hres : l4 (Gf.sub b ^^^ Gf.pw 2 p) (Gf.sub c) (Gf.sub d) (Gf.sub a) = l4 (sb ^^^ x) sc sd sa := by rw [hx, hsa, hsb, hsc, hsd]
  rw [← hx] at HPL HI ⊢
  rw [← hsa, ← hsb, ← hsc, ← hsd] at HPL HI HT
  have HRES := Lib.hid hres
  clear hx hpw hsa hsb hsc hsd hres
  go_wp2
  have e1 : (w.alloc (.cells z4 73)).heap.size = w.heap.size + 1 := by simp
  have e2 : ((w.alloc (.cells z4 73)).alloc (.cells (l4 a b c d) 73)).heap.size = w.heap.size + 1 + 1 := by simp
  have hb1 : Below w.heap.size w (((w.alloc (.cells z4 73)).alloc (.cells (l4 a b c d) 73)).alloc (.cells #[.int .u8 (x : Int), .int .u8 0, .int .u8 0, .int .u8 0] 73)) := (((Below.refl _ _).alloc (Nat.le_refl _) _).alloc (by rw [e1]; omega) _).alloc (by rw [e2]; omega) _
  have hr1 : (((w.alloc (.cells z4 73)).alloc (.cells (l4 a b c d) 73)).alloc (.cells #[.int .u8 (x : Int), .int .u8 0, .int .u8 0, .int .u8 0] 73)).heap[w.heap.size]? = some (.cells (l4 0 0 0 0) 73 (0, 0)) := blk_alloc (blk_alloc (heap_alloc_new w _) _) _
  have hl1 := heap_alloc_new (w.alloc (.cells z4 73)) (.cells (l4 a b c d) 73)
  rw [e1] at hl1
  have hl1' := blk_alloc hl1 (.cells #[.int .u8 (x : Int), .int .u8 0, .int .u8 0, .int .u8 0] 73)
  have hf1 := heap_alloc_new ((w.alloc (.cells z4 73)).alloc (.cells (l4 a b c d) 73)) (.cells #[.int .u8 (x : Int), .int .u8 0, .int .u8 0, .int .u8 0] 73)
  rw [e2] at hf1
  have HS1 : Hid (BtC w g x a b c d (((w.alloc (.cells z4 73)).alloc (.cells (l4 a b c d) 73)).alloc (.cells #[.int .u8 (x : Int), .int .u8 0, .int .u8 0, .int .u8 0] 73)).drew) := Lib.hid (BtS.drew ⟨hb1, ⟨_, hr1, rfl⟩, hl1', hf1, HBX.out.next hb1, hgl⟩).all
  clear hb1 hr1 hl1 hl1' hf1 e1 e2 HBX HW
  generalize ((w.alloc (.cells z4 73)).alloc (.cells (l4 a b c d) 73)).alloc (.cells #[.int .u8 (x : Int), .int .u8 0, .int .u8 0, .int .u8 0] 73) = W1 at *
  go_region_held3 (fun w' => BtC w g x a b c d w')
    (first | exact HS1.out | exact bt_next (by assumption) (show BtC _ _ _ _ _ _ _ _ by assumption) | exact bt_set4 _ _ _ _ (show BtC _ _ _ _ _ _ _ _ by assumption))
    (first
    | (go_at_call 67; (with_reducible refine (HTU.out _).mono ?_); rintro e w2 ⟨rfl, hb2⟩)
    | (go_at_call 68; (with_reducible refine (HT.out _ (BtS.box (show BtC w g x a b c d _ by assumption).2.2.2.2.2.2.2.2)).mono ?_); rintro e w3 ⟨rfl, hb3⟩)
    | (go_at_call 43; (with_reducible refine (HPL.out _).mono ?_); rintro e w4 ⟨rfl, hb4⟩
       have hs4 := BtS.next (show BtC w g x a b c d _ by assumption).2.2.2.2.2.2.2.2 hb4
       obtain ⟨⟨v0, c0⟩, f0⟩ := hs4.there (k := 0) (by omega)
       obtain ⟨⟨v1, c1⟩, f1⟩ := hs4.there (k := 1) (by omega)
       obtain ⟨⟨v2, c2⟩, f2⟩ := hs4.there (k := 2) (by omega)
       obtain ⟨⟨v3, c3⟩, f3⟩ := hs4.there (k := 3) (by omega)
       have HX := Lib.hid (hs4.end_ (.int .u8 ((sb ^^^ x : Nat) : Int)) (.int .u8 (sc : Int)) (.int .u8 (sd : Int)) (.int .u8 (sa : Int)))
       clear hs4))
  all_goals
    rename_i hHeld
    have HBB := Lib.hid hHeld.2.2.2.2.2.2.2.2.below
    clear hHeld
    go_wp2
    exact bodyPost_ret (v := .agg (l4 (sb ^^^ x) sc sd sa)) (results_cell_row rfl _ _ _ 73 _ (0, 0) _ rfl HX.out Try.underlying73 rfl HI.out) rfl ⟨by rw [HRES.out], HBB.out⟩
set_option maxHeartbeats 1000000 in
set_option maxRecDepth 100000 in
theorem bent_a8 (g i k p a b c d : Nat) (hi : i = k + 1) (hi2 : i < 60) (hip : i = 8 * (p + 1)) (ha : a < 256) (hb : b < 256) (hc : c < 256) (hd : d < 256) (w : World) (hw : Wd w g k a b c d) (hbx : BoxC w g) :
    Calls Try.prog 44 #[.pointer (some ⟨g, 0, none⟩), .int .i64 (i : Int), .int .i64 8] w fun e w' => e = .returned (.agg (l4 (Gf.sub b ^^^ Gf.pw 2 p) (Gf.sub c) (Gf.sub d) (Gf.sub a))) ∧ Below w.heap.size w w' := by
  have q0' : (i : Int) - 1 = (k : Int) := by omega
  have hW := hw.next ((Below.refl w.heap.size w).alloc (Nat.le_refl _) (.cells z4 73))
  have hgl := hw.lt
  have hne : ((i : Int) % 8 == 0) = true := by rw [beq_iff_eq]; omega
  have q1 : (i : Int) / 8 - 1 = (p : Int) := by omega
  have hpw : Gf.pw 2 p < 256 := Gf.pw_lt (by omega) p
  have HP := Lib.hid (fun W => power2 p (by omega) W)
  have HTU := Lib.hid (fun W => turned4 a b c d W)
  have HT := Lib.hid (fun W h => through4_sub (g := g) hb hc hd ha W h)
  have hpl : ∀ W : World, Calls Try.prog 43 #[.agg (l4 (Gf.sub b) (Gf.sub c) (Gf.sub d) (Gf.sub a)), .agg #[.int .u8 ((Gf.pw 2 p : Nat) : Int), .int .u8 0, .int .u8 0, .int .u8 0]] W fun en w' => en = .returned (.agg (l4 (Gf.sub b ^^^ Gf.pw 2 p) (Gf.sub c) (Gf.sub d) (Gf.sub a))) ∧ Below W.heap.size W w' := (fun W => by
    have h := plus4 (Gf.sub_lt hb) (Gf.sub_lt hc) (Gf.sub_lt hd) (Gf.sub_lt ha) hpw (show 0 < 256 by omega) (show 0 < 256 by omega) (show 0 < 256 by omega) W
    rw [Nat.xor_zero, Nat.xor_zero, Nat.xor_zero] at h
    exact h)
  have HPL := Lib.hid hpl
  clear hpl
  have HBX := Lib.hid hbx
  have HI := Lib.hid (info_l4 (Gf.sub b ^^^ Gf.pw 2 p) (Gf.sub c) (Gf.sub d) (Gf.sub a))
  clear hi hbx hip
  have HW := Lib.hid hW
  clear hw hW
  go_enter Try.func44, Try.ntmps44
  go_wp2_with fail
  refine (at_any g k (by omega) _).mono ?_
  rintro e w' ⟨rfl, hw'⟩
  obtain ⟨_, k0, k1, k2, k3⟩ := HW.out
  rw [← hw']
  clear hw'
  go_wp2_with fail
  refine (HP.out _).mono ?_
  rintro e w' ⟨rfl, hw'⟩
  rw [← hw']
  clear hw' HP k0 k1 k2 k3
  obtain ⟨x, hx⟩ : ∃ x, x = Gf.pw 2 p := ⟨_, rfl⟩
  obtain ⟨sa, hsa⟩ : ∃ s, s = Gf.sub a := ⟨_, rfl⟩
  obtain ⟨sb, hsb⟩ : ∃ s, s = Gf.sub b := ⟨_, rfl⟩
  obtain ⟨sc, hsc⟩ : ∃ s, s = Gf.sub c := ⟨_, rfl⟩
  obtain ⟨sd, hsd⟩ : ∃ s, s = Gf.sub d := ⟨_, rfl⟩
  have hres : l4 (Gf.sub b ^^^ Gf.pw 2 p) (Gf.sub c) (Gf.sub d) (Gf.sub a) = l4 (sb ^^^ x) sc sd sa := by rw [hx, hsa, hsb, hsc, hsd]
  rw [← hx] at HPL HI ⊢
  rw [← hsa, ← hsb, ← hsc, ← hsd] at HPL HI HT
  have HRES := Lib.hid hres
  clear hx hpw hsa hsb hsc hsd hres
  go_wp2
  have e1 : (w.alloc (.cells z4 73)).heap.size = w.heap.size + 1 := by simp
  have e2 : ((w.alloc (.cells z4 73)).alloc (.cells (l4 a b c d) 73)).heap.size = w.heap.size + 1 + 1 := by simp
  have hb1 : Below w.heap.size w (((w.alloc (.cells z4 73)).alloc (.cells (l4 a b c d) 73)).alloc (.cells #[.int .u8 (x : Int), .int .u8 0, .int .u8 0, .int .u8 0] 73)) := (((Below.refl _ _).alloc (Nat.le_refl _) _).alloc (by rw [e1]; omega) _).alloc (by rw [e2]; omega) _
  have hr1 : (((w.alloc (.cells z4 73)).alloc (.cells (l4 a b c d) 73)).alloc (.cells #[.int .u8 (x : Int), .int .u8 0, .int .u8 0, .int .u8 0] 73)).heap[w.heap.size]? = some (.cells (l4 0 0 0 0) 73 (0, 0)) := blk_alloc (blk_alloc (heap_alloc_new w _) _) _
  have hl1 := heap_alloc_new (w.alloc (.cells z4 73)) (.cells (l4 a b c d) 73)
  rw [e1] at hl1
  have hl1' := blk_alloc hl1 (.cells #[.int .u8 (x : Int), .int .u8 0, .int .u8 0, .int .u8 0] 73)
  have hf1 := heap_alloc_new ((w.alloc (.cells z4 73)).alloc (.cells (l4 a b c d) 73)) (.cells #[.int .u8 (x : Int), .int .u8 0, .int .u8 0, .int .u8 0] 73)
  rw [e2] at hf1
  have HS1 : Hid (BtC w g x a b c d (((w.alloc (.cells z4 73)).alloc (.cells (l4 a b c d) 73)).alloc (.cells #[.int .u8 (x : Int), .int .u8 0, .int .u8 0, .int .u8 0] 73)).drew) := Lib.hid (BtS.drew ⟨hb1, ⟨_, hr1, rfl⟩, hl1', hf1, HBX.out.next hb1, hgl⟩).all
  clear hb1 hr1 hl1 hl1' hf1 e1 e2 HBX HW
  generalize ((w.alloc (.cells z4 73)).alloc (.cells (l4 a b c d) 73)).alloc (.cells #[.int .u8 (x : Int), .int .u8 0, .int .u8 0, .int .u8 0] 73) = W1 at *
  go_region_held3 (fun w' => BtC w g x a b c d w')
    (first | exact HS1.out | exact bt_next (by assumption) (show BtC _ _ _ _ _ _ _ _ by assumption) | exact bt_set4 _ _ _ _ (show BtC _ _ _ _ _ _ _ _ by assumption))
    (first
    | (go_at_call 67; (with_reducible refine (HTU.out _).mono ?_); rintro e w2 ⟨rfl, hb2⟩)
    | (go_at_call 68; (with_reducible refine (HT.out _ (BtS.box (show BtC w g x a b c d _ by assumption).2.2.2.2.2.2.2.2)).mono ?_); rintro e w3 ⟨rfl, hb3⟩)
    | (go_at_call 43; (with_reducible refine (HPL.out _).mono ?_); rintro e w4 ⟨rfl, hb4⟩
       have hs4 := BtS.next (show BtC w g x a b c d _ by assumption).2.2.2.2.2.2.2.2 hb4
       obtain ⟨⟨v0, c0⟩, f0⟩ := hs4.there (k := 0) (by omega)
       obtain ⟨⟨v1, c1⟩, f1⟩ := hs4.there (k := 1) (by omega)
       obtain ⟨⟨v2, c2⟩, f2⟩ := hs4.there (k := 2) (by omega)
       obtain ⟨⟨v3, c3⟩, f3⟩ := hs4.there (k := 3) (by omega)
       have HX := Lib.hid (hs4.end_ (.int .u8 ((sb ^^^ x : Nat) : Int)) (.int .u8 (sc : Int)) (.int .u8 (sd : Int)) (.int .u8 (sa : Int)))
       clear hs4))
  all_goals
    rename_i hHeld
    have HBB := Lib.hid hHeld.2.2.2.2.2.2.2.2.below
    clear hHeld
    go_wp2
    exact bodyPost_ret (v := .agg (l4 (sb ^^^ x) sc sd sa)) (results_cell_row rfl _ _ _ 73 _ (0, 0) _ rfl HX.out Try.underlying73 rfl HI.out) rfl ⟨by rw [HRES.out], HBB.out⟩
end Go.Proofs.Ythjpaligpojlnaa
