/-
  Package super: what geometry and Parse answer.
-/
import Derived.Test.YtbfbcjfeicecmaaSupC
namespace Go.Proofs.Ytbfbcjfeicecmaa
open Go.RowKit Go
set_option linter.unusedVariables false
def pF (l : List Nat) : Nat := numAt (l.drop 8) 2 1
def tF (l : List Nat) : Nat := numAt (l.drop 8) 2 2
theorem drop_byte {l : List Nat} (h : ∀ i, l.getD i 0 < 256) (k i : Nat) : (l.drop k).getD i 0 < 256 := by
  have := h (k + i)
  simpa [List.getD, List.getElem?_drop] using this
theorem numAt_lt {l : List Nat} (h : ∀ i, l.getD i 0 < 256) (n i : Nat) : numAt l n i < 256 ^ n := by
  unfold numAt
  have h1 := num_lt (l := (l.drop (n * i)).take n) (take_byte (drop_byte h _) _)
  refine Nat.lt_of_lt_of_le h1 (Nat.pow_le_pow_right (by omega) ?_)
  rw [List.length_take]; omega
theorem Two.set {w : World} {g : Nat} {t : TypeId} {x y : Int} (h : Two w g t x y) (x' y' : Int) : Two ((w.setCell ⟨g, 0, none⟩ (.int .i64 x')).setCell ⟨g, 1, none⟩ (.int .i64 y')) g t x' y' := by
  have h1 := blk_set (show w.heap[g]? = some (.cells #[.int .i64 x, .int .i64 y] t (0, 0)) from h) 0 (Value.int IntKind.i64 x')
  have h2 := blk_set h1 1 (Value.int IntKind.i64 y')
  rw [set2] at h2
  exact h2
theorem below_set2 {B g : Nat} {w w' : World} (h : Below B w w') (hg : B ≤ g) (u v : Value) : Below B w ((w'.setCell ⟨g, 0, none⟩ u).setCell ⟨g, 1, none⟩ v) := (h.setCell hg _).setCell hg _
set_option maxHeartbeats 1000000 in
theorem geometry_any (A : Option Addr) (c : Nat) (l : List Nat) (w : World) (hs : BS w w.heap.size A 256 c l) :
    Calls Try.prog 39 #[.slice A 256 c] w fun e w' => e = .returned (.agg #[.int .i64 (pF l : Int), .int .i64 (tF l : Int)]) ∧ Below w.heap.size w w' := by
  have hlen := hs.len
  have hby := hs.byte
  have hp : pF l < 65536 := numAt_lt (drop_byte hby 8) 2 1
  have ht : tF l < 65536 := numAt_lt (drop_byte hby 8) 2 2
  have hb : Below w.heap.size w (w.alloc (.cells #[.int .i64 0, .int .i64 0] 23)) := (Below.refl _ _).alloc (Nat.le_refl _) _
  have ht2 := Two.new w 23 0 0
  have hs0 := (hs.below hb).more (show w.heap.size ≤ (w.alloc (.cells #[.int .i64 0, .int .i64 0] 23)).heap.size from hb.size)
  have HB := Lib.hid hb
  have HT := Lib.hid ht2
  have HS := Lib.hid hs0
  have HP : Hid (pF l = numAt (l.drop 8) 2 1) := Lib.hid rfl
  have HT2 : Hid (tF l = numAt (l.drop 8) 2 2) := Lib.hid rfl
  have HLEN := Lib.hid hlen
  generalize pF l = p at *
  generalize tF l = t at *
  clear hs hb ht2 hs0 hlen hby
  go_enter Try.func39, Try.ntmps39
  go_wp2_with fail
  generalize w.alloc (.cells #[.int .i64 0, .int .i64 0] 23) = W0 at *
  refine (of_any A 256 c l _ HS.out (by omega)).mono ?_
  rintro e w1 ⟨g, rfl, hg, hb1, hst1⟩
  have HT1 := Lib.hid (HT.out.after hb1)
  have HB1 := Lib.hid (HB.out.trans (hb1.mono HB.out.size))
  have hgw : w.heap.size < g := Nat.lt_of_lt_of_le HT.out.lt hg
  clear hb1
  go_wp2_with fail
  refine (bytes_any g l 0 8 _ hst1 (by rw [HLEN.out]; omega)).mono ?_
  rintro e w2 ⟨A2, c2, rfl, hx2, hst2, hb2⟩
  have hst3 : RowSt w2 g 103 (l.drop 8) 0 := by
    have e1 : takeS l 0 8 (decide ((0 : Int) ≤ 8)) = (l.take 8, l.drop 8, 0) := by
      unfold takeS
      rw [if_neg (by simp), if_neg (by simp), if_neg (by rw [HLEN.out]; omega)]
      rfl
    rw [e1] at hst2
    exact hst2
  have HT3 : Hid (Two w2 w.heap.size 23 0 0) := Lib.hid ((hb2.block _ HT1.out.lt (fun e => by injection e with e; omega)).trans HT1.out)
  have HB3 : Hid (Below w.heap.size w w2) := Lib.hid (below_only HB1.out (Nat.le_of_lt hgw) HB1.out.size hb2)
  clear hst1 hx2 hst2 hb2
  go_wp2_with fail
  refine (numbers_any g 2 3 (l.drop 8) (by omega) (by omega) (by omega) (by rw [List.length_drop, HLEN.out]; omega) _ hst3).mono ?_
  rintro e w3 ⟨rfl, hb4, hr4⟩
  have k1 : w3.cell? ⟨w2.heap.size, 1, none⟩ = some (.int .u64 (p : Int)) := by rw [HP.out]; exact hr4.cell (by omega)
  have k2 : w3.cell? ⟨w2.heap.size, 2, none⟩ = some (.int .u64 (t : Int)) := by rw [HT2.out]; exact hr4.cell (by omega)
  have ht4 : Two w3 w.heap.size 23 0 0 := (hb4.block _ HT3.out.lt (fun e => by injection e with e; omega)).trans HT3.out
  have HB4 : Hid (Below w.heap.size w w3) := Lib.hid (below_only HB3.out (Nat.le_of_lt hgw) HB3.out.size hb4)
  have c0 := ht4.fst
  have c1 := ht4.snd
  have f0 : w3.frozen? ⟨w.heap.size, 0, none⟩ = false := blk_free ht4 0
  have f1 : w3.frozen? ⟨w.heap.size, 1, none⟩ = false := blk_free ht4 1
  have HT4 := Lib.hid ht4
  clear hb4 hr4 ht4
  go_wp2_with fail
  go_region
  have ht5 := HT4.out.set (p : Int) (t : Int)
  have HB5 := Lib.hid (below_set2 HB4.out (Nat.le_refl _) (.int .i64 (p : Int)) (.int .i64 (t : Int)))
  clear c0 c1 f0 f1 k1 k2
  generalize (w3.setCell ⟨w.heap.size, 0, none⟩ (.int .i64 (p : Int))).setCell ⟨w.heap.size, 1, none⟩ (.int .i64 (t : Int)) = W5 at *
  have c0 : W5.drew.cell? ⟨w.heap.size, 0, none⟩ = _ := ht5.fst
  have c1 : W5.drew.cell? ⟨w.heap.size, 1, none⟩ = _ := ht5.snd
  go_wp2
  exact bodyPost_ret (v := .agg #[.int .i64 (p : Int), .int .i64 (t : Int)]) (by simp [results, Try.results39, go_sem, c0, c1]) rfl ⟨rfl, HB5.out.drew⟩
end Go.Proofs.Ytbfbcjfeicecmaa
