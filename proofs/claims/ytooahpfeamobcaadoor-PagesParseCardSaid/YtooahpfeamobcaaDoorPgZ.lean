/-
  A page is read.
-/
import Derived.Test.YtooahpfeamobcaaDoorPgX
import Derived.Test.YtooahpfeamobcaaDoorRowB
namespace Go.Proofs.YtooahpfeamobcaaDoor
open Go.RowKit Go Go.Shelf
set_option linter.unusedVariables false
set_option linter.unusedSimpArgs false
set_option maxRecDepth 100000
theorem num_go (g n : Nat) (l : List Nat) (W : World) (h1 : 1 ≤ n) (h8 : n ≤ 8) (hl : n ≤ l.length) (hst : RowSt W g 60 l 0) :
    Calls Tryd.prog 16 #[.pointer (some ⟨g, 0, none⟩), .int .i64 (n : Int)] W fun E W' => E = .returned (.int .u64 ((num (l.take n) : Nat) : Int)) ∧ RowSt W' g 60 (l.drop n) 0 ∧ W.grownBy W' (some g) := by
  have h := num_any g l 0 n W hst
  have e : takeS l 0 (n : Int) (mayN (n : Int)) = (l.take n, l.drop n, 0) := by
    have hm : mayN (n : Int) = true := decide_eq_true (by omega)
    unfold takeS
    rw [hm, if_neg (by omega), if_neg (by decide), if_neg (by omega)]
    simp
  rw [e] at h
  refine h.mono ?_
  rintro E W' ⟨h1', h2', h3'⟩
  refine ⟨?_, h2', h3'⟩
  rw [h1']
  show Ending.returned (.int .u64 ((num ((l.take n).take 8) : Nat) : Int)) = _
  rw [List.take_take, Nat.min_eq_right h8]
theorem num_small {l : List Nat} (h : ∀ i, l.getD i 0 < 256) (s n : Nat) (hn : n ≤ 4) : num ((l.drop s).take n) < 4294967296 := by
  have hb : ∀ i, ((l.drop s).take n).getD i 0 < 256 := fun i => by
    rw [List.getD_eq_getElem?_getD, List.getElem?_take]
    split
    · rw [List.getElem?_drop, ← List.getD_eq_getElem?_getD]; exact h _
    · decide
  have h1 := num_lt hb
  have h2 : ((l.drop s).take n).length ≤ 4 := by rw [List.length_take]; omega
  have h3 : 256 ^ ((l.drop s).take n).length ≤ 256 ^ 4 := Nat.pow_le_pow_right (by decide) h2
  have h4 : (256 : Nat) ^ 4 = 4294967296 := by decide
  omega
/-- the page that the bytes spell -/
def rdP (b : List Nat) : Pg := ⟨(num (b.take 1) : Nat), (num ((b.drop 1).take 1) : Nat), (num ((b.drop 2).take 2) : Nat), (num ((b.drop 4).take 4) : Nat), (num ((b.drop 8).take 8) : Nat)⟩
set_option maxHeartbeats 2000000 in
theorem pread_any (g : Nat) (b : List Nat) (hbl : 16 ≤ b.length) (hby : ∀ i, b.getD i 0 < 256) (w : World) (hst : RowSt w g 60 b 0) :
    Calls Tryd.prog 17 #[.func (Fn.func 16) #[.pointer (some ⟨g, 0, none⟩)] #[]] w
      fun e w' => e = .returned (Pg.val (rdP b)) ∧ RowSt w' g 60 (b.drop 16) 0 ∧ w.grownBy w' (some g) := by
  have hgl := hst.lt
  obtain ⟨V, hV⟩ : ∃ V, V = w.alloc (.cells #[.int .i64 0, .int .i64 0, .int .i64 0, .int .i64 0, .int .u64 0] OT) := ⟨_, rfl⟩
  have hbV : Below w.heap.size w V := by rw [hV]; exact bel_alloc w _
  have HX0 : Hid (V.heap[w.heap.size]? = some (.cells #[.int .i64 0, .int .i64 0, .int .i64 0, .int .i64 0, .int .u64 0] OT (0, 0))) := Lib.hid (by rw [hV]; exact heap_alloc_new w _)
  have HG0 : Hid (w.grownBy V (some g)) := Lib.hid (only_below hbV)
  have HS0 := Lib.hid (hst.below hbV)
  have HV := Lib.hid hV
  have HNE : Hid (some w.heap.size ≠ some g) := Lib.hid (by intro h; injection h with h; omega)
  have HL := Lib.hid hbl
  have HN0 := Lib.hid (num_go g 1 b V (by omega) (by omega) (by omega) HS0.out)
  have HN1 : Hid (∀ W, RowSt W g 60 (b.drop 1) 0 → _) := Lib.hid (fun W h => num_go g 1 (b.drop 1) W (by omega) (by omega) (by rw [List.length_drop]; have := HL.out; omega) h)
  have HN2 : Hid (∀ W, RowSt W g 60 (b.drop 2) 0 → _) := Lib.hid (fun W h => num_go g 2 (b.drop 2) W (by omega) (by omega) (by rw [List.length_drop]; have := HL.out; omega) h)
  have HN3 : Hid (∀ W, RowSt W g 60 (b.drop 4) 0 → _) := Lib.hid (fun W h => num_go g 4 (b.drop 4) W (by omega) (by omega) (by rw [List.length_drop]; have := HL.out; omega) h)
  have HN4 : Hid (∀ W, RowSt W g 60 (b.drop 8) 0 → _) := Lib.hid (fun W h => num_go g 8 (b.drop 8) W (by omega) (by omega) (by rw [List.length_drop]; have := HL.out; omega) h)
  have hx0 : num (b.take 1) < 4294967296 := num_small hby 0 1 (by omega)
  have hx1 : num ((b.drop 1).take 1) < 4294967296 := num_small hby 1 1 (by omega)
  have hx2 : num ((b.drop 2).take 2) < 4294967296 := num_small hby 2 2 (by omega)
  have hx3 : num ((b.drop 4).take 4) < 4294967296 := num_small hby 4 4 (by omega)
  obtain ⟨p, hp⟩ : ∃ p, p = rdP b := ⟨_, rfl⟩
  have HP := Lib.hid hp
  rw [← hp]
  unfold rdP at hp
  clear hV hbV hst hby hbl
  generalize num (b.take 1) = x0 at *
  generalize num ((b.drop 1).take 1) = x1 at *
  generalize num ((b.drop 2).take 2) = x2 at *
  generalize num ((b.drop 4).take 4) = x3 at *
  generalize num ((b.drop 8).take 8) = x4 at *
  have HPV : Hid (Pg.val p = .agg #[.int .i64 (x0 : Int), .int .i64 (x1 : Int), .int .i64 (x2 : Int), .int .i64 (x3 : Int), .int .u64 (x4 : Int)]) := Lib.hid (by rw [hp])
  clear hp
  have q0 : IntKind.i64.wrap (x0 : Int) = (x0 : Int) := IntWalk.i64_in _ (by omega)
  have q1 : IntKind.i64.wrap (x1 : Int) = (x1 : Int) := IntWalk.i64_in _ (by omega)
  have q2 : IntKind.i64.wrap (x2 : Int) = (x2 : Int) := IntWalk.i64_in _ (by omega)
  have q3 : IntKind.i64.wrap (x3 : Int) = (x3 : Int) := IntWalk.i64_in _ (by omega)
  have HIR : Hid ((Tryd.prog.info? OT).map (·.size) = some (#[.int .i64 (x0 : Int), .int .i64 (x1 : Int), .int .i64 (x2 : Int), .int .i64 (x3 : Int), .int .u64 (x4 : Int)] : Array Value).size) := Lib.hid (by kernel_rfl)
  have HSL : Hid ((#[.int .i64 0, .int .i64 0, .int .i64 0, .int .i64 0, .int .u64 0] : Array Value).size = (#[.int .i64 (x0 : Int), .int .i64 (x1 : Int), .int .i64 (x2 : Int), .int .i64 (x3 : Int), .int .u64 (x4 : Int)] : Array Value).size) := Lib.hid rfl
  have HONE : Hid ((#[.int .i64 (x0 : Int), .int .i64 (x1 : Int), .int .i64 (x2 : Int), .int .i64 (x3 : Int), .int .u64 (x4 : Int)] : Array Value).all (·.oneCell') = true) := Lib.hid (all_oneCell_toArray (by intro u hu; simp at hu; rcases hu with rfl | rfl | rfl | rfl | rfl <;> rfl))
  go_enter Tryd.func17, Tryd.ntmps17
  go_wp2_with fail
  rw [← HV.out]
  refine HN0.out.mono ?_
  rintro e w1 ⟨rfl, hs1, hg1⟩
  have HX1 := Lib.hid ((hg1.block _ (blk_lt HX0.out) HNE.out).trans HX0.out)
  have HG1 := Lib.hid (only_trans HG0.out hg1)
  have HC1 := Lib.hid (HN1.out w1 hs1)
  clear hs1 hg1 HX0 HG0 HN0 HN1 HS0
  go_wp2_with fail
  refine HC1.out.mono ?_
  rintro e w2 ⟨rfl, hs1, hg1⟩
  rw [List.drop_drop] at hs1
  have HX2 := Lib.hid ((hg1.block _ (blk_lt HX1.out) HNE.out).trans HX1.out)
  have HG2 := Lib.hid (only_trans HG1.out hg1)
  have HC2 := Lib.hid (HN2.out w2 hs1)
  clear hs1 hg1 HX1 HG1 HC1 HN2
  go_wp2_with fail
  refine HC2.out.mono ?_
  rintro e w3 ⟨rfl, hs1, hg1⟩
  rw [List.drop_drop] at hs1
  have HX3 := Lib.hid ((hg1.block _ (blk_lt HX2.out) HNE.out).trans HX2.out)
  have HG3 := Lib.hid (only_trans HG2.out hg1)
  have HC3 := Lib.hid (HN3.out w3 hs1)
  clear hs1 hg1 HX2 HG2 HC2 HN3
  go_wp2_with fail
  refine HC3.out.mono ?_
  rintro e w4 ⟨rfl, hs1, hg1⟩
  rw [List.drop_drop] at hs1
  have HX4 := Lib.hid ((hg1.block _ (blk_lt HX3.out) HNE.out).trans HX3.out)
  have HG4 := Lib.hid (only_trans HG3.out hg1)
  have HC4 := Lib.hid (HN4.out w4 hs1)
  clear hs1 hg1 HX3 HG3 HC3 HN4
  go_wp2_with fail
  refine HC4.out.mono ?_
  rintro e w5 ⟨rfl, hs1, hg1⟩
  rw [List.drop_drop] at hs1
  have HX5 := Lib.hid ((hg1.block _ (blk_lt HX4.out) HNE.out).trans HX4.out)
  have HG5 := Lib.hid (only_trans HG4.out hg1)
  have HF := Lib.hid (setRow_heap _ _ _ (#[.int .i64 (x0 : Int), .int .i64 (x1 : Int), .int .i64 (x2 : Int), .int .i64 (x3 : Int), .int .u64 (x4 : Int)] : Array Value) _ _ HX5.out)
  have HGF : Hid (w.grownBy (w5.setRow w.heap.size #[.int .i64 (x0 : Int), .int .i64 (x1 : Int), .int .i64 (x2 : Int), .int .i64 (x3 : Int), .int .u64 (x4 : Int)]) (some g)) := Lib.hid ⟨HG5.out.os, HG5.out.tape, HG5.out.output, by rw [size_setRow]; exact HG5.out.size, fun i hi hne => (setRow_other _ _ _ _ (by omega)).trans (HG5.out.block i hi hne)⟩
  have HSF : Hid (RowSt (w5.setRow w.heap.size #[.int .i64 (x0 : Int), .int .i64 (x1 : Int), .int .i64 (x2 : Int), .int .i64 (x3 : Int), .int .u64 (x4 : Int)]) g 60 (b.drop 16) 0) := Lib.hid (by
    obtain ⟨A, c, e1, e2⟩ := hs1
    refine ⟨A, c, (setRow_other _ _ _ _ (by omega)).trans e1, e2.keep fun p hp => World.cell?_of_block (setRow_other _ _ _ _ (by omega))⟩)
  clear hs1 hg1 HX4 HG4 HC4
  go_wp2_with (with_reducible refine wpList_store_row rfl OT (.tmp 2) (.tmp 17) rfl _ _ rfl rfl OT _ HX5.out HIR.out HSL.out HONE.out ?_)
  exact bodyPost_ret (v := .agg #[.int .i64 (x0 : Int), .int .i64 (x1 : Int), .int .i64 (x2 : Int), .int .i64 (x3 : Int), .int .u64 (x4 : Int)]) (results_cell_row rfl _ _ _ OT _ (0, 0) _ rfl HF.out Tryd.underlying48 rfl HIR.out) rfl ⟨by rw [HPV.out], HSF.out, HGF.out⟩
end Go.Proofs.YtooahpfeamobcaaDoor
