/-
  Package lines: Parse.
-/
import Derived.Test.YtcaogiaoabdkdaaDoorZLqM
import Derived.Test.YtcaogiaoabdkdaaDoorZRnd
import Derived.RangeFuncWrites
import Derived.Sort.CutIn
namespace Go.Proofs.YtcaogiaoabdkdaaDoor
open Go.RowKit Go.Shelf Go
set_option linter.unusedVariables false
set_option linter.unusedSimpArgs false
set_option maxRecDepth 1000000
set_option maxHeartbeats 2000000
attribute [local go_sem] Oper.semAt_some
def LPaTo (w : World) (s : List Nat) (e : Ending) (w' : World) : Prop := ∃ v l k er, e = .returned (.tuple #[v, .int .i64 ((k : Nat) : Int), .int .i64 er]) ∧ Below w.heap.size w w' ∧ AcO 30 w' w.heap.size w.heap.size v l ∧ parseT s = (l, k) ∧ (k = 0 → er = 0) ∧ (k ≠ 0 → er = 4 ∧ v = .slice none 0 0)
theorem AcO.fr {t : TypeId} {W W' : World} {B0 B o s : Nat} {v : Value} {l : List Ac} (h : AcO t W B0 B v l) (hf : Fr o s W W') (ho : B0 ≤ o) (hs : s < B) : AcO t W' B0 B v l := by
  obtain ⟨vs, ⟨h1, h2⟩, h3⟩ := h
  refine ⟨vs, ⟨h1, ?_⟩, fun i hi => ?_⟩
  · rcases h2 with h2 | ⟨g, cap, cur, e1, e2, e3, e4⟩
    · exact .inl h2
    · exact .inr ⟨g, cap, cur, e1, e2, hf.cells g _ _ _ (by omega) e3, e4⟩
  · obtain ⟨A, c, k1, k3, hz⟩ := h3 i hi
    refine ⟨A, c, k1, ?_, hz⟩
    rcases k3 with k3 | ⟨k3, k4⟩
    · exact .inl (k3.keep fun q hq => World.cell?_of_block (hf.low q.block (by omega)))
    · exact .inr ⟨k3.keep fun g hg => by
        obtain ⟨cs, hcs⟩ := own_rows k3 g hg
        have := (k3.lt hg).1
        rw [hf.cells g cs _ _ (by omega) hcs, hcs], k4⟩
theorem AcO.lower {t : TypeId} {W : World} {B0 B B' : Nat} {v : Value} {l : List Ac} (h : AcO t W B0 B v l) (hB : B' ≤ B) : AcO t W B0 B' v l := by
  obtain ⟨vs, ⟨h1, h2⟩, h3⟩ := h
  refine ⟨vs, ⟨h1, ?_⟩, fun i hi => ?_⟩
  · rcases h2 with h2 | ⟨g, cap, cur, e1, e2, e3⟩
    · exact .inl h2
    · exact .inr ⟨g, cap, cur, e1, Nat.le_trans hB e2, e3⟩
  · obtain ⟨A, c, k1, k3, hz⟩ := h3 i hi
    refine ⟨A, c, k1, ?_, hz⟩
    rcases k3 with k3 | ⟨k3, k4⟩
    · exact .inl k3
    · exact .inr ⟨k3.base hB, k4⟩
theorem Fr.below {o s : Nat} {w A B : World} (h : Below o w A) (hf : Fr o s A B) : Below o w B :=
  ⟨hf.os.trans h.os, hf.tape.trans h.tape, hf.output.trans h.output, Nat.le_trans h.size hf.size, fun k hk => (hf.low k hk).trans (h.block k hk)⟩
theorem Fr.bx {o s b : Nat} {A B : World} {t : TypeId} {v : Value} (h : Bx A b t v) (hf : Fr o s A B) (hb : b ≠ s) : Bx B b t v := hf.cells b _ _ _ hb h
theorem Fr.kn {o s : Nat} {A B : World} (h : Kn A) (hf : Fr o s A B) (ho : 0 < o) : Kn B := by
  obtain ⟨t, m, h1⟩ := h
  exact ⟨t, m, (hf.low 0 ho).trans h1⟩
theorem none31_any (g : Nat) (ws : List (List Nat)) (w : World) (h : WdB w g ws) :
    Calls Tryd.prog 28 #[.pointer (some ⟨g, 0, none⟩)] w fun e w' => e = .returned (.bool (decide (ws = []))) ∧ w = w' := by
  obtain ⟨u, hx, hh, hm, _, hs⟩ := h
  have e : decide (ws = []) = decide (u = []) := by
    rw [decide_eq_decide, ← hs]
    constructor
    · intro h
      by_cases hu : u = []
      · exact hu
      · rw [spl_word u [] (by simpa using hu) (fun _ => hh)] at h; cases h
    · intro h; subst h; rfl
  rw [e]
  exact none_any g u (getD_lt256 hm) w (blk_cell hx 0)
/-- the lines of pre have been read: what is told of them -/
def PrG (pre : List LnX) (acts : List Ac) : Prop := ∀ rest, actsL (pre.map (·.1) ++ rest) 1 [] = actsL rest (pre.length + 1) acts
theorem PrG.skip {pre : List LnX} {acts : List Ac} {x : LnX} (h : PrG pre acts) (hw : wordsL x.1 = []) : PrG (pre ++ [x]) acts := fun rest => by
  rw [List.map_append, List.append_assoc, h, List.length_append]
  show actsL (x.1 :: rest) _ _ = _
  rw [actsL, if_pos hw]; rfl
theorem PrG.act {pre : List LnX} {acts : List Ac} {x : LnX} {a : Ac} (h : PrG pre acts) (hw : wordsL x.1 ≠ []) (ha : actW (wordsL x.1) = some a) : PrG (pre ++ [x]) (acts ++ [a]) := fun rest => by
  rw [List.map_append, List.append_assoc, h, List.length_append]
  show actsL (x.1 :: rest) _ _ = _
  rw [actsL, if_neg hw, ha]; rfl
theorem PrG.bad {pre : List LnX} {acts : List Ac} {x : LnX} (h : PrG pre acts) (hw : wordsL x.1 ≠ []) (ha : actW (wordsL x.1) = none) : ∀ rest, actsL ((pre ++ [x]).map (·.1) ++ rest) 1 [] = ([], pre.length + 1) := fun rest => by
  rw [List.map_append, List.append_assoc, h]
  show actsL (x.1 :: rest) _ _ = _
  rw [actsL, if_neg hw, ha]
/-- while the lines are gone through -/
def LpI (w : World) (ob : Nat) (pre : List LnX) (W : World) : Prop := ∃ acts v, Kn W ∧ Below ob w W ∧ Bx W ob 31 (.slice none 0 0) ∧ Bx W (ob + 1) 3 (.int .i64 0) ∧ Bx W (ob + 2) 27 (.int .i64 0) ∧ Bx W (ob + 3) 31 v ∧ Bx W (ob + 4) 3 (.int .i64 (pre.length : Int)) ∧ AcO 30 W ob (ob + 8) v acts ∧ acts.length ≤ pre.length ∧ ob + 8 ≤ W.heap.size ∧ PrG pre acts
def LpX (w : World) (ob : Nat) (c : Code) (pre : List LnX) (W : World) : Prop := c = .ret ∧ 0 < pre.length ∧ Below ob w W ∧ Bx W ob 31 (.slice none 0 0) ∧ Bx W (ob + 1) 3 (.int .i64 (pre.length : Int)) ∧ Bx W (ob + 2) 27 (.int .i64 4) ∧ ∀ rest, actsL (pre.map (·.1) ++ rest) 1 [] = ([], pre.length)
theorem LpI.fr {w A B : World} {ob : Nat} {pre : List LnX} (h : LpI w ob pre A) (hf : Fr ob (ob + 5) A B) (ho : 0 < ob) : LpI w ob pre B := by
  obtain ⟨acts, v, h1, h2, h3, h4, h5, h6, h7, h8, h9, h10, h11⟩ := h
  exact ⟨acts, v, Fr.kn h1 hf ho, Fr.below h2 hf, Fr.bx h3 hf (by omega), Fr.bx h4 hf (by omega), Fr.bx h5 hf (by omega), Fr.bx h6 hf (by omega), Fr.bx h7 hf (by omega), h8.fr hf (Nat.le_refl _) (by omega), h9, Nat.le_trans h10 hf.size, h11⟩
theorem LpX.fr {w A B : World} {ob : Nat} {c : Code} {pre : List LnX} (h : LpX w ob c pre A) (hf : Fr ob (ob + 5) A B) : LpX w ob c pre B := by
  obtain ⟨h1, h0, h2, h3, h4, h5, h6⟩ := h
  exact ⟨h1, h0, Fr.below h2 hf, Fr.bx h3 hf (by omega), Fr.bx h4 hf (by omega), Fr.bx h5 hf (by omega), h6⟩
theorem Recs.refl (b : Nat) (W : World) : Recs b W W := fun k x _ h _ => h
theorem Recs.trans {b : Nat} {A B C : World} (h : Recs b A B) (k : Recs b B C) : Recs b A C := fun q x hq h1 h2 => k q x hq (h q x hq h1 h2) h2
theorem Recs.below {b : Nat} {A B : World} (h : Below A.heap.size A B) : Recs b A B := fun q x _ h1 _ => (h.block q (Array.getElem?_eq_some_iff.1 h1).1).trans h1
theorem Recs.set_ {b : Nat} (A : World) (p : Addr) (v : Value) (hp : p.block < b) : Recs b A (A.setCell p v) := fun q x hq h1 _ => (Below.heap_setCell _ _ _ _ (by omega)).trans h1
theorem cutN_len (s : List Nat) : ∀ u : List Nat, (cutN u s).length ≤ s.length + 1 := by
  induction s with
  | nil => intro u; simp [cutN]
  | cons c s ih =>
    intro u
    rw [cutN]
    split
    · have := ih []; simp; omega
    · have := ih (u ++ [c]); simp; omega
theorem lparse_any (s : List Nat) (hm : ∀ c ∈ s, c < 256) (hn : s.length ≤ 90000) (w : World) (hK : Kn w) :
    Calls Tryd.prog 13 #[.string (str s)] w (LPaTo w s) := by
  refine (callsIn_wide (n := 6)).1 ?_
  have f1 : Fence.wide.fn 26 := trivial
  have hw0 : ∃ W0, W0 = (((((w.alloc (.cells #[.slice none 0 0] 31)).alloc (.cells #[.int .i64 0] 3)).alloc (.cells #[.int .i64 0] 27)).alloc (.cells #[.slice none 0 0] 31)).alloc (.cells #[.int .i64 0] 3)) := ⟨_, rfl⟩
  obtain ⟨W0, hW0⟩ := hw0
  have hsz : W0.heap.size = w.heap.size + 5 := by rw [hW0]; simp
  have hbw : Below w.heap.size w W0 := by
    rw [hW0]
    exact (((((Below.refl _ _).alloc (Nat.le_refl _) _).alloc (by simp) _).alloc (by simp; omega) _).alloc (by simp; omega) _).alloc (by simp; omega) _
  have k0 : Bx W0 w.heap.size 31 (.slice none 0 0) := by
    rw [hW0]; exact blk_alloc (blk_alloc (blk_alloc (blk_alloc (heap_alloc_new w _) _) _) _) _
  have k1 : Bx W0 (w.heap.size + 1) 3 (.int .i64 0) := by
    have h := heap_alloc_new (w.alloc (.cells #[.slice none 0 0] 31)) (.cells #[.int .i64 0] 3)
    simp only [World.size_alloc] at h
    rw [hW0]; exact blk_alloc (blk_alloc (blk_alloc h _) _) _
  have k2 : Bx W0 (w.heap.size + 2) 27 (.int .i64 0) := by
    have h := heap_alloc_new ((w.alloc (.cells #[.slice none 0 0] 31)).alloc (.cells #[.int .i64 0] 3)) (.cells #[.int .i64 0] 27)
    simp only [World.size_alloc] at h
    rw [hW0]; exact blk_alloc (blk_alloc h _) _
  have k3 : Bx W0 (w.heap.size + 3) 31 (.slice none 0 0) := by
    have h := heap_alloc_new (((w.alloc (.cells #[.slice none 0 0] 31)).alloc (.cells #[.int .i64 0] 3)).alloc (.cells #[.int .i64 0] 27)) (.cells #[.slice none 0 0] 31)
    simp only [World.size_alloc] at h
    rw [hW0]; exact blk_alloc h _
  have k4 : Bx W0 (w.heap.size + 4) 3 (.int .i64 0) := by
    have h := heap_alloc_new ((((w.alloc (.cells #[.slice none 0 0] 31)).alloc (.cells #[.int .i64 0] 3)).alloc (.cells #[.int .i64 0] 27)).alloc (.cells #[.slice none 0 0] 31)) (.cells #[.int .i64 0] 3)
    simp only [World.size_alloc] at h
    rw [hW0]; exact h
  have hob := hK.pos
  have hkn : Kn W0 := hK.below hbw
  have HSM := Lib.hid (split_make s W0)
  rw [hsz] at HSM
  refine callsIn_of_wp_marks Tryd.func13 rfl trivial ?_ rfl
  simp only [Tryd.ntmps13, List.size_toArray, List.length_cons, List.length_nil, Nat.reduceAdd, Nat.reduceSub, Array.replicate_succ, Array.replicate_zero, List.push_toArray, List.append_toArray, List.nil_append, List.cons_append]
  gi_wp2_with fail
  rw [← hW0]
  refine (callsIn_wide.2 HSM.out).mono ?_
  rintro en w1 ⟨rfl, hx1, hx2, hx3, hb1, hz1⟩
  have K0 : Bx w1 w.heap.size 31 (.slice none 0 0) := k0.keep (hb1.block _ (by omega))
  have K1 : Bx w1 (w.heap.size + 1) 3 (.int .i64 0) := k1.keep (hb1.block _ (by omega))
  have K2 : Bx w1 (w.heap.size + 2) 27 (.int .i64 0) := k2.keep (hb1.block _ (by omega))
  have K3 : Bx w1 (w.heap.size + 3) 31 (.slice none 0 0) := k3.keep (hb1.block _ (by omega))
  have K4 : Bx w1 (w.heap.size + 4) 3 (.int .i64 0) := k4.keep (hb1.block _ (by omega))
  have hbw1 : Below w.heap.size w w1 := hbw.trans (hb1.mono (by omega))
  have hkn1 : Kn w1 := hkn.drop hb1 (by omega)
  clear hW0 k0 k1 k2 k3 k4 hkn HSM
  have hsz1 : w1.heap.size = w.heap.size + 8 := by omega
  generalize hobg : w.heap.size = ob at *
  have hst := split_seq 5 (by omega) (ob + 5) s hm (by omega) w1 hx1 hx2 hx3
  gi_wp2
  refine range_turns rfl (by omega) (gf := 58) (lb := #[.pointer (some ⟨ob + 5 + 1, 0, none⟩), .pointer (some ⟨ob + 5, 0, none⟩), .pointer (some ⟨ob + 5 + 2, 0, none⟩)]) rfl trivial (enters_of Tryd.func58 (by kernel_rfl) rfl)
    hst (o := ob) (by omega) (by omega) (fun h k q h1 h2 => (k q h1 h2).trans (h q h1 h2)) (fun W l x y hl _ _ q h1 h2 => World.putObj_heap_other (by omega)) (fun _ => rfl)
    (LpI w ob) (LpX w ob) (fun _ _ _ h hf => h.fr hf hob) (fun _ _ _ _ h hf => h.fr hf)
    ⟨[], (.slice none 0 0), hkn1, hbw1, K0, K1, K2, K3, K4, AcO.nil _ _ _ _, Nat.zero_le _, by omega, fun rest => rfl⟩ (fun x : LnX => { tmps := #[.string (str s), undef, .pointer (some ⟨ob, 0, none⟩), .pointer (some ⟨ob + 1, 0, none⟩), .pointer (some ⟨ob + 1 + 1, 0, none⟩), .pointer (some ⟨ob + 1 + 1 + 1, 0, none⟩), .pointer (some ⟨ob + 1 + 1 + 1 + 1, 0, none⟩), .string (str x.1), undef, undef, undef, .string (str s), .func (Fn.func 58) #[] #[.pointer (some ⟨ob + 5 + 1, 0, none⟩), .pointer (some ⟨ob + 5, 0, none⟩), .pointer (some ⟨ob + 5 + 2, 0, none⟩)], .string (str x.1), undef, undef, undef, undef, undef, undef, undef, undef, undef, undef, undef, undef, undef, undef, undef, undef, undef, undef, undef, undef], defers := [] }) ?assign ?body ?done ?stop
  case assign =>
    rintro l x W K hK
    gi_wp2
    exact hK
  case body =>
    rintro l pre x W hsW ⟨acts, v, h1, h2, h3, h4, h5, h6, h7, h8, h9, h10, h11⟩ hlt
    have hx8 := x.2
    have HWO := Lib.hid (fun W => wordsOf_any x.1 hx8.1 hx8.2 W)
    have hN : (linesL s).length ≤ s.length + 1 := cutN_len s []
    have hpl : pre.length ≤ 90000 := by omega
    have f2 : (Fence.wide.inRound l).fn 27 := trivial
    have f3 : (Fence.wide.inRound l).fn 28 := trivial
    have f4 : (Fence.wide.inRound l).fn 29 := trivial
    have c4 : W.cell? ⟨ob + 1 + 1 + 1 + 1, 0, none⟩ = some (.int .i64 (pre.length : Int)) := h7.cell
    have fz4 : W.frozen? ⟨ob + 1 + 1 + 1 + 1, 0, none⟩ = false := blk_free h7 0
    have hw64 : IntKind.i64.wrap ((pre.length : Int) + 1) = (pre.length : Int) + 1 := IntWalk.i64_in _ (by omega)
    obtain ⟨W1, hW1⟩ : ∃ W1, W1 = W.setCell ⟨ob + 1 + 1 + 1 + 1, 0, none⟩ (.int .i64 ((pre.length : Int) + 1)) := ⟨_, rfl⟩
    have e5 : (pre ++ [x]).length = pre.length + 1 := by simp
    have n0 : Bx W1 ob 31 (.slice none 0 0) := by rw [hW1]; exact h3.keep (Below.heap_setCell _ _ _ _ (by show ob ≠ ob + 1 + 1 + 1 + 1; omega))
    have n1 : Bx W1 (ob + 1) 3 (.int .i64 0) := by rw [hW1]; exact h4.keep (Below.heap_setCell _ _ _ _ (by show ob + 1 ≠ ob + 1 + 1 + 1 + 1; omega))
    have n2 : Bx W1 (ob + 2) 27 (.int .i64 0) := by rw [hW1]; exact h5.keep (Below.heap_setCell _ _ _ _ (by show ob + 2 ≠ ob + 1 + 1 + 1 + 1; omega))
    have n3 : Bx W1 (ob + 3) 31 v := by rw [hW1]; exact h6.keep (Below.heap_setCell _ _ _ _ (by show ob + 3 ≠ ob + 1 + 1 + 1 + 1; omega))
    have n4 : Bx W1 (ob + 4) 3 (.int .i64 ((pre.length : Int) + 1)) := by rw [hW1]; exact h7.put _
    have n5 : AcO 30 W1 ob (ob + 8) v acts := by rw [hW1]; exact h8.set _ (by show ob ≤ ob + 1 + 1 + 1 + 1; omega) (by show ob + 1 + 1 + 1 + 1 < ob + 8; omega) h10 _
    have n6 : Below ob w W1 := by rw [hW1]; exact h2.setCell (by show ob ≤ ob + 1 + 1 + 1 + 1; omega) _
    have n7 : Kn W1 := h1.drop (B := ob) (by rw [hW1]; exact (Below.refl ob W).setCell (by show ob ≤ ob + 1 + 1 + 1 + 1; omega) _) hob
    have n8 : ob + 8 ≤ W1.heap.size := by rw [hW1, size_set]; exact h10
    have n9 : Recs w1.heap.size W W1 := by rw [hW1]; exact Recs.set_ _ _ _ (by show ob + 1 + 1 + 1 + 1 < w1.heap.size; omega)
    have n10 : Kp3 (ob + 5) W W1 := by rw [hW1]; exact fun q q1 q2 => Below.heap_setCell _ _ _ _ (by show q ≠ ob + 1 + 1 + 1 + 1; omega)
    have N0 := Lib.hid n0
    have N1 := Lib.hid n1
    have N2 := Lib.hid n2
    have N3 := Lib.hid n3
    have N4 := Lib.hid n4
    have N5 := Lib.hid n5
    have N6 := Lib.hid n6
    have N7 := Lib.hid n7
    have N8 := Lib.hid n8
    have N9 := Lib.hid n9
    have N10 := Lib.hid n10
    have HG := Lib.hid h11
    have HAL := Lib.hid h9
    have HX := Lib.hid hx8
    have HSZ1 := Lib.hid hsz1
    have HE5 := Lib.hid e5
    have HPL := Lib.hid hpl
    have HW1 := Lib.hid hW1
    have HOB := Lib.hid hob
    have HOBG := Lib.hid hobg
    clear h1 h2 h3 h4 h5 h6 h7 h8 h9 h10 h11 n0 n1 n2 n3 n4 n5 n6 n7 n8 n9 n10 hx8 hN hW1 e5 hlt hst hx1 hx2 hx3 hb1 hz1 K0 K1 K2 K3 K4 hbw1 hkn1 hbw hsz hK hsz1 hobg hsW
    refine wpIn_block ?_
    gi_wp2_with fail
    refine ⟨trivial, ?_⟩
    rw [← HW1.out]
    refine ((callsIn_wide.2 (HWO.out W1)).inRound l).mono ?_
    rintro e w2 ⟨g, rfl, hg, hwd, hb2⟩
    have HGE := Lib.hid hg
    have HWD := Lib.hid hwd
    have HB2 := Lib.hid hb2
    have HNO := Lib.hid (none31_any g (wordsL x.1) w2 hwd)
    clear hg hwd hb2 c4 fz4
    gi_wp2_with fail
    refine ⟨trivial, ?_⟩
    refine ((callsIn_wide.2 HNO.out).inRound l).mono ?_
    rintro e w3 ⟨rfl, rfl⟩
    have HFR2 : Hid (∀ W', Below W1.heap.size W1 W' → Recs w1.heap.size W W' ∧ Kp3 (ob + 5) W W' ∧ Bx W' ob 31 (.slice none 0 0) ∧ Bx W' (ob + 1) 3 (.int .i64 0) ∧ Bx W' (ob + 2) 27 (.int .i64 0) ∧ Bx W' (ob + 3) 31 v ∧ Bx W' (ob + 4) 3 (.int .i64 ((pre.length : Int) + 1)) ∧ AcO 30 W' ob (ob + 8) v acts ∧ Below ob w W' ∧ Kn W' ∧ ob + 8 ≤ W'.heap.size) := Lib.hid (fun W' hb => by
      have hs := N8.out
      exact ⟨N9.out.trans (Recs.below hb), fun q q1 q2 => (hb.block q (by omega)).trans (N10.out q q1 q2), N0.out.keep (hb.block _ (by omega)), N1.out.keep (hb.block _ (by omega)), N2.out.keep (hb.block _ (by omega)), N3.out.keep (hb.block _ (by omega)), N4.out.keep (hb.block _ (by omega)), N5.out.below (by omega) hs hb, N6.out.trans (hb.mono (by omega)), N7.out.below hb, Nat.le_trans hs hb.size⟩)
    by_cases hws : wordsL x.1 = []
    · have HQ : Hid (roundQ w1.heap.size (Kp3 (ob + 5)) (LpI w ob) (LpX w ob) (pre ++ [x]) W .normal ⟨#[], []⟩ w2) := Lib.hid (by
        obtain ⟨r1, r2, r3, r4, r5, r6, r7, r8, r9, r10, r11⟩ := HFR2.out w2 HB2.out
        exact ⟨r1, r2, acts, v, r10, r9, r3, r4, r5, r6, by rw [HE5.out]; exact r7, r8, by rw [HE5.out]; have := HAL.out; omega, r11, HG.out.skip hws⟩)
      rw [decide_eq_true hws]
      clear hws
      gi_wp2_with fail
      exact HQ.out
    · rw [decide_eq_false hws]
      have HWS := Lib.hid hws
      have hgp : 0 < g := by have := HGE.out; have := N8.out; omega
      have HRD := Lib.hid (read31_any g (wordsL x.1) w2 HWD.out (HFR2.out w2 HB2.out).2.2.2.2.2.2.2.2.2.1 hgp)
      clear hws
      gi_wp2_with fail
      refine ⟨trivial, ?_⟩
      refine ((callsIn_wide.2 HRD.out).inRound l).mono ?_
      rintro e w4 ⟨a, A, c, ok, rfl, ht, ho, hby, hact⟩
      have HB4 : Hid (Below W1.heap.size W1 w4) := Lib.hid (HB2.out.trans (ht.below HB2.out.size (fun j e => by rw [e]; exact HGE.out)))
      have HO4 := Lib.hid (ho.base (show ob + 8 ≤ w2.heap.size by have := N8.out; have := HB2.out.size; omega))
      have HBY := Lib.hid hby
      have HACT := Lib.hid hact
      clear ht ho hby hact
      obtain ⟨kk, yy, z1, z2, z3, z4, bb⟩ := a
      obtain ⟨bn, hbn⟩ : ∃ bn, bn = bb.length := ⟨_, rfl⟩
      have HBN := Lib.hid hbn
      simp only [← hbn]
      have HX5 : Hid ((w4.alloc (.cells #[.int .i64 kk, .bool yy, .int .i64 z1, .int .i64 z2, .int .i64 z3, .int .i64 z4, .slice A bn c] 30)).heap[w4.heap.size]? = some (.cells #[.int .i64 kk, .bool yy, .int .i64 z1, .int .i64 z2, .int .i64 z3, .int .i64 z4, .slice A bn c] 30 (0, 0))) := Lib.hid (heap_alloc_new w4 _)
      have HB5 : Hid (Below W1.heap.size W1 (w4.alloc (.cells #[.int .i64 kk, .bool yy, .int .i64 z1, .int .i64 z2, .int .i64 z3, .int .i64 z4, .slice A bn c] 30))) := Lib.hid (HB4.out.alloc HB4.out.size _)
      have HO5 : Hid (Own (w4.alloc (.cells #[.int .i64 kk, .bool yy, .int .i64 z1, .int .i64 z2, .int .i64 z3, .int .i64 z4, .slice A bn c] 30)) (ob + 8) (.slice A bn c) bb) := Lib.hid (by rw [hbn]; exact HO4.out.below ((Below.refl _ _).alloc (Nat.le_refl _) _))
      clear hbn
      cases ok with
      | false =>
        have hb5d : Below W1.heap.size W1 (w4.alloc (.cells #[.int .i64 kk, .bool yy, .int .i64 z1, .int .i64 z2, .int .i64 z3, .int .i64 z4, .slice A bn c] 30)).drew := HB5.out.drew
        obtain ⟨r1, r2, r3, r4, r5, r6, r7, r8, r9, r10, r11⟩ := HFR2.out _ hb5d
        have hS0 : (w4.alloc (.cells #[.int .i64 kk, .bool yy, .int .i64 z1, .int .i64 z2, .int .i64 z3, .int .i64 z4, .slice A bn c] 30)).drew.cell? ⟨ob + 1 + 1 + 1 + 1, 0, none⟩ = some (.int .i64 ((pre.length : Int) + 1)) := r7.cell
        have HR3 := Lib.hid r3
        have HR4 := Lib.hid r4
        have HR5 := Lib.hid r5
        have HR7 := Lib.hid r7
        have HR1 := Lib.hid r1
        have HR9 := Lib.hid r9
        clear r1 r2 r3 r4 r5 r6 r7 r8 r9 r10 r11 hb5d HX5 HB5 HO5
        gi_wp2_with fail
        refine region_round_held (S := fun W' => W'.cell? ⟨ob + 1 + 1 + 1 + 1, 0, none⟩ = some (.int .i64 ((pre.length : Int) + 1))) (by kernel_rfl) (by intro o ho c; simp at ho; rcases ho with rfl | rfl | rfl | rfl <;> intro h <;> cases h) (fun _ _ h => h) hS0 (fun hHeld => ?_)
        generalize (w4.alloc (.cells #[.int .i64 kk, .bool yy, .int .i64 z1, .int .i64 z2, .int .i64 z3, .int .i64 z4, .slice A bn c] 30)).drew = W5 at *
        obtain ⟨A1, hA1⟩ : ∃ A1, A1 = W5.setCell ⟨ob, 0, none⟩ (.slice none 0 0) := ⟨_, rfl⟩
        obtain ⟨A2, hA2⟩ : ∃ A2, A2 = A1.setCell ⟨ob + 1, 0, none⟩ (.int .i64 ((pre.length : Int) + 1)) := ⟨_, rfl⟩
        obtain ⟨A3, hA3⟩ : ∃ A3, A3 = A2.setCell ⟨ob + 1 + 1, 0, none⟩ (.int .i64 4) := ⟨_, rfl⟩
        have HA1 := Lib.hid hA1
        have HA2 := Lib.hid hA2
        have HA3 := Lib.hid hA3
        have B10 : Hid (Bx A1 ob 31 (.slice none 0 0)) := Lib.hid (by rw [hA1]; exact HR3.out.put _)
        have B11 : Hid (Bx A1 (ob + 1) 3 (.int .i64 0)) := Lib.hid (by rw [hA1]; exact HR4.out.keep (Below.heap_setCell _ _ _ _ (by show ob + 1 ≠ ob; omega)))
        have B12 : Hid (Bx A1 (ob + 2) 27 (.int .i64 0)) := Lib.hid (by rw [hA1]; exact HR5.out.keep (Below.heap_setCell _ _ _ _ (by show ob + 2 ≠ ob; omega)))
        have B17 : Hid (Bx A1 (ob + 4) 3 (.int .i64 ((pre.length : Int) + 1))) := Lib.hid (by rw [hA1]; exact HR7.out.keep (Below.heap_setCell _ _ _ _ (by show ob + 4 ≠ ob; omega)))
        have B20 : Hid (Bx A2 ob 31 (.slice none 0 0)) := Lib.hid (by rw [hA2]; exact B10.out.keep (Below.heap_setCell _ _ _ _ (by show ob ≠ ob + 1; omega)))
        have B21 : Hid (Bx A2 (ob + 1) 3 (.int .i64 ((pre.length : Int) + 1))) := Lib.hid (by rw [hA2]; exact B11.out.put _)
        have B22 : Hid (Bx A2 (ob + 2) 27 (.int .i64 0)) := Lib.hid (by rw [hA2]; exact B12.out.keep (Below.heap_setCell _ _ _ _ (by show ob + 2 ≠ ob + 1; omega)))
        have B27 : Hid (Bx A2 (ob + 4) 3 (.int .i64 ((pre.length : Int) + 1))) := Lib.hid (by rw [hA2]; exact B17.out.keep (Below.heap_setCell _ _ _ _ (by show ob + 4 ≠ ob + 1; omega)))
        have B30 : Hid (Bx A3 ob 31 (.slice none 0 0)) := Lib.hid (by rw [hA3]; exact B20.out.keep (Below.heap_setCell _ _ _ _ (by show ob ≠ ob + 1 + 1; omega)))
        have B31 : Hid (Bx A3 (ob + 1) 3 (.int .i64 ((pre.length : Int) + 1))) := Lib.hid (by rw [hA3]; exact B21.out.keep (Below.heap_setCell _ _ _ _ (by show ob + 1 ≠ ob + 1 + 1; omega)))
        have B32 : Hid (Bx A3 (ob + 2) 27 (.int .i64 4)) := Lib.hid (by rw [hA3]; exact B22.out.put _)
        have B37 : Hid (Bx A3 (ob + 4) 3 (.int .i64 ((pre.length : Int) + 1))) := Lib.hid (by rw [hA3]; exact B27.out.keep (Below.heap_setCell _ _ _ _ (by show ob + 4 ≠ ob + 1 + 1; omega)))
        have HQ : Hid (Recs w1.heap.size W A3 ∧ LpX w ob .ret (pre ++ [x]) A3) := Lib.hid ⟨by
          rw [hA3, hA2, hA1]
          exact ((HR1.out.trans (Recs.set_ _ _ _ (by show ob < _; rw [HSZ1.out]; omega)))).trans ((Recs.set_ _ _ _ (by show ob + 1 < _; rw [HSZ1.out]; omega)).trans (Recs.set_ _ _ _ (by show ob + 1 + 1 < _; rw [HSZ1.out]; omega))), rfl, by rw [HE5.out]; omega, by
          rw [hA3, hA2, hA1]
          exact ((HR9.out.setCell (by show ob ≤ ob; omega) _).setCell (by show ob ≤ ob + 1; omega) _).setCell (by show ob ≤ ob + 1 + 1; omega) _, B30.out, by rw [HE5.out]; exact B31.out, B32.out, fun rest => by
          rw [HE5.out]
          exact HG.out.bad HWS.out (by rw [HACT.out]; rfl) rest⟩
        clear hA1 hA2 hA3
        refine wpAnyH_take (i := 0) (oi := _) (v := ?_) rfl (by kernel_rfl) (by kernel_rfl) (by kernel_rfl) (fun _ _ _ h => h) (Or.inl ⟨by rfl, ?_⟩) (by assumption) ?_
        rotate_left 1
        · intro w hSw
          (try dsimp only at hSw)
          (first | (go_simp; done) | (go_simp; with_reducible rfl))
        (try simp only [Act.put, List.getElem_toArray, List.getElem_cons_succ, List.getElem_cons_zero, List.setIfInBounds_toArray, List.set_cons_zero, List.set_cons_succ])
        refine wpAnyH_ready (rs := [1]) (by kernel_rfl) (by simp) ?_
        refine AllReadyH.cons (o := _) rfl (fun K hK => ?_) AllReadyH.nil
        have cq : W5.cell? ⟨ob, 0, none⟩ = some _ := HR3.out.cell
        have fq : W5.frozen? ⟨ob, 0, none⟩ = false := blk_free HR3.out 0
        go_simp
        rw [← HA1.out]
        refine hK.out _ _ (B17.out.cell) (fun hHeld1 => ?_)
        clear hK K cq fq
        (try simp only [Act.put, List.getElem_toArray, List.getElem_cons_succ, List.getElem_cons_zero, List.setIfInBounds_toArray, List.set_cons_zero, List.set_cons_succ])
        refine wpAnyH_ready (rs := [2]) (by kernel_rfl) (by simp) ?_
        refine AllReadyH.cons (o := _) rfl (fun K hK => ?_) AllReadyH.nil
        have cq : A1.cell? ⟨ob + 1, 0, none⟩ = some _ := B11.out.cell
        have fq : A1.frozen? ⟨ob + 1, 0, none⟩ = false := blk_free B11.out 0
        go_simp
        rw [← HA2.out]
        refine hK.out _ _ (B27.out.cell) (fun hHeld2 => ?_)
        clear hK K cq fq
        (try simp only [Act.put, List.getElem_toArray, List.getElem_cons_succ, List.getElem_cons_zero, List.setIfInBounds_toArray, List.set_cons_zero, List.set_cons_succ])
        refine wpAnyH_ready (rs := [3]) (by kernel_rfl) (by simp) ?_
        refine AllReadyH.cons (o := _) rfl (fun K hK => ?_) AllReadyH.nil
        have cq : A2.cell? ⟨ob + 1 + 1, 0, none⟩ = some _ := B22.out.cell
        have fq : A2.frozen? ⟨ob + 1 + 1, 0, none⟩ = false := blk_free B22.out 0
        go_simp
        rw [← HA3.out]
        refine hK.out _ _ (B37.out.cell) (fun hHeld3 => ?_)
        clear hK K cq fq
        (try simp only [Act.put, List.getElem_toArray, List.getElem_cons_succ, List.getElem_cons_zero, List.setIfInBounds_toArray, List.set_cons_zero, List.set_cons_succ])
        refine wpAnyH_done (by kernel_rfl) ?_ _
        gi_wp2_with fail
        exact HQ.out
      | true =>
        obtain ⟨r1, r2, r3, r4, r5, r6, r7, r8, r9, r10, r11⟩ := HFR2.out _ HB5.out
        have q0 := blk_cell HX5.out 0
        have q1 := blk_cell HX5.out 1
        have q2 := blk_cell HX5.out 2
        have q3 := blk_cell HX5.out 3
        have q4 := blk_cell HX5.out 4
        have q5 := blk_cell HX5.out 5
        have q6 := blk_cell HX5.out 6
        obtain ⟨Av, cv, hv, av1, av2, av3, av4⟩ := r8.acV (by omega) (by have := r11; omega)
        subst hv
        clear av1 av2 av3 av4
        obtain ⟨an, han⟩ : ∃ an, acts.length = an := ⟨_, rfl⟩
        have HAN := Lib.hid han
        rw [han] at r6 r8
        have c3 : (w4.alloc (.cells #[.int .i64 kk, .bool yy, .int .i64 z1, .int .i64 z2, .int .i64 z3, .int .i64 z4, .slice A bn c] 30)).cell? ⟨ob + 1 + 1 + 1, 0, none⟩ = some (.slice Av an cv) := r6.cell
        have HR3 := Lib.hid r3
        have HR4 := Lib.hid r4
        have HR5 := Lib.hid r5
        have HR6 := Lib.hid r6
        have HR7 := Lib.hid r7
        have HR8 := Lib.hid r8
        have HR9 := Lib.hid r9
        have HR10 := Lib.hid r10
        have HR11 := Lib.hid r11
        have HR1 := Lib.hid r1
        have HR2 := Lib.hid r2
        have HTL : Hid (acts.length < 100000) := Lib.hid (by have := HAL.out; have := HPL.out; omega)
        have HEN : Hid (EnI (w4.alloc (.cells #[.int .i64 kk, .bool yy, .int .i64 z1, .int .i64 z2, .int .i64 z3, .int .i64 z4, .slice A bn c] 30)) ob (ob + 8) A c bb) := Lib.hid ⟨.inr ⟨by have := HO5.out; rw [HBN.out] at this; rw [HBN.out]; exact this, HBY.out⟩, own_zero HO5.out⟩
        clear r1 r2 r3 r4 r5 r6 r7 r8 r9 r10 r11 han
        gi_upto_region 11 with fail
        generalize hW5 : (w4.alloc (.cells #[.int .i64 kk, .bool yy, .int .i64 z1, .int .i64 z2, .int .i64 z3, .int .i64 z4, .slice A bn c] 30)) = W5 at *
        refine region_round (by intro o ho c; simp at ho; rcases ho with rfl | rfl | rfl | rfl | rfl <;> intro h <;> cases h) (fun _ _ h => h) ?_
        go_wp2_with (at_builtin; refine wp_appA 30 31 Tryd.underlying31 (by kernel_rfl) (by decide) _ rfl (.tmp 29) (.tmp 31) rfl ob (ob + 8) (by omega) (.slice Av an cv) acts kk z1 z2 z3 z4 yy bb A c bn HBN.out.symm rfl HR8.out HTL.out rfl HEN.out HR11.out ?_; intro v9 w9 ho9 hd9 hf9; have HB9 := Lib.hid hd9; obtain ⟨A9, c9, hv9, y1, y2, y3, y4⟩ := ho9.acV (by omega) (by have := HR11.out; have := hd9.size; omega); subst hv9; have HO9 := Lib.hid ho9; have HF9 := Lib.hid hf9; have hbx : Bx w9 (ob + 3) 31 (.slice Av an cv) := HR6.out.keep (hd9.block _ (by omega)); have cq : w9.cell? ⟨ob + 1 + 1 + 1, 0, none⟩ = some (.slice Av an cv) := hbx.cell; have fq : w9.frozen? ⟨ob + 1 + 1 + 1, 0, none⟩ = false := blk_free hbx 0; have HBX := Lib.hid hbx; clear ho9 hd9 hf9 hbx y1 y2 y3 y4; obtain ⟨a9, ha9⟩ : ∃ a9, a9 = (acts ++ [(⟨kk, yy, z1, z2, z3, z4, bb⟩ : Ac)]).length := ⟨_, rfl⟩; rw [← ha9] at HO9 ⊢; have HA9 := Lib.hid ha9; clear ha9)
        have HQ : Hid (roundQ w1.heap.size (Kp3 (ob + 5)) (LpI w ob) (LpX w ob) (pre ++ [x]) W .normal ⟨#[], []⟩ (w9.setCell ⟨ob + 1 + 1 + 1, 0, none⟩ (.slice A9 a9 c9))) := Lib.hid (by
          have hd := HB9.out
          have hq := HR11.out
          refine ⟨(HR1.out.trans (fun k y hk h1 h2 => ?_)).trans (Recs.set_ _ _ _ (by show ob + 1 + 1 + 1 < _; rw [HSZ1.out]; omega)), fun q q1 q2 => ?_, acts ++ [⟨kk, yy, z1, z2, z3, z4, bb⟩], .slice A9 a9 c9, ?_, ?_, ?_, ?_, ?_, ?_, ?_, ?_, ?_, ?_, ?_⟩
          · have hk2 := (Array.getElem?_eq_some_iff.1 h1).1
            rw [HF9.out k hk2 (fun e => ?_)]
            · exact h1
            · obtain ⟨vs, hvs, _⟩ := HR8.out
              obtain ⟨cs, hcs⟩ := own_rows hvs k e
              rw [h1] at hcs
              injection hcs with hcs
              subst hcs
              cases h2
          · exact (Below.heap_setCell _ _ _ _ (by show q ≠ ob + 1 + 1 + 1; omega)).trans ((hd.block q (by omega)).trans (HR2.out q q1 q2))
          · exact (HR10.out.drop hd (by omega)).drop (B := ob) ((Below.refl ob w9).setCell (by show ob ≤ ob + 1 + 1 + 1; omega) _) HOB.out
          · exact (HR9.out.trans (hd.mono (by omega))).setCell (by show ob ≤ ob + 1 + 1 + 1; omega) _
          · exact (HR3.out.keep (hd.block _ (by omega))).keep (Below.heap_setCell _ _ _ _ (by show ob ≠ ob + 1 + 1 + 1; omega))
          · exact (HR4.out.keep (hd.block _ (by omega))).keep (Below.heap_setCell _ _ _ _ (by show ob + 1 ≠ ob + 1 + 1 + 1; omega))
          · exact (HR5.out.keep (hd.block _ (by omega))).keep (Below.heap_setCell _ _ _ _ (by show ob + 2 ≠ ob + 1 + 1 + 1; omega))
          · exact HBX.out.put _
          · rw [HE5.out]
            exact (HR7.out.keep (hd.block _ (by omega))).keep (Below.heap_setCell _ _ _ _ (by show ob + 4 ≠ ob + 1 + 1 + 1; omega))
          · exact HO9.out.set _ (by show ob ≤ ob + 1 + 1 + 1; omega) (by show ob + 1 + 1 + 1 < ob + 8; omega) (Nat.le_trans hq hd.size) _
          · rw [HE5.out, List.length_append]; have := HAL.out; simp; omega
          · rw [size_set]; exact Nat.le_trans hq hd.size
          · exact HG.out.act HWS.out (by rw [HACT.out]; rfl))
        exact HQ.out
  case done =>
    rintro D xs W hD hS ⟨acts, v, h1, h2, h3, h4, h5, h6, h7, h8, h9, h10, h11⟩ hK
    obtain ⟨Av, cv, hv, av1, av2, av3, av4⟩ := h8.acV (by omega) h10
    subst hv
    clear av1 av2 av3 av4
    obtain ⟨an, han⟩ : ∃ an, acts.length = an := ⟨_, rfl⟩
    rw [han] at h6 h8
    have hp : parseT s = (acts, 0) := by
      have := h11 []
      rw [hS, List.append_nil] at this
      exact this
    have c3 : W.cell? ⟨ob + 1 + 1 + 1, 0, none⟩ = some (.slice Av an cv) := h6.cell
    have c0 : W.cell? ⟨ob, 0, none⟩ = some (.slice none 0 0) := h3.cell
    have f0 : W.frozen? ⟨ob, 0, none⟩ = false := blk_free h3 0
    obtain ⟨A1, hA1⟩ : ∃ A1, A1 = W.setCell ⟨ob, 0, none⟩ (.slice Av an cv) := ⟨_, rfl⟩
    have b11 : Bx A1 (ob + 1) 3 (.int .i64 0) := by rw [hA1]; exact h4.keep (Below.heap_setCell _ _ _ _ (by show ob + 1 ≠ ob; omega))
    have b12 : Bx A1 (ob + 2) 27 (.int .i64 0) := by rw [hA1]; exact h5.keep (Below.heap_setCell _ _ _ _ (by show ob + 2 ≠ ob; omega))
    have b10 : Bx A1 ob 31 (.slice Av an cv) := by rw [hA1]; exact h3.put _
    have d1 : A1.heap[D]? = some (.deferred (some [])) := by rw [hA1]; exact (Below.heap_setCell _ _ _ _ (by show D ≠ ob; omega)).trans hK
    have o1 : AcO 30 A1 ob (ob + 8) (.slice Av an cv) acts := by rw [hA1]; exact h8.set _ (by show ob ≤ ob; omega) (by show ob < ob + 8; omega) h10 _
    have l1 : Below ob w A1 := by rw [hA1]; exact h2.setCell (by show ob ≤ ob; omega) _
    have z1 : A1.heap.size = W.heap.size := by rw [hA1]; exact size_set _ _ _
    obtain ⟨A2, hA2⟩ : ∃ A2, A2 = A1.setCell ⟨ob + 1, 0, none⟩ (.int .i64 0) := ⟨_, rfl⟩
    have b21 : Bx A2 (ob + 1) 3 (.int .i64 0) := by rw [hA2]; exact b11.put _
    have b22 : Bx A2 (ob + 2) 27 (.int .i64 0) := by rw [hA2]; exact b12.keep (Below.heap_setCell _ _ _ _ (by show ob + 2 ≠ ob + 1; omega))
    have b20 : Bx A2 ob 31 (.slice Av an cv) := by rw [hA2]; exact b10.keep (Below.heap_setCell _ _ _ _ (by show ob ≠ ob + 1; omega))
    have d2 : A2.heap[D]? = some (.deferred (some [])) := by rw [hA2]; exact (Below.heap_setCell _ _ _ _ (by show D ≠ ob + 1; omega)).trans d1
    have o2 : AcO 30 A2 ob (ob + 8) (.slice Av an cv) acts := by rw [hA2]; exact o1.set _ (by show ob ≤ ob + 1; omega) (by show ob + 1 < ob + 8; omega) (by omega) _
    have l2 : Below ob w A2 := by rw [hA2]; exact l1.setCell (by show ob ≤ ob + 1; omega) _
    have z2 : A2.heap.size = W.heap.size := by rw [hA2, size_set]; exact z1
    obtain ⟨A3, hA3⟩ : ∃ A3, A3 = A2.setCell ⟨ob + 1 + 1, 0, none⟩ (.int .i64 0) := ⟨_, rfl⟩
    have b31 : Bx A3 (ob + 1) 3 (.int .i64 0) := by rw [hA3]; exact b21.keep (Below.heap_setCell _ _ _ _ (by show ob + 1 ≠ ob + 1 + 1; omega))
    have b32 : Bx A3 (ob + 2) 27 (.int .i64 0) := by rw [hA3]; exact b22.put _
    have b30 : Bx A3 ob 31 (.slice Av an cv) := by rw [hA3]; exact b20.keep (Below.heap_setCell _ _ _ _ (by show ob ≠ ob + 1 + 1; omega))
    have d3 : A3.heap[D]? = some (.deferred (some [])) := by rw [hA3]; exact (Below.heap_setCell _ _ _ _ (by show D ≠ ob + 1 + 1; omega)).trans d2
    have o3 : AcO 30 A3 ob (ob + 8) (.slice Av an cv) acts := by rw [hA3]; exact o2.set _ (by show ob ≤ ob + 1 + 1; omega) (by show ob + 1 + 1 < ob + 8; omega) (by omega) _
    have l3 : Below ob w A3 := by rw [hA3]; exact l2.setCell (by show ob ≤ ob + 1 + 1; omega) _
    have z3 : A3.heap.size = W.heap.size := by rw [hA3, size_set]; exact z2
    have hfr : Fr ob (ob + 5) A3 (A3.putObj D (.deferred none)) := Fr.put (by omega) d3 rfl
    have e1 : A1.cell? ⟨ob + 1, 0, none⟩ = some (.int .i64 0) := b11.cell
    have g1 : A1.frozen? ⟨ob + 1, 0, none⟩ = false := blk_free b11 0
    have e2 : A2.cell? ⟨ob + 1 + 1, 0, none⟩ = some (.int .i64 0) := b22.cell
    have g2 : A2.frozen? ⟨ob + 1 + 1, 0, none⟩ = false := blk_free b22 0
    rw [hA1] at e1 g1
    rw [hA2, hA1] at e2 g2
    have r0 : (A3.putObj D (.deferred none)).cell? ⟨ob, 0, none⟩ = some (.slice Av an cv) := (Fr.bx b30 hfr (by omega)).cell
    have r1 : (A3.putObj D (.deferred none)).cell? ⟨ob + 1, 0, none⟩ = some (.int .i64 0) := (Fr.bx b31 hfr (by omega)).cell
    have r2 : (A3.putObj D (.deferred none)).cell? ⟨ob + 1 + 1, 0, none⟩ = some (.int .i64 0) := (Fr.bx b32 hfr (by omega)).cell
    have HFIN : Hid (LPaTo w s (.returned (.tuple #[.slice Av an cv, .int .i64 0, .int .i64 0])) (A3.putObj D (.deferred none))) := Lib.hid ⟨.slice Av an cv, acts, 0, 0, rfl, by rw [hobg]; exact Fr.below l3 hfr, by rw [hobg]; exact (o3.fr hfr (Nat.le_refl _) (by omega)).lower (by omega), hp, fun _ => rfl, fun h => absurd rfl h⟩
    have HD3 := Lib.hid d3
    have HA1 := Lib.hid hA1
    have HA2 := Lib.hid hA2
    have HA3 := Lib.hid hA3
    have R0 := Lib.hid r0
    have R1 := Lib.hid r1
    have R2 := Lib.hid r2
    clear h1 h2 h3 h4 h5 h6 h7 h8 h9 h10 h11 b10 b11 b12 b20 b21 b22 b30 b31 b32 d1 d2 d3 o1 o2 o3 l1 l2 l3 z1 z2 z3 hfr hA1 hA2 hA3 r0 r1 r2 hst hS han hp
    gi_wp2
    rw [← HA1.out, ← HA2.out, ← HA3.out]
    refine ⟨by simp, .inl ⟨_, _, rfl, run_takeDeferred HD3.out, ?_⟩⟩
    have r0 := R0.out
    have r1 := R1.out
    have r2 := R2.out
    refine ⟨_, ?_, HFIN.out⟩
    simp [results, Tryd.f13, go_sem, r0, r1, r2]
  case stop =>
    rintro D c pre W hD ⟨r, hr⟩ ⟨rfl, h0, h2, h3, h4, h5, h6⟩ hK
    have hp : parseT s = ([], pre.length) := by
      have := h6 r
      rw [← hr] at this
      exact this
    have hfr : Fr ob (ob + 5) W (W.putObj D (.deferred none)) := Fr.put (by omega) hK rfl
    have r0 : (W.putObj D (.deferred none)).cell? ⟨ob, 0, none⟩ = some (.slice none 0 0) := (Fr.bx h3 hfr (by omega)).cell
    have r1 : (W.putObj D (.deferred none)).cell? ⟨ob + 1, 0, none⟩ = some (.int .i64 (pre.length : Int)) := (Fr.bx h4 hfr (by omega)).cell
    have r2 : (W.putObj D (.deferred none)).cell? ⟨ob + 1 + 1, 0, none⟩ = some (.int .i64 4) := (Fr.bx h5 hfr (by omega)).cell
    have HFIN : Hid (LPaTo w s (.returned (.tuple #[(.slice none 0 0), .int .i64 (pre.length : Int), .int .i64 4])) (W.putObj D (.deferred none))) := Lib.hid ⟨(.slice none 0 0), [], pre.length, 4, rfl, by rw [hobg]; exact Fr.below h2 hfr, AcO.nil _ _ _ _, hp, fun h => by omega, fun _ => ⟨rfl, rfl⟩⟩
    have HD3 := Lib.hid hK
    have R0 := Lib.hid r0
    have R1 := Lib.hid r1
    have R2 := Lib.hid r2
    clear h0 h2 h3 h4 h5 h6 hfr hK r0 r1 r2 hr hp
    gi_wp2
    refine ⟨by simp, .inl ⟨_, _, rfl, run_takeDeferred HD3.out, ?_⟩⟩
    have r0 := R0.out
    have r1 := R1.out
    have r2 := R2.out
    refine ⟨_, ?_, HFIN.out⟩
    simp [results, Tryd.f13, go_sem, r0, r1, r2]
end Go.Proofs.YtcaogiaoabdkdaaDoor
