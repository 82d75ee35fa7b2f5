/-
  Joined: TwE, TwF, TwG.
-/
import Derived.Test.YtoclelpmampikaaGreatTwZ1
import Derived.Test.YtoclelpmampikaaGreatTurn
import Derived.Test.YtoclelpmampikaaGreatCel
import Derived.Deep.MidRow
namespace Go.Proofs.YtoclelpmampikaaGreat
set_option maxRecDepth 100000
section
open Go.RowKit Go
set_option linter.unusedVariables false
set_option linter.unusedSimpArgs false
abbrev DgT : TypeId := 34
abbrev TrT : TypeId := 47
/-- a row of sums, cell by cell -/
def lvF (f : Nat → List Nat) (p : Nat) : Value := u8 ((f (p / 32)).getD (p % 32) 0)
theorem lvF_at (f : Nat → List Nat) (i j : Nat) (hj : j < 32) : lvF f (i * 32 + j) = bF (f i) j := by
  unfold lvF bF
  rw [show (i * 32 + j) / 32 = i by omega, show (i * 32 + j) % 32 = j by omega]
/-- the tree at block T, over the book b: n leaves, D levels above them, the row of rows lb, the rows q -/
structure TrB (W : World) (T b n D lb cap : Nat) (q : Nat → Nat) (F : Nat → Nat → List Nat) : Prop where
  blk : W.heap[T]? = some (.cells #[.pointer (some ⟨b, 0, none⟩), .int .i64 (n : Int), .slice (some ⟨lb, 0, none⟩) (D + 1) cap] TrT (0, 0))
  row : ∀ d, d ≤ D → W.cell? ⟨lb, d, none⟩ = some (.slice (some ⟨q d, 0, none⟩) (2 ^ (D - d)) (2 ^ (D - d)))
  lbl : lb < W.heap.size
  lv : ∀ d, d ≤ D → Cells W (q d) (2 ^ (D - d) * 32) (lvF (F d))
  dig : ∀ d i, IsDig (F d i)
  ne : ∀ d e, d ≤ D → e ≤ D → q d = q e → d = e
  nT : ∀ d, d ≤ D → q d ≠ T ∧ q d ≠ lb
  tl : T ≠ lb
  D5 : D ≤ 10
  capD : D + 1 ≤ cap ∧ cap ≤ 9223372036854775807
  n1 : 1 ≤ n ∧ n ≤ 2 ^ D
/-- the tree's blocks -/
def trS (T lb D : Nat) (q : Nat → Nat) : Nat → Prop := fun j => j = T ∨ j = lb ∨ ∃ d, d ≤ D ∧ j = q d
section
variable {W W' : World} {T b n D lb cap : Nat} {q : Nat → Nat} {F : Nat → Nat → List Nat}
theorem TrB.lt (h : TrB W T b n D lb cap q F) {j : Nat} (hj : trS T lb D q j) : j < W.heap.size := by
  rcases hj with rfl | rfl | ⟨d, hd, rfl⟩
  · exact blk_lt h.blk
  · exact h.lbl
  · exact (h.lv d hd).lt
theorem TrB.keep {S : Nat → Prop} (h : TrB W T b n D lb cap q F) (ht : Turns S W W') (hs : ∀ j, trS T lb D q j → ¬ S j) : TrB W' T b n D lb cap q F := by
  have hT := ht.block T (h.lt (.inl rfl)) (hs T (.inl rfl))
  have hl := ht.block lb (h.lt (.inr (.inl rfl))) (hs lb (.inr (.inl rfl)))
  refine ⟨hT.trans h.blk, fun d hd => ?_, Nat.lt_of_lt_of_le h.lbl ht.size, fun d hd => (h.lv d hd).same ht.size (ht.block _ (h.lv d hd).lt (hs _ (.inr (.inr ⟨d, hd, rfl⟩)))), h.dig, h.ne, h.nT, h.tl, h.D5, h.capD, h.n1⟩
  have := h.row d hd
  simp only [World.cell?] at this ⊢
  rw [hl]; exact this
theorem TrB.next (h : TrB W T b n D lb cap q F) (hb : Below W.heap.size W W') : TrB W' T b n D lb cap q F := h.keep (S := fun _ => False) (Turns.of_below hb) (fun _ _ x => x)
/-- .. one of them another one -/
def setF (F : Nat → Nat → List Nat) (d i : Nat) (x : List Nat) (e j : Nat) : List Nat := if e = d ∧ j = i then x else F e j
theorem setF_same (F : Nat → Nat → List Nat) (d i : Nat) (x : List Nat) : setF F d i x d i = x := by unfold setF; rw [if_pos ⟨rfl, rfl⟩]
theorem setF_ne (F : Nat → Nat → List Nat) {d i e j : Nat} (x : List Nat) (h : ¬ (e = d ∧ j = i)) : setF F d i x e j = F e j := by unfold setF; rw [if_neg h]
/-- one sum is laid in -/
theorem TrB.set_ (h : TrB W T b n D lb cap q F) {d i : Nat} (hd : d ≤ D) (hi : i < 2 ^ (D - d)) {x : List Nat} (hx : IsDig x) :
    TrB (W.setCells (q d) (i * 32) (dA x).toList) T b n D lb cap q (setF F d i x) := by
  have hx32 : (dA x).toList.length = 32 := by simp [rowV_size]
  have hi32 : i * 32 + 32 ≤ 2 ^ (D - d) * 32 := by omega
  refine ⟨(heap_setCells _ _ _ _ T (fun e => (h.nT d hd).1 e.symm)).trans h.blk, fun e he => ?_, by rw [size_setCells]; exact h.lbl, fun e he => ?_, fun e j => ?_, h.ne, h.nT, h.tl, h.D5, h.capD, h.n1⟩
  · have := h.row e he
    simp only [World.cell?] at this ⊢
    rw [heap_setCells _ _ _ _ lb (fun e => (h.nT d hd).2 e.symm)]; exact this
  · by_cases hed : e = d
    · subst hed
      refine ((h.lv e he).sets (vs := (dA x).toList) (o := i * 32) (by rw [hx32]; exact hi32)).congr fun p hp => ?_
      rw [hx32]
      by_cases hp2 : i * 32 ≤ p ∧ p < i * 32 + 32
      · rw [if_pos hp2]
        have e1 : p / 32 = i := by omega
        have e2 : p % 32 = p - i * 32 := by omega
        unfold lvF
        rw [e1, e2, setF_same, List.getD_eq_getElem?_getD, Array.getElem?_toList, rowV_at _ (by omega)]
        rfl
      · rw [if_neg hp2]
        unfold lvF
        rw [setF_ne _ _ (fun c => by omega)]
    · refine ((h.lv e he).same (by rw [size_setCells]; exact Nat.le_refl _) (heap_setCells _ _ _ _ (q e) (fun c => hed (h.ne _ _ he hd c)))).congr fun p hp => ?_
      unfold lvF
      rw [setF_ne _ _ (fun c => hed c.1)]
  · unfold setF
    split
    · exact hx
    · exact h.dig e j
theorem TrB.range (h : TrB W T b n D lb cap q F) {d i : Nat} (hd : d ≤ D) (hi : i < 2 ^ (D - d)) : W.rangeAt (q d) (i * 32) (dA (F d i)).toList := by
  have hi32 : i * 32 + 32 ≤ 2 ^ (D - d) * 32 := by omega
  refine Cells.range (h.lv d hd) fun j v hv => ?_
  have hj : j < 32 := by have := (List.getElem?_eq_some_iff.1 hv).1; simpa [rowV_size] using this
  rw [Array.getElem?_toList, rowV_at _ hj] at hv
  exact ⟨by omega, by rw [lvF_at _ _ _ hj]; exact (Option.some.inj hv).symm⟩
theorem TrB.there (h : TrB W T b n D lb cap q F) {d i : Nat} (hd : d ≤ D) (hi : i < 2 ^ (D - d)) : W.there (q d) (i * 32) 32 := Cells.there (h.lv d hd) (by omega)
theorem TrB.c0 (h : TrB W T b n D lb cap q F) : W.cell? ⟨T, 0, none⟩ = some (.pointer (some ⟨b, 0, none⟩)) := blk_cell h.blk 0
theorem TrB.c1 (h : TrB W T b n D lb cap q F) : W.cell? ⟨T, 1, none⟩ = some (.int .i64 (n : Int)) := blk_cell h.blk 1
theorem TrB.c2 (h : TrB W T b n D lb cap q F) : W.cell? ⟨T, 2, none⟩ = some (.slice (some ⟨lb, 0, none⟩) (D + 1) cap) := blk_cell h.blk 2
end
theorem tnone_any (T b n D lb cap : Nat) (q : Nat → Nat) (F : Nat → Nat → List Nat) (w : World) (h : TrB w T b n D lb cap q F) :
    Calls Tryz.prog 22 #[.pointer (some ⟨T, 0, none⟩)] w fun e w' => e = .returned (.bool false) ∧ w = w' := by
  have k2 := h.c2
  have hD := h.D5
  clear h
  have hne : (((D + 1 : Nat) : Int) == 0) = false := by rw [beq_eq_false_iff_ne]; omega
  have hne2 : (((D : Int) + 1) == 0) = false := by rw [beq_eq_false_iff_ne]; omega
  go_enter Tryz.func22, Tryz.ntmps22
  go_wp2
  go_ret
  simp only [and_true]
  first | rfl | (simp [hne, hne2]; done) | (simp; omega)
theorem tnone_nil (w : World) : Calls Tryz.prog 22 #[.pointer none] w fun e w' => e = .returned (.bool true) ∧ w = w' := by
  go_enter Tryz.func22, Tryz.ntmps22
  go_wp2
  go_ret
  exact ⟨rfl, rfl⟩
theorem tdepth_any (T b n D lb cap : Nat) (q : Nat → Nat) (F : Nat → Nat → List Nat) (w : World) (h : TrB w T b n D lb cap q F) :
    Calls Tryz.prog 25 #[.pointer (some ⟨T, 0, none⟩)] w fun e w' => e = .returned (.int .i64 (D : Int)) ∧ w = w' := by
  have k2 := h.c2
  have hD := h.D5
  have HN := Lib.hid (tnone_any T b n D lb cap q F w h)
  clear h
  go_enter Tryz.func25, Tryz.ntmps25
  go_wp2_with fail
  refine HN.out.mono ?_
  rintro e w' ⟨rfl, rfl⟩
  go_wp2
  go_ret
  exact ⟨ret_int (by omega), rfl⟩
theorem tlen_any (T b n D lb cap : Nat) (q : Nat → Nat) (F : Nat → Nat → List Nat) (w : World) (h : TrB w T b n D lb cap q F) :
    Calls Tryz.prog 21 #[.pointer (some ⟨T, 0, none⟩)] w fun e w' => e = .returned (.int .i64 (n : Int)) ∧ w = w' := by
  have k1 := h.c1
  have HN := Lib.hid (tnone_any T b n D lb cap q F w h)
  clear h
  go_enter Tryz.func21, Tryz.ntmps21
  go_wp2_with fail
  refine HN.out.mono ?_
  rintro e w' ⟨rfl, rfl⟩
  go_wp2
  go_ret
  exact ⟨rfl, rfl⟩
end
section
open Go.RowKit Go
set_option linter.unusedVariables false
set_option linter.unusedSimpArgs false
set_option maxHeartbeats 1000000 in
set_option maxRecDepth 100000 in
theorem tnode_in (T b n D lb cap d i : Nat) (q : Nat → Nat) (F : Nat → Nat → List Nat) (w : World) (h : TrB w T b n D lb cap q F) (hd : d ≤ D) (hi : i < 2 ^ (D - d)) :
    Calls Tryz.prog 24 #[.pointer (some ⟨T, 0, none⟩), .int .i64 (d : Int), .int .i64 (i : Int)] w fun e w' => e = .returned (.agg (dA (F d i))) ∧ Below w.heap.size w w' := by
  have hz := zero_dig
  have hb1 : Below w.heap.size w (w.alloc (.cells (zeros 32) DgT)) := (Below.refl _ _).alloc (Nat.le_refl _) _
  have h1 := h.next hb1
  have k2 := h1.c2
  have kr := h1.row d hd
  have HRG := Lib.hid (h1.range hd hi)
  have HN := Lib.hid (tnone_any T b n D lb cap q F _ h1)
  have HDP := Lib.hid (tdepth_any T b n D lb cap q F _ h1)
  have hpw : 2 ^ (D - d) ≤ 1024 := Nat.le_trans (Nat.pow_le_pow_right (by omega) (show D - d ≤ 10 by have := h.D5; omega)) (by decide)
  generalize 2 ^ (D - d) = N at kr hi hpw
  have hD := h.D5
  have a1 : decide ((d : Int) < 0) = false := decide_eq_false (by omega)
  have a2 : decide ((D : Int) < (d : Int)) = false := decide_eq_false (by omega)
  have a2' : decide (D < d) = false := decide_eq_false (by omega)
  have a3 : decide ((i : Int) < 0) = false := decide_eq_false (by omega)
  have a4 : decide ((N : Int) ≤ (i : Int)) = false := decide_eq_false (by omega)
  have a4' : decide (N ≤ i) = false := decide_eq_false (by omega)
  obtain ⟨xd, hxd⟩ : ∃ z, z = dA (F d i) := ⟨_, rfl⟩
  have hx2 : xd.size = 32 := by rw [hxd, rowV_size]
  have HI := Lib.hid (info_dig hx2)
  have HIL : Hid ((Tryz.prog.info? DgT).map (·.size) = some xd.toList.length) := Lib.hid (by rw [Array.length_toList]; exact info_dig hx2)
  have HO : Hid (xd.all (·.oneCell') = true) := Lib.hid (by rw [hxd]; exact dA_one _)
  have HZ : Hid ((zeros 32).size = xd.size) := Lib.hid (by rw [hx2]; simp [zeros])
  have HX := Lib.hid (heap_alloc_new w (.cells (zeros 32) DgT))
  have HFX := Lib.hid (setRow_heap _ _ _ xd _ _ (heap_alloc_new w (.cells (zeros 32) DgT)))
  have HFB := Lib.hid (below_setRow (g := w.heap.size) hb1 (Nat.le_refl _) xd)
  have hxa : xd.toList.toArray = xd := by simp
  rw [← hxd] at HRG
  rw [← hxd]
  clear h h1 hb1 hxd hx2
  go_enter Tryz.func24, Tryz.ntmps24
  go_wp2_with fail
  refine HN.out.mono ?_
  rintro e w' ⟨rfl, rfl⟩
  go_wp2_with fail
  refine HDP.out.mono ?_
  rintro e w' ⟨rfl, rfl⟩
  go_wp2_with (first
    | (with_reducible refine wpList_load_mid rfl DgT (.tmp 44) rfl (q d) (i * 32) rfl xd.toList _ HRG.out Tryz.underlying34 rfl HIL.out ?_)
    | (with_reducible refine wpList_store_row rfl DgT (.tmp 6) (.tmp 45) rfl _ _ rfl (by simp [Act.eval, Act.put]) DgT _ HX.out HI.out HZ.out HO.out ?_))
  exact bodyPost_ret (v := .agg xd) (results_cell_row rfl _ _ _ DgT _ (0, 0) _ rfl HFX.out Tryz.underlying34 rfl HI.out) rfl ⟨rfl, HFB.out⟩
set_option maxRecDepth 100000 in
theorem above_any (l i : Nat) (hl : l ≤ 1000000) (hi : i ≤ 1000000) (w : World) : Calls Tryz.prog 29 #[.agg #[.int .i64 (l : Int), .int .i64 (i : Int)]] w fun e w' => e = .returned (.agg #[.int .i64 ((l + 1 : Nat) : Int), .int .i64 ((i / 2 : Nat) : Int)]) ∧ Below w.heap.size w w' := by
  have hb : Below w.heap.size w ((w.alloc (.cells #[.int .i64 (l : Int), .int .i64 (i : Int)] 61)).alloc (.cells #[.int .i64 ((l : Int) + 1), .int .i64 ((i : Int) / 2)] 61)) := ((Below.refl _ _).alloc (Nat.le_refl _) _).alloc (by simp) _
  have HB := Lib.hid hb
  clear hb
  go_enter Tryz.func29, Tryz.ntmps29
  go_wp2
  exact bodyPost_ret (v := .agg #[.int .i64 ((l : Int) + 1), .int .i64 ((i : Int) / 2)]) (by simp [results, Tryz.results29, go_sem]) rfl ⟨rfl, HB.out⟩
theorem fits_t (n : Nat) (w : World) : Calls Tryz.prog 14 #[.int .i64 (n : Int)] w fun e w' => e = .returned (.bool (decide (1 ≤ n ∧ n ≤ 1024))) ∧ w = w' := by
  go_enter Tryz.func14, Tryz.ntmps14
  rcases Nat.lt_or_ge n 1 with h | h
  · obtain rfl : n = 0 := by omega
    go_wp2
    go_ret
    exact ⟨rfl, rfl⟩
  · have a1 : decide ((1 : Int) ≤ (n : Int)) = true := decide_eq_true (by omega)
    have a1' : decide (1 ≤ n) = true := decide_eq_true (by omega)
    go_wp2
    go_ret
    refine ⟨?_, rfl⟩
    simp [h]
    try omega
def dpt (n : Nat) : Nat := if n ≤ 1 then 0 else if n ≤ 2 then 1 else if n ≤ 4 then 2 else if n ≤ 8 then 3 else if n ≤ 16 then 4 else 5
set_option maxRecDepth 100000 in
set_option maxHeartbeats 4000000 in
theorem depth_t (n : Nat) (h1 : 1 ≤ n) (h2 : n ≤ 20) (w : World) : Calls Tryz.prog 15 #[.int .i64 (n : Int)] w fun e w' => e = .returned (.int .i64 (dpt n : Int)) ∧ w = w' := by
  rcases (by omega : n = 1 ∨ n = 2 ∨ n = 3 ∨ n = 4 ∨ n = 5 ∨ n = 6 ∨ n = 7 ∨ n = 8 ∨ n = 9 ∨ n = 10 ∨ n = 11 ∨ n = 12 ∨ n = 13 ∨ n = 14 ∨ n = 15 ∨ n = 16 ∨ n = 17 ∨ n = 18 ∨ n = 19 ∨ n = 20) with rfl | rfl | rfl | rfl | rfl | rfl | rfl | rfl | rfl | rfl | rfl | rfl | rfl | rfl | rfl | rfl | rfl | rfl | rfl | rfl
  all_goals
    go_enter Tryz.func15, Tryz.ntmps15
    go_wp2
    go_ret
    exact ⟨by kernel_rfl, rfl⟩
end
section
open Go.RowKit Go
set_option linter.unusedVariables false
set_option linter.unusedSimpArgs false
theorem cell_of {W V : World} {j : Nat} (h : W.heap[j]? = V.heap[j]?) (k : Nat) : W.cell? ⟨j, k, none⟩ = V.cell? ⟨j, k, none⟩ := by simp only [World.cell?]; rw [h]
theorem range_of {W V : World} {j o : Nat} {cs : List Value} (h : W.heap[j]? = V.heap[j]?) (hr : V.rangeAt j o cs) : W.rangeAt j o cs := fun k v hv => (cell_of h _).trans (hr k v hv)
def Same4 (V : World) (a b c d : Nat) (W : World) : Prop := W.heap[a]? = V.heap[a]? ∧ W.heap[b]? = V.heap[b]? ∧ W.heap[c]? = V.heap[c]? ∧ W.heap[d]? = V.heap[d]?
theorem Same4.turns {V W W' : World} {a b c d : Nat} {S : Nat → Prop} (h : Same4 V a b c d W) (ht : Turns S W W') (hs : ¬ S a ∧ ¬ S b ∧ ¬ S c ∧ ¬ S d) (hl : ∀ j, j = a ∨ j = b ∨ j = c ∨ j = d → j < W.heap.size) : Same4 V a b c d W' :=
  ⟨(ht.block a (hl _ (.inl rfl)) hs.1).trans h.1, (ht.block b (hl _ (.inr (.inl rfl))) hs.2.1).trans h.2.1, (ht.block c (hl _ (.inr (.inr (.inl rfl)))) hs.2.2.1).trans h.2.2.1, (ht.block d (hl _ (.inr (.inr (.inr rfl)))) hs.2.2.2).trans h.2.2.2⟩
theorem Same4.set {V W : World} {a b c d p o : Nat} {vs : List Value} (h : Same4 V a b c d W) (hn : a ≠ p ∧ b ≠ p ∧ c ≠ p ∧ d ≠ p) : Same4 V a b c d (W.setCells p o vs) :=
  ⟨(heap_setCells _ _ _ _ _ hn.1).trans h.1, (heap_setCells _ _ _ _ _ hn.2.1).trans h.2.1, (heap_setCells _ _ _ _ _ hn.2.2.1).trans h.2.2.1, (heap_setCells _ _ _ _ _ hn.2.2.2).trans h.2.2.2⟩
theorem yields_rowP {P : Program} {ops : Array Oper} {S : World → Prop} {o : Oper} {a : Act} (hw : Region.wanted o (yielded ops a.tmps) = true) (ty : TypeId) (x : Operand) (ho : o.op = .load ty x) (b off : Nat) (hx : a.eval x = .pointer (some ⟨b, off, none⟩)) (xs : Array Value) (d : TypeDesc)
    (hS : ∀ w, S w → w.rangeAt b off xs.toList) (hu : P.underlying ty = some d) (hd : d.isRow = true) (hi : (P.info? ty).map (·.size) = some xs.size) : YieldsIf P ops S o (.agg xs) a :=
  .inl ⟨hw, fun w h => by
    unfold execOp
    simp only [ho, hx, Instr.loadAt, Instr.sureAddr, Sem.run_bind, Sem.run_pure, Result.andThen_ok, run_loadVar_mid w b off ty xs.toList d (hS w h) hu hd (by simpa using hi), Array.toArray_toList]⟩
/-- what a sum of two is -/
def nodeT (l i : Nat) (x y : List Nat) : List Nat := txt 1 [putL 1 l, putL 4 i, x, y]
def ReckTo (w : World) (T b g n D lb cap d i : Nat) (q : Nat → Nat) (F : Nat → Nat → List Nat) (S : Nat → Prop) (Tx sh : List (List Nat)) (e : Ending) (w' : World) : Prop :=
  e = .returned (.tuple #[]) ∧ TrB w' T b n D lb cap q (setF F (d + 1) i (Sha.sum (nodeT (d + 1) i (F d (2 * i)) (F d (2 * i + 1))))) ∧
    IsBook w' b g (fun k => S k ∨ (w.heap.size ≤ k ∧ k < w'.heap.size)) (bkT Tx (nodeT (d + 1) i (F d (2 * i)) (F d (2 * i + 1)))) (bkS Tx sh (nodeT (d + 1) i (F d (2 * i)) (F d (2 * i + 1)))) ∧ Turns (fun j => S j ∨ j = q (d + 1)) w w'
theorem reck_end {w V w2 : World} {T b g n D lb cap d i : Nat} {q : Nat → Nat} {F : Nat → Nat → List Nat} {S : Nat → Prop} {Tx' sh' : List (List Nat)} {x : List Nat} (hV : TrB V T b n D lb cap q F) (hb : Below w.heap.size w V) (ht : Turns S V.drew.drew w2) (hbk : IsBook w2 b g (fun k => S k ∨ (V.heap.size ≤ k ∧ k < w2.heap.size)) Tx' sh')
    (hs : ∀ j, S j → j < w.heap.size) (hap : ∀ j, trS T lb D q j → ¬ S j) (hlt : ∀ j, trS T lb D q j → j < w.heap.size) (hd : d + 1 ≤ D) (hi : i < 2 ^ (D - (d + 1))) (hx : IsDig x) :
    TrB (w2.setCells (q (d + 1)) (i * 32) (dA x).toList) T b n D lb cap q (setF F (d + 1) i x) ∧ IsBook (w2.setCells (q (d + 1)) (i * 32) (dA x).toList) b g (fun k => S k ∨ (w.heap.size ≤ k ∧ k < (w2.setCells (q (d + 1)) (i * 32) (dA x).toList).heap.size)) Tx' sh' ∧
      Turns (fun j => S j ∨ j = q (d + 1)) w (w2.setCells (q (d + 1)) (i * 32) (dA x).toList) := by
  have t0 : Turns S V w2 := (Turns.of_below (S := S) ((Below.refl V.heap.size V).drew.drew)).trans ht (fun _ _ z => z)
  have h2 := hV.keep t0 hap
  have hq := hlt (q (d + 1)) (.inr (.inr ⟨d + 1, hd, rfl⟩))
  have hz := t0.size
  have hz0 := hb.size
  refine ⟨h2.set_ hd hi hx, hbk.keep (fun j hj => heap_setCells _ _ _ _ _ (fun e => ?_)) (fun j hj => ?_) (fun k hk => ?_), ((Turns.of_below hb).trans (S' := S) t0 (fun j _ z => .inl z)).trans (S' := fun j => j = q (d + 1)) ⟨os_setCells _ _ _ _, tape_setCells _ _ _ _, output_setCells _ _ _ _, by rw [size_setCells]; exact Nat.le_refl _, fun j _ hn => heap_setCells _ _ _ _ j hn⟩ (fun j _ z => .inr z)⟩
  · subst e
    rcases hj with hj | hj
    · exact hap _ (.inr (.inr ⟨d + 1, hd, rfl⟩)) hj
    · omega
  · rw [size_setCells]
    rcases hj with hj | hj
    · exact .inl hj
    · exact .inr ⟨by omega, hj.2⟩
  · rw [size_setCells] at hk ⊢
    rcases hk with hk | hk
    · have := hs k hk; omega
    · exact hk.2
set_option maxHeartbeats 4000000 in
set_option maxRecDepth 100000 in
theorem reckon_any (T b g n D lb cap d i : Nat) (q : Nat → Nat) (F : Nat → Nat → List Nat) (S : Nat → Prop) (Tx sh : List (List Nat)) (w : World) (h : TrB w T b n D lb cap q F) (hbk : IsBook w b g S Tx sh) (hap : ∀ j, trS T lb D q j → ¬ S j) (hd : d + 1 ≤ D) (hi : i < 2 ^ (D - (d + 1))) :
    Calls Tryz.prog 37 #[.pointer (some ⟨T, 0, none⟩), .agg #[.int .i64 ((d + 1 : Nat) : Int), .int .i64 (i : Int)]] w (ReckTo w T b g n D lb cap d i q F S Tx sh) := by
  have hcast : ((d + 1 : Nat) : Int) = (d : Int) + 1 := by omega
  obtain ⟨V, hV⟩ : ∃ V, V = w.alloc (.cells #[.int .i64 ((d : Int) + 1), .int .i64 (i : Int)] 61) := ⟨_, rfl⟩
  have hb1 : Below w.heap.size w V := by rw [hV]; exact (Below.refl _ _).alloc (Nat.le_refl _) _
  have h1 := h.next hb1
  have hpb : V.heap[w.heap.size]? = some (.cells #[.int .i64 ((d : Int) + 1), .int .i64 (i : Int)] 61 (0, 0)) := by rw [hV]; exact heap_alloc_new w _
  have hsub : ∀ j, S j → j < w.heap.size := fun j hj => hbk.sub hj
  have hlt : ∀ j, trS T lb D q j → j < w.heap.size := fun j hj => h.lt hj
  have hD := h.D5
  have hM : 2 ^ (D - d) = 2 * 2 ^ (D - (d + 1)) := by rw [show D - d = (D - (d + 1)) + 1 by omega, Nat.pow_succ]; omega
  have hpw : 2 ^ (D - d) ≤ 1024 := Nat.le_trans (Nat.pow_le_pow_right (by omega) (show D - d ≤ 10 by omega)) (by decide)
  have HEND := Lib.hid (fun w2 Tx' sh' x (ht : Turns S V.drew.drew w2) (hk : IsBook w2 b g (fun k => S k ∨ (V.heap.size ≤ k ∧ k < w2.heap.size)) Tx' sh') (hx : IsDig x) => reck_end h1 hb1 ht hk hsub hap hlt hd hi hx)
  have HK0 := Lib.hid h1.c0
  have HK2 := Lib.hid h1.c2
  have hkr0 := h1.row d (by omega)
  have HKR1 := Lib.hid (h1.row (d + 1) hd)
  have HP0 : Hid (V.cell? ⟨w.heap.size, 0, none⟩ = some (.int .i64 ((d : Int) + 1))) := Lib.hid (blk_cell hpb 0)
  have HP1 : Hid (V.cell? ⟨w.heap.size, 1, none⟩ = some (.int .i64 (i : Int))) := Lib.hid (blk_cell hpb 1)
  have hrx := h1.range (d := d) (i := 2 * i) (by omega) (by omega)
  have hry := h1.range (d := d) (i := 2 * i + 1) (by omega) (by omega)
  have HPR : Hid (∀ W, Same4 V T lb (q d) w.heap.size W → W.rangeAt w.heap.size 0 (#[Value.int .i64 ((d : Int) + 1), .int .i64 (i : Int)] : Array Value).toList) := Lib.hid (fun W hW => range_of hW.2.2.2 (fun j v hv => by rw [Nat.zero_add, blk_cell hpb j]; simpa using hv))
  have HIP : Hid ((Tryz.prog.info? 61).map (·.size) = some (#[Value.int .i64 ((d : Int) + 1), .int .i64 (i : Int)] : Array Value).size) := Lib.hid (by kernel_rfl)
  have HPS := Lib.hid (fun u (hu : IsBook u b g S Tx sh) => psum_any b g (d + 1) i (F d (2 * i)) (F d (2 * i + 1)) S Tx sh u hu (by omega) (by omega) (h1.dig _ _) (h1.dig _ _))
  rw [hcast] at HPS
  have HBK := Lib.hid (hbk.below hb1)
  have HAP : Hid (¬ S T ∧ ¬ S lb ∧ ¬ S (q d) ∧ ¬ S w.heap.size) := Lib.hid ⟨hap _ (.inl rfl), hap _ (.inr (.inl rfl)), hap _ (.inr (.inr ⟨d, by omega, rfl⟩)), fun c => by have := hsub _ c; omega⟩
  have HLTS : Hid (∀ j, j = T ∨ j = lb ∨ j = q d ∨ j = w.heap.size → j < V.drew.drew.heap.size) := Lib.hid (fun j hj => by
    show j < V.heap.size
    have e1 := hb1.size
    have e2 := blk_lt hpb
    rcases hj with rfl | rfl | rfl | rfl
    · have := hlt _ (.inl rfl); omega
    · have := hlt _ (.inr (.inl rfl)); omega
    · have := hlt _ (.inr (.inr ⟨d, by omega, rfl⟩)); omega
    · exact e2)
  have HNE : Hid (T ≠ q (d + 1) ∧ lb ≠ q (d + 1) ∧ q d ≠ q (d + 1) ∧ w.heap.size ≠ q (d + 1)) := Lib.hid ⟨fun c => (h.nT _ hd).1 c.symm, fun c => (h.nT _ hd).2 c.symm, fun c => by have := h.ne _ _ (by omega) hd c; omega, fun c => by have := hlt _ (.inr (.inr ⟨d + 1, hd, rfl⟩)); omega⟩
  have HTHX := Lib.hid (fun w2 (ht : Turns S V.drew.drew w2) => (h1.keep ((Turns.of_below (S := S) ((Below.refl V.heap.size V).drew.drew)).trans ht (fun _ _ z => z)) hap).there hd hi)
  obtain ⟨xd, hxd⟩ : ∃ z, z = dA (F d (2 * i)) := ⟨_, rfl⟩
  obtain ⟨yd, hyd⟩ : ∃ z, z = dA (F d (2 * i + 1)) := ⟨_, rfl⟩
  obtain ⟨t, hte⟩ : ∃ t, t = nodeT (d + 1) i (F d (2 * i)) (F d (2 * i + 1)) := ⟨_, rfl⟩
  have HTE := Lib.hid hte
  have HTXT : Hid (t = txt 1 [putL 1 (d + 1), putL 4 i, F d (2 * i), F d (2 * i + 1)]) := Lib.hid hte
  have HPS2 := Lib.hid hte
  obtain ⟨da, hda⟩ : ∃ z, z = digA t := ⟨_, rfl⟩
  have hda2 : da.size = 32 := by rw [hda]; unfold digA; rw [rowV_size]
  have hdx : da = dA (Sha.sum t) := hda
  have HDX := Lib.hid hdx
  have HDS := Lib.hid hda2
  have HSD : Hid (IsDig (Sha.sum t)) := Lib.hid (bk_dig t)
  have HDA : Hid (da = digA (txt 1 [putL 1 (d + 1), putL 4 i, F d (2 * i), F d (2 * i + 1)])) := Lib.hid (by rw [hda, hte]; rfl)
  have HIA := Lib.hid (info_dig hda2)
  have HO : Hid (da.all (·.oneCell') = true) := Lib.hid (by rw [hda]; exact one_dig _)
  have HIX : Hid ((Tryz.prog.info? DgT).map (·.size) = some xd.size) := Lib.hid (info_dig (by rw [hxd, rowV_size]))
  have HIY : Hid ((Tryz.prog.info? DgT).map (·.size) = some yd.size) := Lib.hid (info_dig (by rw [hyd, rowV_size]))
  have HRX : Hid (∀ W, Same4 V T lb (q d) w.heap.size W → W.rangeAt (q d) (2 * i * 32) xd.toList) := Lib.hid (fun W hW => by rw [hxd]; exact range_of hW.2.2.1 hrx)
  have HRY : Hid (∀ W, Same4 V T lb (q d) w.heap.size W → W.rangeAt (q d) ((2 * i + 1) * 32) yd.toList) := Lib.hid (fun W hW => by rw [hyd]; exact range_of hW.2.2.1 hry)
  have HXD := Lib.hid hxd
  have HYD := Lib.hid hyd
  have HV := Lib.hid hV
  have HTOE : Hid (∀ e w', e = .returned (.tuple #[]) → TrB w' T b n D lb cap q (setF F (d + 1) i (Sha.sum t)) → IsBook w' b g (fun k => S k ∨ (w.heap.size ≤ k ∧ k < w'.heap.size)) (bkT Tx t) (bkS Tx sh t) → Turns (fun j => S j ∨ j = q (d + 1)) w w' → ReckTo w T b g n D lb cap d i q F S Tx sh e w') := Lib.hid (fun e w' a1 a2 a3 a4 => by rw [hte] at a2 a3; exact ⟨a1, a2, a3, a4⟩)
  generalize hMM : 2 ^ (D - (d + 1)) = M at *
  generalize hNN : 2 ^ (D - d) = NN at *
  have k2 := HK2.out
  have p0 := HP0.out
  have hi1024 : i < 1024 := by omega
  have hdD : d < D := by omega
  have hd0 : (0 : Int) ≤ (d : Int) + 1 := by omega
  have h2i : 2 * i < NN := by omega
  have h2i1 : 2 * i + 1 < NN := by omega
  have hz2 : (0 : Int) ≤ 2 * (i : Int) := by omega
  have hz3 : (0 : Int) ≤ 2 * (i : Int) + 1 := by omega
  have hn2 : ((d : Int) + 1).toNat = d + 1 := by omega
  have hw2 : IntKind.i64.wrap (2 * (i : Int)) = 2 * (i : Int) := IntWalk.i64_in _ (by omega)
  have hw3 : IntKind.i64.wrap (2 * (i : Int) + 1) = 2 * (i : Int) + 1 := IntWalk.i64_in _ (by omega)
  have hz4 : 2 * (i : Int) < 2 * (M : Int) := by omega
  have hz5 : 2 * (i : Int) + 1 < 2 * (M : Int) := by omega
  have hn3 : (2 * (i : Int)).toNat = 2 * i := by omega
  have hn4 : (2 * (i : Int) + 1).toNat = 2 * i + 1 := by omega
  clear h h1 hb1 hbk hap hsub hlt hrx hry hxd hyd hte hda hda2 hdx hV hMM hNN hpb
  rw [hcast]
  go_enter Tryz.func37, Tryz.ntmps37
  go_upto_region 1 with (fail)
  rw [← HV.out]
  go_region
  clear k2 p0 hkr0
  go_upto_region 2 with (fail)
  refine wp_region_F (S := (fun W : World => Same4 V T lb (q d) w.heap.size W)) [] (by kernel_rfl) (⟨rfl, rfl, rfl, rfl⟩) (fun hHeld => ?_)
  refine wpAnyF_take (i := 0) (oi := _) (v := ?_) rfl (by kernel_rfl) (by kernel_rfl) (by kernel_rfl) (by kernel_rfl) (fun _ _ _ h => h) (Or.inl ⟨by rfl, ?_⟩) (by assumption) ?_
  rotate_left 1
  · intro w hSw
    (try dsimp only at hSw)
    (first | (go_simp; done) | (go_simp; with_reducible rfl))
  (try simp only [Act.put, List.getElem_toArray, List.getElem_cons_succ, List.getElem_cons_zero, List.setIfInBounds_toArray, List.set_cons_zero, List.set_cons_succ])
  refine wpAnyF_take (i := 1) (oi := _) (v := ?_) rfl (by kernel_rfl) (by kernel_rfl) (by kernel_rfl) (by kernel_rfl) (fun _ _ _ h => h) (Or.inl ⟨by rfl, ?_⟩) (by assumption) ?_
  rotate_left 1
  · intro w hSw
    (try dsimp only at hSw)
    (first | (go_simp; done) | (go_simp; with_reducible rfl))
  (try simp only [Act.put, List.getElem_toArray, List.getElem_cons_succ, List.getElem_cons_zero, List.setIfInBounds_toArray, List.set_cons_zero, List.set_cons_succ])
  refine wpAnyF_take (i := 2) (oi := _) (v := ?_) rfl (by kernel_rfl) (by kernel_rfl) (by kernel_rfl) (by kernel_rfl) (fun _ _ _ h => h) (Or.inl ⟨by rfl, ?_⟩) (by assumption) ?_
  rotate_left 1
  · intro w hSw
    (try dsimp only at hSw)
    (first | (go_simp; done) | (go_simp; with_reducible rfl))
  (try simp only [Act.put, List.getElem_toArray, List.getElem_cons_succ, List.getElem_cons_zero, List.setIfInBounds_toArray, List.set_cons_zero, List.set_cons_succ])
  refine wpAnyF_take (i := 3) (oi := _) (v := _) rfl (by kernel_rfl) (by kernel_rfl) (by kernel_rfl) (by kernel_rfl) (fun _ _ _ h => h) (yields_cellP (by rfl) 45 (.tmp 16) rfl (T) (2) rfl (.slice (some ⟨lb, 0, none⟩) (D + 1) cap) _ (fun W h => (cell_of h.1 _).trans HK2.out) Tryz.underlying45 rfl) (by assumption) ?_
  (try simp only [Act.put, List.getElem_toArray, List.getElem_cons_succ, List.getElem_cons_zero, List.setIfInBounds_toArray, List.set_cons_zero, List.set_cons_succ])
  refine wpAnyF_take (i := 4) (oi := _) (v := ?_) rfl (by kernel_rfl) (by kernel_rfl) (by kernel_rfl) (by kernel_rfl) (fun _ _ _ h => h) (Or.inl ⟨by rfl, ?_⟩) (by assumption) ?_
  rotate_left 1
  · intro w hSw
    (try dsimp only at hSw)
    (first | (go_simp; done) | (go_simp; with_reducible rfl))
  (try simp only [Act.put, List.getElem_toArray, List.getElem_cons_succ, List.getElem_cons_zero, List.setIfInBounds_toArray, List.set_cons_zero, List.set_cons_succ])
  refine wpAnyF_take (i := 5) (oi := _) (v := _) rfl (by kernel_rfl) (by kernel_rfl) (by kernel_rfl) (by kernel_rfl) (fun _ _ _ h => h) (yields_cellP (by rfl) 3 (.tmp 18) rfl (w.heap.size) (0) rfl (.int .i64 ((d : Int) + 1)) _ (fun W h => (cell_of h.2.2.2 _).trans HP0.out) Tryz.underlying3 rfl) (by assumption) ?_
  (try simp only [Act.put, List.getElem_toArray, List.getElem_cons_succ, List.getElem_cons_zero, List.setIfInBounds_toArray, List.set_cons_zero, List.set_cons_succ])
  refine wpAnyF_take (i := 6) (oi := _) (v := ?_) rfl (by kernel_rfl) (by kernel_rfl) (by kernel_rfl) (by kernel_rfl) (fun _ _ _ h => h) (Or.inl ⟨by rfl, ?_⟩) (by assumption) ?_
  rotate_left 1
  · intro w hSw
    (try dsimp only at hSw)
    (first | (go_simp; done) | (go_simp; with_reducible rfl))
  (try simp only [Act.put, List.getElem_toArray, List.getElem_cons_succ, List.getElem_cons_zero, List.setIfInBounds_toArray, List.set_cons_zero, List.set_cons_succ])
  refine wpAnyF_take (i := 7) (oi := _) (v := _) rfl (by kernel_rfl) (by kernel_rfl) (by kernel_rfl) (by kernel_rfl) (fun _ _ _ h => h) (yields_cellP (by rfl) 30 (.tmp 20) rfl (lb) (d + 1) rfl (.slice (some ⟨q (d + 1), 0, none⟩) M M) _ (fun W h => (cell_of h.2.1 _).trans HKR1.out) Tryz.underlying30 rfl) (by assumption) ?_
  (try simp only [Act.put, List.getElem_toArray, List.getElem_cons_succ, List.getElem_cons_zero, List.setIfInBounds_toArray, List.set_cons_zero, List.set_cons_succ])
  refine wpAnyF_take (i := 8) (oi := _) (v := ?_) rfl (by kernel_rfl) (by kernel_rfl) (by kernel_rfl) (by kernel_rfl) (fun _ _ _ h => h) (Or.inl ⟨by rfl, ?_⟩) (by assumption) ?_
  rotate_left 1
  · intro w hSw
    (try dsimp only at hSw)
    (first | (go_simp; done) | (go_simp; with_reducible rfl))
  (try simp only [Act.put, List.getElem_toArray, List.getElem_cons_succ, List.getElem_cons_zero, List.setIfInBounds_toArray, List.set_cons_zero, List.set_cons_succ])
  refine wpAnyF_take (i := 9) (oi := _) (v := _) rfl (by kernel_rfl) (by kernel_rfl) (by kernel_rfl) (by kernel_rfl) (fun _ _ _ h => h) (yields_cellP (by rfl) 3 (.tmp 22) rfl (w.heap.size) (1) rfl (.int .i64 (i : Int)) _ (fun W h => (cell_of h.2.2.2 _).trans HP1.out) Tryz.underlying3 rfl) (by assumption) ?_
  (try simp only [Act.put, List.getElem_toArray, List.getElem_cons_succ, List.getElem_cons_zero, List.setIfInBounds_toArray, List.set_cons_zero, List.set_cons_succ])
  refine wpAnyF_take (i := 10) (oi := _) (v := _) rfl (by kernel_rfl) (by kernel_rfl) (by kernel_rfl) (by kernel_rfl) (fun _ _ _ h => h) (yields_rowP (by rfl) 61 (.tmp 3) rfl w.heap.size 0 rfl #[.int .i64 ((d : Int) + 1), .int .i64 (i : Int)] _ (fun W h => HPR.out W h) Tryz.underlying61 rfl HIP.out) (by assumption) ?_
  (try simp only [Act.put, List.getElem_toArray, List.getElem_cons_succ, List.getElem_cons_zero, List.setIfInBounds_toArray, List.set_cons_zero, List.set_cons_succ])
  refine wpAnyF_take (i := 11) (oi := _) (v := ?_) rfl (by kernel_rfl) (by kernel_rfl) (by kernel_rfl) (by kernel_rfl) (fun _ _ _ h => h) (Or.inl ⟨by rfl, ?_⟩) (by assumption) ?_
  rotate_left 1
  · intro w hSw
    (try dsimp only at hSw)
    (first | (go_simp; done) | (go_simp; with_reducible rfl))
  (try simp only [Act.put, List.getElem_toArray, List.getElem_cons_succ, List.getElem_cons_zero, List.setIfInBounds_toArray, List.set_cons_zero, List.set_cons_succ])
  refine wpAnyF_take (i := 12) (oi := _) (v := ?_) rfl (by kernel_rfl) (by kernel_rfl) (by kernel_rfl) (by kernel_rfl) (fun _ _ _ h => h) (Or.inl ⟨by rfl, ?_⟩) (by assumption) ?_
  rotate_left 1
  · intro w hSw
    (try dsimp only at hSw)
    (first | (go_simp; done) | (go_simp; with_reducible rfl))
  (try simp only [Act.put, List.getElem_toArray, List.getElem_cons_succ, List.getElem_cons_zero, List.setIfInBounds_toArray, List.set_cons_zero, List.set_cons_succ])
  refine wpAnyF_take (i := 13) (oi := _) (v := ?_) rfl (by kernel_rfl) (by kernel_rfl) (by kernel_rfl) (by kernel_rfl) (fun _ _ _ h => h) (Or.inl ⟨by rfl, ?_⟩) (by assumption) ?_
  rotate_left 1
  · intro w hSw
    (try dsimp only at hSw)
    (first | (go_simp; done) | (go_simp; with_reducible rfl))
  (try simp only [Act.put, List.getElem_toArray, List.getElem_cons_succ, List.getElem_cons_zero, List.setIfInBounds_toArray, List.set_cons_zero, List.set_cons_succ])
  refine wpAnyF_take (i := 14) (oi := _) (v := _) rfl (by kernel_rfl) (by kernel_rfl) (by kernel_rfl) (by kernel_rfl) (fun _ _ _ h => h) (yields_cellP (by rfl) 28 (.tmp 27) rfl (T) (0) rfl (.pointer (some ⟨b, 0, none⟩)) _ (fun W h => (cell_of h.1 _).trans HK0.out) Tryz.underlying28 rfl) (by assumption) ?_
  (try simp only [Act.put, List.getElem_toArray, List.getElem_cons_succ, List.getElem_cons_zero, List.setIfInBounds_toArray, List.set_cons_zero, List.set_cons_succ])
  refine wpAnyF_take (i := 15) (oi := _) (v := ?_) rfl (by kernel_rfl) (by kernel_rfl) (by kernel_rfl) (by kernel_rfl) (fun _ _ _ h => h) (Or.inl ⟨by rfl, ?_⟩) (by assumption) ?_
  rotate_left 1
  · intro w hSw
    (try dsimp only at hSw)
    (first | (go_simp; done) | (go_simp; with_reducible rfl))
  (try simp only [Act.put, List.getElem_toArray, List.getElem_cons_succ, List.getElem_cons_zero, List.setIfInBounds_toArray, List.set_cons_zero, List.set_cons_succ])
  refine wpAnyF_take (i := 16) (oi := _) (v := ?_) rfl (by kernel_rfl) (by kernel_rfl) (by kernel_rfl) (by kernel_rfl) (fun _ _ _ h => h) (Or.inl ⟨by rfl, ?_⟩) (by assumption) ?_
  rotate_left 1
  · intro w hSw
    (try dsimp only at hSw)
    (first | (go_simp; done) | (go_simp; with_reducible rfl))
  (try simp only [Act.put, List.getElem_toArray, List.getElem_cons_succ, List.getElem_cons_zero, List.setIfInBounds_toArray, List.set_cons_zero, List.set_cons_succ])
  refine wpAnyF_take (i := 17) (oi := _) (v := _) rfl (by kernel_rfl) (by kernel_rfl) (by kernel_rfl) (by kernel_rfl) (fun _ _ _ h => h) (yields_cellP (by rfl) 3 (.tmp 30) rfl (w.heap.size) (1) rfl (.int .i64 (i : Int)) _ (fun W h => (cell_of h.2.2.2 _).trans HP1.out) Tryz.underlying3 rfl) (by assumption) ?_
  (try simp only [Act.put, List.getElem_toArray, List.getElem_cons_succ, List.getElem_cons_zero, List.setIfInBounds_toArray, List.set_cons_zero, List.set_cons_succ])
  refine wpAnyF_take (i := 18) (oi := _) (v := ?_) rfl (by kernel_rfl) (by kernel_rfl) (by kernel_rfl) (by kernel_rfl) (fun _ _ _ h => h) (Or.inl ⟨by rfl, ?_⟩) (by assumption) ?_
  rotate_left 1
  · intro w hSw
    (try dsimp only at hSw)
    (first | (go_simp; done) | (go_simp; with_reducible rfl))
  (try simp only [Act.put, List.getElem_toArray, List.getElem_cons_succ, List.getElem_cons_zero, List.setIfInBounds_toArray, List.set_cons_zero, List.set_cons_succ])
  refine wpAnyF_take (i := 19) (oi := _) (v := ?_) rfl (by kernel_rfl) (by kernel_rfl) (by kernel_rfl) (by kernel_rfl) (fun _ _ _ h => h) (Or.inl ⟨by rfl, ?_⟩) (by assumption) ?_
  rotate_left 1
  · intro w hSw
    (try dsimp only at hSw)
    (first | (go_simp; done) | (go_simp; with_reducible rfl))
  (try simp only [Act.put, List.getElem_toArray, List.getElem_cons_succ, List.getElem_cons_zero, List.setIfInBounds_toArray, List.set_cons_zero, List.set_cons_succ])
  refine wpAnyF_take (i := 20) (oi := _) (v := _) rfl (by kernel_rfl) (by kernel_rfl) (by kernel_rfl) (by kernel_rfl) (fun _ _ _ h => h) (yields_rowP (by rfl) 34 (.tmp 33) rfl (q d) (2 * i * 32) (by simp [Act.eval, Act.put, Nat.mul_assoc]) xd _ (fun W h => HRX.out W h) Tryz.underlying34 rfl HIX.out) (by assumption) ?_
  (try simp only [Act.put, List.getElem_toArray, List.getElem_cons_succ, List.getElem_cons_zero, List.setIfInBounds_toArray, List.set_cons_zero, List.set_cons_succ])
  refine wpAnyF_take (i := 21) (oi := _) (v := ?_) rfl (by kernel_rfl) (by kernel_rfl) (by kernel_rfl) (by kernel_rfl) (fun _ _ _ h => h) (Or.inl ⟨by rfl, ?_⟩) (by assumption) ?_
  rotate_left 1
  · intro w hSw
    (try dsimp only at hSw)
    (first | (go_simp; done) | (go_simp; with_reducible rfl))
  (try simp only [Act.put, List.getElem_toArray, List.getElem_cons_succ, List.getElem_cons_zero, List.setIfInBounds_toArray, List.set_cons_zero, List.set_cons_succ])
  refine wpAnyF_take (i := 22) (oi := _) (v := ?_) rfl (by kernel_rfl) (by kernel_rfl) (by kernel_rfl) (by kernel_rfl) (fun _ _ _ h => h) (Or.inl ⟨by rfl, ?_⟩) (by assumption) ?_
  rotate_left 1
  · intro w hSw
    (try dsimp only at hSw)
    (first | (go_simp; done) | (go_simp; with_reducible rfl))
  (try simp only [Act.put, List.getElem_toArray, List.getElem_cons_succ, List.getElem_cons_zero, List.setIfInBounds_toArray, List.set_cons_zero, List.set_cons_succ])
  refine wpAnyF_take (i := 23) (oi := _) (v := _) rfl (by kernel_rfl) (by kernel_rfl) (by kernel_rfl) (by kernel_rfl) (fun _ _ _ h => h) (yields_cellP (by rfl) 3 (.tmp 36) rfl (w.heap.size) (1) rfl (.int .i64 (i : Int)) _ (fun W h => (cell_of h.2.2.2 _).trans HP1.out) Tryz.underlying3 rfl) (by assumption) ?_
  (try simp only [Act.put, List.getElem_toArray, List.getElem_cons_succ, List.getElem_cons_zero, List.setIfInBounds_toArray, List.set_cons_zero, List.set_cons_succ])
  refine wpAnyF_take (i := 24) (oi := _) (v := ?_) rfl (by kernel_rfl) (by kernel_rfl) (by kernel_rfl) (by kernel_rfl) (fun _ _ _ h => h) (Or.inl ⟨by rfl, ?_⟩) (by assumption) ?_
  rotate_left 1
  · intro w hSw
    (try dsimp only at hSw)
    (first | (go_simp; done) | (go_simp; with_reducible rfl))
  (try simp only [Act.put, List.getElem_toArray, List.getElem_cons_succ, List.getElem_cons_zero, List.setIfInBounds_toArray, List.set_cons_zero, List.set_cons_succ])
  refine wpAnyF_take (i := 25) (oi := _) (v := ?_) rfl (by kernel_rfl) (by kernel_rfl) (by kernel_rfl) (by kernel_rfl) (fun _ _ _ h => h) (Or.inl ⟨by rfl, ?_⟩) (by assumption) ?_
  rotate_left 1
  · intro w hSw
    (try dsimp only at hSw)
    (first | (go_simp; done) | (go_simp; with_reducible rfl))
  (try simp only [Act.put, List.getElem_toArray, List.getElem_cons_succ, List.getElem_cons_zero, List.setIfInBounds_toArray, List.set_cons_zero, List.set_cons_succ])
  refine wpAnyF_take (i := 26) (oi := _) (v := ?_) rfl (by kernel_rfl) (by kernel_rfl) (by kernel_rfl) (by kernel_rfl) (fun _ _ _ h => h) (Or.inl ⟨by rfl, ?_⟩) (by assumption) ?_
  rotate_left 1
  · intro w hSw
    (try dsimp only at hSw)
    (first | (go_simp; done) | (go_simp; with_reducible rfl))
  (try simp only [Act.put, List.getElem_toArray, List.getElem_cons_succ, List.getElem_cons_zero, List.setIfInBounds_toArray, List.set_cons_zero, List.set_cons_succ])
  refine wpAnyF_take (i := 27) (oi := _) (v := _) rfl (by kernel_rfl) (by kernel_rfl) (by kernel_rfl) (by kernel_rfl) (fun _ _ _ h => h) (yields_rowP (by rfl) 34 (.tmp 40) rfl (q d) ((2 * i + 1) * 32) (by simp [Act.eval, Act.put]) yd _ (fun W h => HRY.out W h) Tryz.underlying34 rfl HIY.out) (by assumption) ?_
  (try simp only [Act.put, List.getElem_toArray, List.getElem_cons_succ, List.getElem_cons_zero, List.setIfInBounds_toArray, List.set_cons_zero, List.set_cons_succ])
  refine wpAnyF_ready (rs := [28]) (by kernel_rfl) (by simp) ?_
  refine AllReadyF.cons (o := _) rfl (fun K hK => ?_) AllReadyF.nil
  go_simp
  rw [HXD.out, HYD.out]
  refine (HPS.out V.drew.drew (HBK.out.below ((Below.refl _ _).drew.drew))).mono ?_
  rintro e w2 hsum
  obtain ⟨rfl, ht, hbk⟩ := hsum
  have HT := Lib.hid ht
  have HBK2 := Lib.hid hbk
  rw [← HTXT.out] at HBK2
  rw [← HDA.out]
  clear ht hbk
  refine hK.out _ _ (Same4.turns hHeld HT.out HAP.out HLTS.out) (fun hHeld2 => ?_)
  clear hK K
  (try simp only [Act.put, List.getElem_toArray, List.getElem_cons_succ, List.getElem_cons_zero, List.setIfInBounds_toArray, List.set_cons_zero, List.set_cons_succ])
  have HTH : Hid (w2.there (q (d + 1)) (i * 32) da.size) := Lib.hid (by rw [HDS.out]; exact HTHX.out _ HT.out)
  refine wpAnyF_take (i := 29) (oi := _) (v := ?_) rfl (by kernel_rfl) (by kernel_rfl) (by kernel_rfl) (by kernel_rfl) (fun _ _ _ h => h) (Or.inl ⟨by rfl, ?_⟩) (by assumption) ?_
  rotate_left 1
  · intro w hSw
    (try dsimp only at hSw)
    (first | (go_simp; done) | (go_simp; with_reducible rfl))
  (try simp only [Act.put, List.getElem_toArray, List.getElem_cons_succ, List.getElem_cons_zero, List.setIfInBounds_toArray, List.set_cons_zero, List.set_cons_succ])
  refine wpAnyF_ready (rs := [30]) (by kernel_rfl) (by simp) ?_
  refine AllReadyF.cons (o := _) rfl (fun K hK => ?_) AllReadyF.nil
  rw [if_pos (by kernel_rfl)]
  refine wp_store_mid 34 (.tmp 43) (.tmp 42) rfl (q (d + 1)) (i * 32) da rfl rfl HTH.out HIA.out HO.out ?_
  refine hK.out _ _ (Same4.set hHeld2 HNE.out) (fun hHeld3 => ?_)
  clear hK K
  (try simp only [Act.put, List.getElem_toArray, List.getElem_cons_succ, List.getElem_cons_zero, List.setIfInBounds_toArray, List.set_cons_zero, List.set_cons_succ])
  refine wpAnyF_done (by kernel_rfl) ?_ _
  have hend := HEND.out w2 _ _ (Sha.sum t) HT.out (HBK2.out) HSD.out
  rw [← HDX.out] at hend
  have HFIN := Lib.hid hend
  clear hend hHeld hHeld2 hHeld3
  (try go_wp2_with fail)
  refine bodyPost_ret (results_none rfl _ _ _) rfl ?_
  exact HTOE.out _ _ rfl HFIN.out.1 HFIN.out.2.1 HFIN.out.2.2
end
end Go.Proofs.YtoclelpmampikaaGreat
