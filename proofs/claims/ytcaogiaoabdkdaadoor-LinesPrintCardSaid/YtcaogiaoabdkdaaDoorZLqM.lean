/-
  Joined: RgO, LqM.
-/
import Derived.Test.YtcaogiaoabdkdaaDoorZLqG
import Derived.RangeFuncNested
import Derived.Test.YtcaogiaoabdkdaaDoorZLqK
import Derived.RangeFuncBound
import Derived.RangeFuncCalls
import Derived.RangeFuncLeaves
import Derived.OwnWalkIn
import Derived.TacticsInMore
import Derived.LoopNIn
import Derived.LoopIn
namespace Go.Proofs.YtcaogiaoabdkdaaDoor
set_option maxRecDepth 100000
section
open Go.RowKit Go
set_option linter.unusedVariables false
section
variable {F : Fence} {n : Nat} {P : Program} {w : World}
/-- all cells but those of block s lie as they lay, and so does all below o -/
structure Fr (o s : Nat) (W W' : World) : Prop where
  os : W'.os = W.os
  tape : W'.tape = W.tape
  output : W'.output = W.output
  size : W.heap.size ≤ W'.heap.size
  low : ∀ k, k < o → W'.heap[k]? = W.heap[k]?
  cells : ∀ k cs t m, k ≠ s → W.heap[k]? = some (.cells cs t m) → W'.heap[k]? = some (.cells cs t m)
theorem Fr.of_turns {o s : Nat} {W W' : World} (h : Turns (fun k => k = s) W W') (ho : o ≤ s) (hs : s < W.heap.size) : Fr o s W W' :=
  ⟨h.os, h.tape, h.output, h.size, fun k hk => h.block k (by omega) (by omega), fun k cs t m hk hc => (h.block k (Array.getElem?_eq_some_iff.1 hc).1 hk).trans hc⟩
theorem Fr.of_below {o s : Nat} {W W' : World} (h : Below W.heap.size W W') (ho : o ≤ W.heap.size) : Fr o s W W' :=
  ⟨h.os, h.tape, h.output, h.size, fun k hk => h.block k (by omega), fun k cs t m _ hc => (h.block k (Array.getElem?_eq_some_iff.1 hc).1).trans hc⟩
theorem Fr.put {o s l : Nat} {W : World} {x y : Obj} (ho : o ≤ l) (hl : W.heap[l]? = some x) (hx : x.isCells = false) : Fr o s W (W.putObj l y) :=
  ⟨rfl, rfl, rfl, by simp, fun k hk => World.putObj_heap_other (by omega), fun k cs t m _ hc => (World.putObj_heap_other (fun e => by subst e; rw [hl] at hc; injection hc with hc; subst hc; cases hx)).trans hc⟩
/-- from b on what holds no cells lies as it lay -/
def Recs (b : Nat) (W W' : World) : Prop := ∀ k x, b ≤ k → W.heap[k]? = some x → x.isCells = false → W'.heap[k]? = some x
/-- how a round may end -/
def roundQ {α : Type} (b : Nat) (Kp : World → World → Prop) (I : List α → World → Prop) (Ix : Code → List α → World → Prop) (xs : List α) (W : World) : Exit → Act → World → Prop
  | .normal, _, W' => Recs b W W' ∧ Kp W W' ∧ I xs W'
  | .ret, _, W' => Recs b W W' ∧ Ix .ret xs W'
  | _, _, _ => False
/-- what an iterator that turns block s alone promises -/
def SeqT {α : Type} (F : Fence) (n : Nat) (P : Program) (g : Nat) (lb : Array Value) (encs : α → Array Value) (s : Nat) (Kp : World → World → Prop) (S Sp : List α → Prop) (N : Nat) (w : World) : Prop :=
  ∀ (l : Nat) (J Jx : List α → World → Prop) (W : World), Below w.heap.size w W → (∀ xs A B, J xs A → Turns (fun k => k = s) A B → J xs B) → (∀ xs A B, Jx xs A → Turns (fun k => k = s) A B → Jx xs B) →
    (∀ pre x A, J pre A → pre.length < N → YieldAt F (n - 1) P l (encs x) A fun e B => (e = .returned (.bool true) ∧ J (pre ++ [x]) B ∧ Kp A B) ∨ (e = .returned (.bool false) ∧ Jx (pre ++ [x]) B)) →
    J [] W → CallsIn F n P g (#[.func (.yield l) #[] #[]] ++ lb) W fun e B => (∃ v, e = .returned v) ∧ ((∃ xs, S xs ∧ J xs B) ∨ (∃ pre, Sp pre ∧ Jx pre B))
theorem range_turns {α : Type} {g : Operand} {ps : Array Tmp} {assign body : Code} {Q : Exit → Act → World → Prop} {a : Act} {o s : Nat}
    (hro : F.round = none) (h1 : 1 ≤ n) {gf : Nat} {lb : Array Value} (hg : a.eval g = .func (.func gf) #[] lb) (hFg : F.fn gf) (eg : ∀ args w, (callFunc gf args).run P w = .ok (.enter gf args) w)
    {encs : α → Array Value} {Kp : World → World → Prop} {S Sp : List α → Prop} {N : Nat} (hseq : SeqT F (n - 1) P gf lb encs s Kp S Sp N w) (hos : o ≤ s) (hs : s < w.heap.size)
    (hKt : ∀ {A B C : World}, Kp A B → Kp B C → Kp A C) (hKb : ∀ (W : World) (l : Nat) (x y : Obj), w.heap.size ≤ l → W.heap[l]? = some x → x.isCells = false → Kp W (W.putObj l y)) (hps : ∀ x, (encs x).size = ps.size)
    (I : List α → World → Prop) (Ix : Code → List α → World → Prop) (hI : ∀ xs A B, I xs A → Fr o s A B → I xs B) (hIx : ∀ c xs A B, Ix c xs A → Fr o s A B → Ix c xs B) (h0 : I [] w) (a₁ : α → Act)
    (hassign : ∀ (l : Nat) (x : α) (W : World) (K : Act → World → Prop), K (a₁ x) W → assign.wpIn (F.inRound l) (n - 1 - 1) P (Exit.then K (fun _ _ _ => False)) { tmps := (ps.zip (encs x)).foldl (fun t (p, v) => t.setIfInBounds p v) a.tmps, defers := [] } W)
    (hbody : ∀ (l : Nat) (pre : List α) (x : α) (W : World), w.heap.size ≤ W.heap.size → I pre W → pre.length < N → body.wpIn (F.inRound l) (n - 1 - 1) P (roundQ w.heap.size Kp I Ix (pre ++ [x]) W) (a₁ x) W)
    (hdone : ∀ (D : Nat) (xs : List α) (W : World), w.heap.size ≤ D → S xs → I xs W → W.heap[D]? = some (.deferred (some [])) → Q .normal { a with defers := { target := .collected D, args := #[] } :: a.defers } W)
    (hstop : ∀ (D : Nat) (c : Code) (pre : List α) (W : World), w.heap.size ≤ D → Sp pre → Ix c pre W → W.heap[D]? = some (.deferred (some [])) → c.wpIn F n P Q { a with defers := { target := .collected D, args := #[] } :: a.defers } W) :
    (Code.rangeFunc g ps assign body).wpIn F n P Q a w := by
  refine wpIn_rangeFunc (fun fn hfn => ?_)
  rw [hro]
  -- the loop's record, in whatever state; D: the round's deferred calls; L: the record's block
  let rec0 : LoopState → Option Code → Obj := fun st pe => .loop { state := st, pending := pe, fn := fn, tmps := a.tmps, params := ps, assign := assign, body := body, defers := w.heap.size }
  obtain ⟨D, hD⟩ : ∃ D, D = w.heap.size := ⟨_, rfl⟩
  obtain ⟨W1, hW1⟩ : ∃ W1, W1 = (w.alloc (.deferred (some []))).alloc (rec0 .ready none) := ⟨_, rfl⟩
  have hb1 : Below w.heap.size w W1 := by rw [hW1]; exact ((Below.refl _ w).alloc (Nat.le_refl _) _).alloc (by simp) _
  have hl1 : W1.heap[D + 1]? = some (rec0 .ready none) := by
    have := World.alloc_heap_new (w.alloc (.deferred (some []))) (rec0 .ready none)
    rw [World.size_alloc] at this
    rw [hW1, hD]; exact this
  have hk1 : W1.heap[D]? = some (.deferred (some [])) := by
    rw [hW1, hD]; exact (Below.heap_alloc _ _ _ (by simp)).trans (World.alloc_heap_new w _)
  let Bk : LoopState → Option Code → World → Prop := fun st pe W => W.heap[D + 1]? = some (rec0 st pe) ∧ W.heap[D]? = some (.deferred (some []))
  have hBk : ∀ st pe A B, Bk st pe A → Turns (fun k => k = s) A B → Bk st pe B := fun st pe A B h ht =>
    ⟨(ht.block _ (Array.getElem?_eq_some_iff.1 h.1).1 (by omega)).trans h.1, (ht.block _ (Array.getElem?_eq_some_iff.1 h.2).1 (by omega)).trans h.2⟩
  have hput : ∀ st pe st' pe' W, Bk st pe W → Bk st' pe' (W.putObj (D + 1) (rec0 st' pe')) := fun st pe st' pe' W h =>
    ⟨World.putObj_heap_same (Array.getElem?_eq_some_iff.1 h.1).1, (World.putObj_heap_other (by omega)).trans h.2⟩
  have hfr : ∀ st pe y W, Bk st pe W → Fr o s W (W.putObj (D + 1) y) := fun st pe y W h => Fr.put (by omega) h.1 rfl
  refine ⟨D + 1, [{ target := .collected D, args := #[] }], W1, { target := .fn (.func gf) lb, args := #[.func (.yield (D + 1)) #[] #[]] }, W1, gf, #[.func (.yield (D + 1)) #[] #[]] ++ lb, W1, ?_, ?_, ?_, ?_, fun _ => h1, ?_⟩
  · rw [hW1, hD]; exact run_enterLoop_outer _ _ _ _ _
  · simp only [resolve, hg]
    simp [go_sem]
  · intro f' hf'
    simp [Target.leads] at hf'
    subst hf'
    exact hFg
  · simp [invoke, go_sem, eg]
  · refine (hseq (D + 1) (fun pre W => I pre W ∧ w.heap.size ≤ W.heap.size ∧ s < W.heap.size ∧ Bk .ready none W) (fun pre W => s < W.heap.size ∧ ∃ c, Ix c pre W ∧ Bk .done (some c) W) W1 hb1 ?_ ?_ ?_ ⟨hI _ _ _ h0 (Fr.of_below hb1 (by omega)), hb1.size, Nat.lt_of_lt_of_le hs hb1.size, hl1, hk1⟩).mono ?_
    · rintro xs A B ⟨h1, h2, h3, h4⟩ ht
      exact ⟨hI _ _ _ h1 (Fr.of_turns ht hos h3), Nat.le_trans h2 ht.size, Nat.lt_of_lt_of_le h3 ht.size, hBk _ _ _ _ h4 ht⟩
    · rintro xs A B ⟨h3, c, h1, h4⟩ ht
      exact ⟨Nat.lt_of_lt_of_le h3 ht.size, c, hIx _ _ _ _ h1 (Fr.of_turns ht hos h3), hBk _ _ _ _ h4 ht⟩
    · rintro pre x A ⟨hi, hsz, hss, hbk⟩ hlen
      refine ⟨_, _, _, _, run_yield hbk.1 (hps x), roundIn_of_wpIn hfn (hassign _ x A _ ?_)⟩
      refine ⟨_, run_beginRound hbk.1 rfl, ?_⟩
      have hb2 : Bk .busy none (A.putObj (D + 1) (rec0 .busy none)) := hput _ _ _ _ _ hbk
      have hi2 := hI _ _ _ hi (hfr _ _ (rec0 .busy none) _ hbk)
      have hkp2 : Kp A (A.putObj (D + 1) (rec0 .busy none)) := hKb _ _ _ _ (by omega) hbk.1 rfl
      refine wpIn_mono (hbody _ pre x _ (by rw [World.putObj_size]; exact hsz) hi2 hlen) ?_
      rintro e a3 C hp
      cases e with
      | normal =>
        obtain ⟨hr, hkp, hi3⟩ := hp
        have hb3 : Bk .busy none C := ⟨hr _ _ (by omega) hb2.1 rfl, hr _ _ (by omega) hb2.2 rfl⟩
        have hsC : s < C.heap.size := by have := (Array.getElem?_eq_some_iff.1 hb3.2).1; omega
        have hkp3 : Kp C (C.putObj (D + 1) (rec0 .ready none)) := hKb _ _ _ _ (by omega) hb3.1 rfl
        exact ⟨_, _, run_endRound none hb3.1, .inl ⟨rfl, ⟨hI _ _ _ hi3 (hfr _ _ _ _ hb3), by rw [World.putObj_size]; have := (Array.getElem?_eq_some_iff.1 hb3.2).1; omega, by rw [World.putObj_size]; exact hsC, hput _ _ _ _ _ hb3⟩, hKt hkp2 (hKt hkp hkp3)⟩⟩
      | ret =>
        obtain ⟨hr, hi3⟩ := hp
        have hb3 : Bk .busy none C := ⟨hr _ _ (by omega) hb2.1 rfl, hr _ _ (by omega) hb2.2 rfl⟩
        have hsC : s < C.heap.size := by have := (Array.getElem?_eq_some_iff.1 hb3.2).1; omega
        exact ⟨_, _, run_endRound (some .ret) hb3.1, .inr ⟨rfl, by rw [World.putObj_size]; exact hsC, .ret, hIx _ _ _ _ hi3 (hfr _ _ _ _ hb3), hput _ _ _ _ _ hb3⟩⟩
      | exit id => exact hp.elim
      | goto t => exact hp.elim
      | panic ch => exact hp.elim
      | outgrown => exact hp.elim
    · rintro e B ⟨⟨v, rfl⟩, h⟩
      rcases h with ⟨xs, hS, hi, _, _, hbk⟩ | ⟨pre, hSp, _, c, hi, hbk⟩
      · exact ⟨none, _, run_endLoop hbk.1 (by simp), hdone _ xs _ (by omega) hS (hI _ _ _ hi (hfr _ _ _ _ hbk)) ((World.putObj_heap_other (by omega)).trans hbk.2)⟩
      · exact ⟨some c, _, run_endLoop hbk.1 (by simp), hstop _ c pre _ (by omega) hSp (hIx _ _ _ _ hi (hfr _ _ _ _ hbk)) ((World.putObj_heap_other (by omega)).trans hbk.2)⟩
end
end
section
open Go.RowKit Go.Shelf Go
set_option linter.unusedVariables false
set_option linter.unusedSimpArgs false
set_option maxRecDepth 1000000
set_option maxHeartbeats 1000000
attribute [local go_sem] Oper.semAt_some
theorem cutN_take (u : List Nat) : ∀ (i : Nat) (v : List Nat), i < u.length → (∀ c ∈ u.take i, c ≠ 10) → u.getD i 0 = 10 → cutN v u = (v ++ u.take i) :: cutN [] (u.drop (i + 1)) := by
  intro i v hi h1 h2
  have e : u = u.take i ++ 10 :: u.drop (i + 1) := by
    have h3 : u[i] = 10 := by rw [List.getD_eq_getElem?_getD, List.getElem?_eq_getElem hi] at h2; exact h2
    rw [← h3, ← List.drop_eq_getElem_cons hi, List.take_append_drop]
  have h4 := cutN_in (u.take i) v (10 :: u.drop (i + 1)) h1
  rw [← e] at h4
  rw [h4, cutN, if_pos rfl]
theorem lines_idx (u : List Nat) : linesL u = if idxL 10 u = -1 then [u] else u.take (idxL 10 u).toNat :: linesL (u.drop ((idxL 10 u).toNat + 1)) := by
  have hg := idx_ge 10 u
  unfold linesL
  split
  · rename_i h
    have := cutN_in u [] [] (idx_none h)
    rw [List.append_nil, List.nil_append] at this
    rw [this]; rfl
  · obtain ⟨h1, h2, h3⟩ := idx_some (x := 10) (l := u) (i := (idxL 10 u).toNat) (by omega)
    have := cutN_take u _ [] h1 h3 h2
    rw [this, List.nil_append]
theorem lines_pos (u : List Nat) : 0 < (linesL u).length := by
  rw [lines_idx]
  split <;> simp
def YOne31 (ok : Bool) (a b : Prop) : Prop := if ok = true then a else b
theorem yielded_31 {en : Ending} {a b : Prop} (h : (en = .returned (.bool true) ∧ a) ∨ (en = .returned (.bool false) ∧ b)) : ∃ ok, en = .returned (.bool ok) ∧ YOne31 ok a b := by
  rcases h with ⟨rfl, h⟩ | ⟨rfl, h⟩
  · exact ⟨true, rfl, by unfold YOne31; rw [if_pos rfl]; exact h⟩
  · exact ⟨false, rfl, by unfold YOne31; rw [if_neg (by decide)]; exact h⟩
/-- a box holds a value -/
def Bx (W : World) (b : Nat) (t : TypeId) (v : Value) : Prop := W.heap[b]? = some (.cells #[v] t (0, 0))
theorem Bx.cell {W : World} {b : Nat} {t : TypeId} {v : Value} (h : Bx W b t v) : W.cell? ⟨b, 0, none⟩ = some v := blk_cell h 0
theorem Bx.put {W : World} {b : Nat} {t : TypeId} {v : Value} (h : Bx W b t v) (u : Value) : Bx (W.setCell ⟨b, 0, none⟩ u) b t u := by
  have := blk_set h 0 u
  exact this
theorem Bx.keep {W W' : World} {b : Nat} {t : TypeId} {v : Value} (h : Bx W b t v) (e : W'.heap[b]? = W.heap[b]?) : Bx W' b t v := e.trans h
/-- a line of bytes -/
abbrev LnX := { x : List Nat // (∀ c ∈ x, c < 256) ∧ x.length ≤ 1000000 }
/-- the three boxes lie as they lay -/
def Kp3 (b0 : Nat) (A B : World) : Prop := ∀ k, b0 ≤ k → k < b0 + 3 → B.heap[k]? = A.heap[k]?
theorem split_seq (n0 : Nat) (hn0 : 1 ≤ n0) (b0 : Nat) (s : List Nat) (hm : ∀ c ∈ s, c < 256) (hn : s.length ≤ 1000000) (w : World) (h1 : Bx w b0 9 (.string (str s))) (h2 : Bx w (b0 + 1) 9 (.string (str [10]))) (h3 : Bx w (b0 + 2) 3 (.int .i64 0)) :
    SeqT Fence.wide n0 Tryd.prog 58 #[.pointer (some ⟨b0 + 1, 0, none⟩), .pointer (some ⟨b0, 0, none⟩), .pointer (some ⟨b0 + 2, 0, none⟩)] (fun x : LnX => #[.string (str x.1)]) b0 (Kp3 b0) (fun xs => xs.map (·.1) = linesL s) (fun pre => ∃ r, linesL s = pre.map (·.1) ++ r) (linesL s).length w := fun l J Jx W hW hJ hJx hY hJ0 => by
  have g1 := blk_lt h1
  have g2 := blk_lt h2
  have g3 := blk_lt h3
  have H1 := Lib.hid (h1.keep (hW.block _ g1))
  have H2 := Lib.hid (h2.keep (hW.block _ g2))
  have H3 := Lib.hid (h3.keep (hW.block _ g3))
  have HY := Lib.hid hY
  have HJ := Lib.hid hJ
  have hs1 : (str [10]).size = 1 := by rw [str_size]; rfl
  have HIX := Lib.hid (fun u (hu : ∀ c ∈ u, c < 256) (hl : u.length ≤ 1000000) W => index_any u (getD_lt256 hu) hu hl 10 (by omega) W)
  have p2 := H2.out.cell
  have f1 : Fence.wide.fn 60 := trivial
  clear hY hJ hW
  generalize str [10] = T at *
  refine callsIn_of_wp Tryd.func58 rfl trivial ?_ rfl
  simp only [Tryd.ntmps58, List.size_toArray, List.length_cons, List.length_nil, Nat.reduceAdd, Nat.reduceSub, Array.replicate_succ, Array.replicate_zero, List.push_toArray, List.append_toArray, List.nil_append, List.cons_append]
  gi_wp2_with fail
  clear p2
  gi_loopw [7, 8] (fun _ _ wr => ∃ (pre : List LnX) (u : List Nat), linesL s = pre.map (·.1) ++ linesL u ∧ J pre wr ∧ Bx wr b0 9 (.string (str u)) ∧ Bx wr (b0 + 1) 9 (.string T) ∧ Bx wr (b0 + 2) 3 (.int .i64 0) ∧ (∀ c ∈ u, c < 256) ∧ u.length ≤ 1000000) (fun _ _ wr => slen ((wr.cell? ⟨b0, 0, none⟩).getD undef))
  case atStart => exact ⟨[], s, rfl, hJ0, H1.out, H2.out, H3.out, hm, hn⟩
  case round =>
    obtain ⟨pre, u, hl, hj, k1, k2, k3, hu, hul⟩ := hrel
    have HLS := Lib.hid hl
    have HJJ := Lib.hid hj
    have K1 := Lib.hid k1
    have K2 := Lib.hid k2
    have K3 := Lib.hid k3
    have HU := Lib.hid hu
    have c1 := k1.cell
    have c2 := k2.cell
    have HI1 := Lib.hid (HIX.out u hu hul wr)
    have hli := lines_idx u
    have hge := idx_ge 10 u
    have hlen : pre.length < (linesL s).length := by rw [hl, List.length_append, List.length_map]; have := lines_pos u; omega
    have hszu := str_size u
    clear hl hj k1 k2 k3 hu
    by_cases hx : idxL 10 u = -1
    · rw [if_pos hx] at hli
      have HE : Hid (linesL s = pre.map (·.1) ++ [u]) := Lib.hid (by rw [HLS.out, hli])
      rw [hx] at HI1
      obtain ⟨fn, tmps, assign, body, hy, hR⟩ := HY.out pre ⟨u, HU.out, hul⟩ wr HJJ.out hlen
      clear hli hge hlen hx hszu
      generalize str u = U at *
      gi_wp2_with fail
      refine (callsIn_wide.2 HI1.out).mono ?_
      rintro e w1 ⟨rfl, rfl⟩
      gi_wp2
      refine hR.mono ?_
      rintro e3 w3 hh3
      have HH3 := Lib.hid hh3
      obtain ⟨b3, rfl⟩ : ∃ b3, e3 = .returned (.bool b3) := by rcases hh3 with ⟨h, _⟩ | ⟨h, _⟩ <;> exact ⟨_, h⟩
      clear hh3 hR hy
      gi_wp2
      go_end0
      rcases HH3.out with ⟨_, h, _⟩ | ⟨_, h⟩
      · exact ⟨⟨_, rfl⟩, .inl ⟨_, by rw [HE.out, List.map_append]; rfl, h⟩⟩
      · exact ⟨⟨_, rfl⟩, .inr ⟨_, ⟨[], by rw [HE.out, List.append_nil, List.map_append]; rfl⟩, h⟩⟩
    · rw [if_neg hx] at hli
      obtain ⟨i, hi⟩ : ∃ i : Nat, idxL 10 u = (i : Int) := ⟨(idxL 10 u).toNat, by omega⟩
      rw [hi] at HI1 hge hli
      rw [Int.toNat_natCast] at hli
      have HTK : Hid ((∀ c ∈ u.take i, c < 256) ∧ (u.take i).length ≤ 1000000) := Lib.hid ⟨fun c hc => HU.out c (List.mem_of_mem_take hc), by rw [List.length_take]; omega⟩
      have HE : Hid (linesL s = pre.map (·.1) ++ u.take i :: linesL (u.drop (i + 1))) := Lib.hid (by rw [HLS.out, hli])
      obtain ⟨fn, tmps, assign, body, hy, hR⟩ := HY.out pre ⟨u.take i, HTK.out⟩ wr HJJ.out hlen
      have hst := sub_to (l := u) (k := .i64) (j := i) (by omega) wr
      have HSF := Lib.hid (fun W => sub_from (l := u) (k := .i64) (j := i + 1) (by omega) W)
      have hiw : IntKind.i64.wrap ((i : Int) + 1) = (i : Int) + 1 := IntWalk.i64_in _ (by omega)
      have c3 := K3.out.cell
      have HLD : Hid ((u.drop (i + 1)).length < u.length) := Lib.hid (by rw [List.length_drop]; omega)
      have HUD : Hid (∀ c ∈ u.drop (i + 1), c < 256) := Lib.hid (fun c hc => HU.out c (List.mem_of_mem_drop hc))
      have HUL := Lib.hid hul
      clear hli hlen hx hszu hi
      generalize hUU : str u = U at *
      generalize str (u.take i) = U1 at *
      gi_wp2_with fail
      refine (callsIn_wide.2 HI1.out).mono ?_
      rintro e w1 ⟨rfl, rfl⟩
      gi_wp2
      refine hR.mono ?_
      rintro e3 w3 hh3
      obtain ⟨ok3, rfl, hh4⟩ := yielded_31 hh3
      cases ok3
      · have hh5 : Jx (pre ++ [⟨u.take i, HTK.out⟩]) w3 := hh4
        have H5 := Lib.hid hh5
        clear hh3 hh4 hh5 hR hy
        gi_wp2
        refine bodyPost_ret (results_none rfl _ _ _) rfl ?_
        exact ⟨⟨_, rfl⟩, .inr ⟨_, ⟨linesL (u.drop (i + 1)), by rw [HE.out, List.map_append, List.append_assoc]; rfl⟩, H5.out⟩⟩
      · have hh5 : J (pre ++ [⟨u.take i, HTK.out⟩]) w3 ∧ Kp3 b0 _ w3 := hh4
        have H5 := Lib.hid hh5.1
        have N1 := Lib.hid (K1.out.keep (hh5.2 b0 (Nat.le_refl _) (by omega)))
        have N2 := Lib.hid (K2.out.keep (hh5.2 (b0 + 1) (by omega) (by omega)))
        have N3 := Lib.hid (K3.out.keep (hh5.2 (b0 + 2) (by omega) (by omega)))
        have d1 := N1.out.cell
        have d2 := N2.out.cell
        have f9 := blk_free N1.out 0
        have sf := HSF.out w3
        have sf2 : (Instr.slice 9 (.string U) (some (.int .i64 ((i : Int) + 1))) none none).run Tryd.prog w3 = .ok (.string (str (u.drop (i + 1)))) w3 := by rw [Int.natCast_add] at sf; exact sf
        have HF : Hid (∃ (pre' : List LnX) (u' : List Nat), linesL s = pre'.map (·.1) ++ linesL u' ∧ J pre' (w3.setCell ⟨b0, 0, none⟩ (.string (str (u.drop (i + 1))))) ∧ Bx (w3.setCell ⟨b0, 0, none⟩ (.string (str (u.drop (i + 1))))) b0 9 (.string (str u')) ∧ Bx (w3.setCell ⟨b0, 0, none⟩ (.string (str (u.drop (i + 1))))) (b0 + 1) 9 (.string T) ∧ Bx (w3.setCell ⟨b0, 0, none⟩ (.string (str (u.drop (i + 1))))) (b0 + 2) 3 (.int .i64 0) ∧ (∀ c ∈ u', c < 256) ∧ u'.length ≤ 1000000) := Lib.hid ⟨pre ++ [⟨u.take i, HTK.out⟩], u.drop (i + 1), by rw [HE.out, List.map_append, List.append_assoc]; rfl, HJ.out _ _ _ H5.out (Turns.set (S := fun k => k = b0) ⟨b0, 0, none⟩ _ rfl), N1.out.put _, N2.out.keep (Below.heap_setCell _ _ _ _ (by show b0 + 1 ≠ b0; omega)), N3.out.keep (Below.heap_setCell _ _ _ _ (by show b0 + 2 ≠ b0; omega)), HUD.out, by have := HLD.out; have := HUL.out; omega⟩
        have HM : Hid (slen (((w3.setCell ⟨b0, 0, none⟩ (.string (str (u.drop (i + 1))))).cell? ⟨b0, 0, none⟩).getD undef) < slen ((wr.cell? ⟨b0, 0, none⟩).getD undef)) := Lib.hid (by
          rw [(N1.out.put _).cell, K1.out.cell]
          show (str (u.drop (i + 1))).size < U.size
          rw [str_size, ← hUU, str_size]; exact HLD.out)
        clear hh3 hh4 hh5 hR hy sf hUU
        generalize str (u.drop (i + 1)) = U2 at *
        gi_wp2
        go_roundw
        case rel => exact HF.out
        case measure => exact HM.out
theorem split_make (s : List Nat) (w : World) :
    Calls Tryd.prog 26 #[.string (str s), .string ⟨#[10]⟩] w fun e w' => e = .returned (.func (Fn.func 58) #[] #[.pointer (some ⟨w.heap.size + 1, 0, none⟩), .pointer (some ⟨w.heap.size, 0, none⟩), .pointer (some ⟨w.heap.size + 2, 0, none⟩)]) ∧
      Bx w' w.heap.size 9 (.string (str s)) ∧ Bx w' (w.heap.size + 1) 9 (.string (str [10])) ∧ Bx w' (w.heap.size + 2) 3 (.int .i64 0) ∧ Below w.heap.size w w' ∧ w'.heap.size = w.heap.size + 3 := by
  rw [show (⟨#[10]⟩ : ByteArray) = str [10] from by kernel_rfl]
  have HF : Hid (Bx (((w.alloc (.cells #[.string (str s)] 9)).alloc (.cells #[.string (str [10])] 9)).alloc (.cells #[.int .i64 0] 3)) w.heap.size 9 (.string (str s)) ∧ Bx (((w.alloc (.cells #[.string (str s)] 9)).alloc (.cells #[.string (str [10])] 9)).alloc (.cells #[.int .i64 0] 3)) (w.heap.size + 1) 9 (.string (str [10])) ∧ Bx (((w.alloc (.cells #[.string (str s)] 9)).alloc (.cells #[.string (str [10])] 9)).alloc (.cells #[.int .i64 0] 3)) (w.heap.size + 2) 3 (.int .i64 0) ∧ Below w.heap.size w (((w.alloc (.cells #[.string (str s)] 9)).alloc (.cells #[.string (str [10])] 9)).alloc (.cells #[.int .i64 0] 3)) ∧ (((w.alloc (.cells #[.string (str s)] 9)).alloc (.cells #[.string (str [10])] 9)).alloc (.cells #[.int .i64 0] 3)).heap.size = w.heap.size + 3) := Lib.hid ⟨blk_alloc (blk_alloc (heap_alloc_new w _) _) _, by
      have h := heap_alloc_new (w.alloc (.cells #[.string (str s)] 9)) (.cells #[.string (str [10])] 9)
      rw [World.size_alloc] at h
      exact blk_alloc h _, by
      have h := heap_alloc_new ((w.alloc (.cells #[.string (str s)] 9)).alloc (.cells #[.string (str [10])] 9)) (.cells #[.int .i64 0] 3)
      rw [World.size_alloc, World.size_alloc] at h
      exact h, (((Below.refl _ w).alloc (Nat.le_refl _) _).alloc (by simp) _).alloc (by simp; omega) _, by simp⟩
  generalize str s = S at *
  generalize str [10] = T at *
  go_enter Tryd.func26, Tryd.ntmps26
  go_wp2
  go_ret
  exact ⟨rfl, HF.out⟩
end
end Go.Proofs.YtcaogiaoabdkdaaDoor
