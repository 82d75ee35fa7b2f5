/-
  Joined: NvRA, NvRB, NvRC, NvRD.
-/
import Derived.Test.YthigknolpdohoaaZpA
import Derived.Test.YthigknolpdohoaaNvBE
namespace Go.Proofs.Ythigknolpdohoaa
set_option maxRecDepth 100000
section
open Go.RowKit Go
set_option linter.unusedVariables false
set_option linter.unusedSimpArgs false
set_option maxRecDepth 100000
abbrev RdT : TypeId := 56
abbrev RaT : TypeId := 58
def bls (l : List Bool) : List Value := l.map Value.bool
theorem bls_len (l : List Bool) : (bls l).length = l.length := by simp [bls]
/-- the device's blocks -/
structure RI where
  g : Nat
  bl : Nat
  bn : Nat
  bp : Nat
  bm : Nat
/-- the device's own cells -/
def rdC (r : RI) (N M : Nat) (off : Bool) (u : Nat) (kv av : Value) : Array Value :=
  #[.slice (some ⟨r.bl, 0, none⟩) N N, .slice (some ⟨r.bn, 0, none⟩) N N, .slice (some ⟨r.bp, 0, none⟩) M M, .slice (some ⟨r.bm, 0, none⟩) M M, .bool off, .int .i64 (u : Int), kv, av]
structure RW (W : World) (r : RI) (N M : Nat) (kv av : Value) (pl : List Nat) (off : Bool) (u k : Nat) (al : List Value) (la no : List Nat) (pe ma : List Bool) : Prop where
  dev : W.heap[r.g]? = some (.cells (rdC r N M off u kv av) RdT (0, 0))
  own : W.ownsRow (r.g + 1) RaT 3 av k al
  pk : Own W (r.g + 1) kv pl
  hl : W.heap[r.bl]? = some (.cells (bvals la).toArray 5 (0, 0))
  hn : W.heap[r.bn]? = some (.cells (bvals no).toArray 5 (0, 0))
  hp : W.heap[r.bp]? = some (.cells (bls pe).toArray 4 (0, 0))
  hm : W.heap[r.bm]? = some (.cells (bls ma).toArray 4 (0, 0))
  lt : r.bl < r.g ∧ r.bn < r.g ∧ r.bp < r.g ∧ r.bm < r.g
  ne : r.bl ≠ r.bn ∧ r.bl ≠ r.bp ∧ r.bl ≠ r.bm ∧ r.bn ≠ r.bp ∧ r.bn ≠ r.bm ∧ r.bp ≠ r.bm
  ln : la.length = N ∧ no.length = N ∧ pe.length = M ∧ ma.length = M
  by_ : (∀ v ∈ la, v < 256) ∧ (∀ v ∈ no, v < 256) ∧ ∀ v ∈ pl, v < 256
  sz : N ≤ 65536 ∧ M ≤ 8192 ∧ pl.length ≤ 1000000
/-- which blocks are the device's -/
def RS (r : RI) (kv av : Value) (j : Nat) : Prop := j = r.g ∨ j = r.bl ∨ j = r.bn ∨ j = r.bp ∨ j = r.bm ∨ av.ownBlock = some j ∨ kv.ownBlock = some j
section
variable {W W' : World} {r : RI} {N M : Nat} {kv av : Value} {pl : List Nat} {off : Bool} {u k : Nat} {al : List Value} {la no : List Nat} {pe ma : List Bool}
theorem RW.cell (h : RW W r N M kv av pl off u k al la no pe ma) (i : Nat) : W.cell? ⟨r.g, i, none⟩ = (rdC r N M off u kv av)[i]? := blk_cell h.dev i
theorem RW.free (h : RW W r N M kv av pl off u k al la no pe ma) (i : Nat) : W.frozen? ⟨r.g, i, none⟩ = false := blk_free h.dev i
theorem RW.next (h : RW W r N M kv av pl off u k al la no pe ma) (hb : Below W.heap.size W W') : RW W' r N M kv av pl off u k al la no pe ma :=
  ⟨(hb.block _ (blk_lt h.dev)).trans h.dev, h.own.kept (row := none) ⟨hb.os, hb.tape, hb.output, hb.size, fun i hi _ => hb.block i hi⟩ (by
    rcases hv : av.ownBlock with _ | j
    · exact .inl rfl
    · exact .inr (by simp)), h.pk.below hb, (hb.block _ (blk_lt h.hl)).trans h.hl, (hb.block _ (blk_lt h.hn)).trans h.hn, (hb.block _ (blk_lt h.hp)).trans h.hp, (hb.block _ (blk_lt h.hm)).trans h.hm, h.lt, h.ne, h.ln, h.by_, h.sz⟩
theorem owns_far {B e s n : Nat} {v : Value} {vs : List Value} (h : W.ownsRow B e s v n vs) (hk : ∀ j, v.ownBlock = some j → W'.heap[j]? = W.heap[j]?) : W'.ownsRow B e s v n vs := by
  obtain ⟨h1, h2⟩ := h
  refine ⟨h1, ?_⟩
  rcases h2 with h2 | ⟨g, cap, cur, hv, hg, hh, hr⟩
  · exact .inl h2
  · exact .inr ⟨g, cap, cur, hv, hg, (hk g (by rw [hv]; rfl)).trans hh, hr⟩
/-- a block of the rows turns -/
theorem RW.only (h : RW W r N M kv av pl off u k al la no pe ma) {x : Nat} (hx : x < r.g) (hg : W.grownBy W' (some x)) (hl : W'.heap[r.bl]? = some (.cells (bvals la).toArray 5 (0, 0)) ∨ r.bl ≠ x) :
    W'.heap[r.g]? = W.heap[r.g]? ∧ W'.ownsRow (r.g + 1) RaT 3 av k al ∧ Own W' (r.g + 1) kv pl := by
  have hgl := blk_lt h.dev
  refine ⟨hg.block _ hgl (fun e => by injection e with e; omega), owns_far h.own fun j hj => ?_, h.pk.keep fun j hj => ?_⟩
  · have := h.own.lt j hj
    exact hg.block _ this.2 (fun e => by injection e with e; omega)
  · have := h.pk.lt hj
    exact hg.block _ this.2 (fun e => by injection e with e; omega)
theorem some_ne {a b : Nat} (h : a ≠ b) : some a ≠ some b := fun e => h (by injection e)
theorem RW.now' (h : RW W r N M kv av pl off u k al la no pe ma) (hg : W.grownBy W' (some r.bn)) {no' : List Nat} (hh : W'.heap[r.bn]? = some (.cells (bvals no').toArray 5 (0, 0))) (hl : no'.length = N) (hb : ∀ v ∈ no', v < 256) : RW W' r N M kv av pl off u k al la no' pe ma := by
  obtain ⟨h1, h2, h3⟩ := h.only h.lt.2.1 hg (.inr h.ne.1)
  have hne := h.ne
  exact ⟨h1.trans h.dev, h2, h3, (hg.block _ (blk_lt h.hl) (some_ne hne.1)).trans h.hl, hh, (hg.block _ (blk_lt h.hp) (some_ne (Ne.symm hne.2.2.2.1))).trans h.hp, (hg.block _ (blk_lt h.hm) (some_ne (Ne.symm hne.2.2.2.2.1))).trans h.hm, h.lt, h.ne, ⟨h.ln.1, hl, h.ln.2.2⟩, ⟨h.by_.1, hb, h.by_.2.2⟩, h.sz⟩
theorem RW.lasts' (h : RW W r N M kv av pl off u k al la no pe ma) (hg : W.grownBy W' (some r.bl)) {la' : List Nat} (hh : W'.heap[r.bl]? = some (.cells (bvals la').toArray 5 (0, 0))) (hl : la'.length = N) (hb : ∀ v ∈ la', v < 256) : RW W' r N M kv av pl off u k al la' no pe ma := by
  have hne := h.ne
  have hgl := blk_lt h.dev
  have hx := h.lt.1
  refine ⟨(hg.block _ hgl (fun e => by injection e with e; omega)).trans h.dev, owns_far h.own fun j hj => ?_, h.pk.keep fun j hj => ?_, hh, (hg.block _ (blk_lt h.hn) (some_ne (Ne.symm hne.1))).trans h.hn, (hg.block _ (blk_lt h.hp) (some_ne (Ne.symm hne.2.1))).trans h.hp, (hg.block _ (blk_lt h.hm) (some_ne (Ne.symm hne.2.2.1))).trans h.hm, h.lt, h.ne, ⟨hl, h.ln.2⟩, ⟨hb, h.by_.2⟩, h.sz⟩
  · have := h.own.lt j hj
    exact hg.block _ this.2 (fun e => by injection e with e; omega)
  · have := h.pk.lt hj
    exact hg.block _ this.2 (fun e => by injection e with e; omega)
theorem RW.pend' (h : RW W r N M kv av pl off u k al la no pe ma) (hg : W.grownBy W' (some r.bp)) {pe' : List Bool} (hh : W'.heap[r.bp]? = some (.cells (bls pe').toArray 4 (0, 0))) (hl : pe'.length = M) : RW W' r N M kv av pl off u k al la no pe' ma := by
  obtain ⟨h1, h2, h3⟩ := h.only h.lt.2.2.1 hg (.inr h.ne.2.1)
  have hne := h.ne
  exact ⟨h1.trans h.dev, h2, h3, (hg.block _ (blk_lt h.hl) (some_ne hne.2.1)).trans h.hl, (hg.block _ (blk_lt h.hn) (some_ne hne.2.2.2.1)).trans h.hn, hh, (hg.block _ (blk_lt h.hm) (some_ne (Ne.symm hne.2.2.2.2.2))).trans h.hm, h.lt, h.ne, ⟨h.ln.1, h.ln.2.1, hl, h.ln.2.2.2⟩, h.by_, h.sz⟩
theorem RW.mark' (h : RW W r N M kv av pl off u k al la no pe ma) (hg : W.grownBy W' (some r.bm)) {ma' : List Bool} (hh : W'.heap[r.bm]? = some (.cells (bls ma').toArray 4 (0, 0))) (hl : ma'.length = M) : RW W' r N M kv av pl off u k al la no pe ma' := by
  obtain ⟨h1, h2, h3⟩ := h.only h.lt.2.2.2 hg (.inr h.ne.2.2.1)
  have hne := h.ne
  exact ⟨h1.trans h.dev, h2, h3, (hg.block _ (blk_lt h.hl) (some_ne hne.2.2.1)).trans h.hl, (hg.block _ (blk_lt h.hn) (some_ne hne.2.2.2.2.1)).trans h.hn, (hg.block _ (blk_lt h.hp) (some_ne hne.2.2.2.2.2)).trans h.hp, hh, h.lt, h.ne, ⟨h.ln.1, h.ln.2.1, h.ln.2.2.1, hl⟩, h.by_, h.sz⟩
theorem set_row {b : Nat} {cs : List Value} {t : TypeId} (h : W.heap[b]? = some (.cells cs.toArray t (0, 0))) (i : Nat) (v : Value) : W.grownBy (W.setCell ⟨b, i, none⟩ v) (some b) ∧ (W.setCell ⟨b, i, none⟩ v).heap[b]? = some (.cells (cs.set i v).toArray t (0, 0)) := by
  refine ⟨only_set (p := ⟨b, i, none⟩) (World.grownBy.refl W _) (.inl rfl) _, ?_⟩
  have := blk_set h i v
  simpa using this
theorem bvals_set (l : List Nat) (i v : Nat) : (bvals l).set i (.int .u8 (v : Int)) = bvals (l.set i v) := by unfold bvals; rw [List.map_set]
theorem bls_set (l : List Bool) (i : Nat) (v : Bool) : (bls l).set i (.bool v) = bls (l.set i v) := by unfold bls; rw [List.map_set]
theorem mem_set {l : List Nat} {i v : Nat} (h : ∀ x ∈ l, x < 256) (hv : v < 256) : ∀ x ∈ l.set i v, x < 256 := fun x hx => by
  rcases List.mem_or_eq_of_mem_set hx with h1 | h1
  · exact h x h1
  · rw [h1]; exact hv
theorem RW.setNow (h : RW W r N M kv av pl off u k al la no pe ma) (i v : Nat) (hv : v < 256) : RW (W.setCell ⟨r.bn, i, none⟩ (.int .u8 (v : Int))) r N M kv av pl off u k al la (no.set i v) pe ma := by
  have hs := set_row h.hn i (.int .u8 (v : Int))
  rw [bvals_set] at hs
  exact h.now' hs.1 hs.2 (by rw [List.length_set]; exact h.ln.2.1) (mem_set h.by_.2.1 hv)
theorem RW.setPend (h : RW W r N M kv av pl off u k al la no pe ma) (i : Nat) (v : Bool) : RW (W.setCell ⟨r.bp, i, none⟩ (.bool v)) r N M kv av pl off u k al la no (pe.set i v) ma := by
  have hs := set_row h.hp i (.bool v)
  rw [bls_set] at hs
  exact h.pend' hs.1 hs.2 (by rw [List.length_set]; exact h.ln.2.2.1)
theorem RW.setMark (h : RW W r N M kv av pl off u k al la no pe ma) (i : Nat) (v : Bool) : RW (W.setCell ⟨r.bm, i, none⟩ (.bool v)) r N M kv av pl off u k al la no pe (ma.set i v) := by
  have hs := set_row h.hm i (.bool v)
  rw [bls_set] at hs
  exact h.mark' hs.1 hs.2 (by rw [List.length_set]; exact h.ln.2.2.2)
/-- the device's own cells turn -/
theorem RW.dev' (h : RW W r N M kv av pl off u k al la no pe ma) (hg : W.grownBy W' (some r.g)) {kv' : Value} {pl' : List Nat} {off' : Bool} {u' : Nat} (hh : W'.heap[r.g]? = some (.cells (rdC r N M off' u' kv' av) RdT (0, 0))) (hk : Own W' (r.g + 1) kv' pl') (hb : ∀ v ∈ pl', v < 256) (hpl : pl'.length ≤ 1000000) : RW W' r N M kv' av pl' off' u' k al la no pe ma := by
  have hlt := h.lt
  refine ⟨hh, owns_far h.own fun j hj => ?_, hk, (hg.block _ (blk_lt h.hl) (some_ne (by omega))).trans h.hl, (hg.block _ (blk_lt h.hn) (some_ne (by omega))).trans h.hn, (hg.block _ (blk_lt h.hp) (some_ne (by omega))).trans h.hp, (hg.block _ (blk_lt h.hm) (some_ne (by omega))).trans h.hm, h.lt, h.ne, h.ln, ⟨h.by_.1, h.by_.2.1, hb⟩, ⟨h.sz.1, h.sz.2.1, hpl⟩⟩
  have := h.own.lt j hj
  exact hg.block _ this.2 (some_ne (by omega))
theorem RW.setOff (h : RW W r N M kv av pl off u k al la no pe ma) (o : Bool) : RW (W.setCell ⟨r.g, 4, none⟩ (.bool o)) r N M kv av pl o u k al la no pe ma := by
  have hg : W.grownBy (W.setCell ⟨r.g, 4, none⟩ (.bool o)) (some r.g) := only_set (p := ⟨r.g, 4, none⟩) (World.grownBy.refl W _) (.inl rfl) _
  refine h.dev' hg (by rw [blk_set h.dev 4 (.bool o)]; rfl) (h.pk.keep fun j hj => ?_) h.by_.2.2 h.sz.2.2
  have := h.pk.lt hj
  exact hg.block _ this.2 (some_ne (by omega))
theorem RW.setU (h : RW W r N M kv av pl off u k al la no pe ma) (z : Nat) : RW (W.setCell ⟨r.g, 5, none⟩ (.int .i64 (z : Int))) r N M kv av pl off z k al la no pe ma := by
  have hg : W.grownBy (W.setCell ⟨r.g, 5, none⟩ (.int .i64 (z : Int))) (some r.g) := only_set (p := ⟨r.g, 5, none⟩) (World.grownBy.refl W _) (.inl rfl) _
  refine h.dev' hg (by rw [blk_set h.dev 5 (.int .i64 (z : Int))]; rfl) (h.pk.keep fun j hj => ?_) h.by_.2.2 h.sz.2.2
  have := h.pk.lt hj
  exact hg.block _ this.2 (some_ne (by omega))
theorem RW.bs (h : RW W r N M kv av pl off u k al la no pe ma) : BS W W.heap.size (some ⟨r.bn, 0, none⟩) N N no ∧ BS W W.heap.size (some ⟨r.bl, 0, none⟩) N N la := by
  have key : ∀ {q : Nat} {l : List Nat}, W.heap[q]? = some (.cells (bvals l).toArray 5 (0, 0)) → l.length = N → (∀ v ∈ l, v < 256) → BS W W.heap.size (some ⟨q, 0, none⟩) N N l := fun {q l} h1 h2 h3 => by
    have := row_pic (W := W) (q := q) (c := N) (l := l) (r := []) (by omega) (by have := h.sz; omega) h3 (by unfold rowO; rw [List.append_nil]; exact h1)
    rwa [h2] at this
  exact ⟨key h.hn h.ln.2.1 h.by_.2.1, key h.hl h.ln.1 h.by_.1⟩
end
/-- the device of a state -/
structure RV (W : World) (r : RI) (L N M : Nat) (kv av : Value) (pl : List Nat) (s : DSt) : Prop where
  w : RW W r N M kv av pl s.off s.u s.k s.al (lastsQ s.ws) (nowsL s.ws) (s.ws.map (·.pend)) (s.ws.map (·.mark))
  ok : OkM s.ws
  len : s.ws.length = 8 * L
  L1 : L ≤ 1024
  sz : N = 64 * L ∧ M = 8 * L
  pu : 0 < s.u → pl = s.pl
  u2 : s.u ≤ 9223372036854775807
  mkp : ∀ x ∈ s.ws, x.mark = true → x.pend = true
  one : ∀ x ∈ s.al, x.oneCell' = true
def RTo (w : World) (r : RI) (L N M : Nat) (kv av : Value) (e0 : Ending) (s' : DSt) (e : Ending) (w' : World) : Prop :=
  e = e0 ∧ ∃ kv' av' pl', RV w' r L N M kv' av' pl' s' ∧ Turns (RS r kv av) w w' ∧ ∀ j, RS r kv' av' j → RS r kv av j ∨ w.heap.size ≤ j
section
variable {W W' : World} {r : RI} {L N M : Nat} {kv av : Value} {pl : List Nat} {s : DSt}
theorem RV.next (h : RV W r L N M kv av pl s) (hb : Below W.heap.size W W') : RV W' r L N M kv av pl s := ⟨h.w.next hb, h.ok, h.len, h.L1, h.sz, h.pu, h.u2, h.mkp, h.one⟩
theorem RV.stay (h : RV W r L N M kv av pl s) (e0 : Ending) : RTo W r L N M kv av e0 s e0 W := ⟨rfl, kv, av, pl, h, Turns.of_below (Below.refl _ _), fun j q => .inl q⟩
end
set_option maxHeartbeats 1000000 in
theorem ready_R (r : RI) (L N M : Nat) (kv av : Value) (pl : List Nat) (s : DSt) (a n : Int) (hn9 : -9223372036854775808 ≤ n ∧ n ≤ 9223372036854775807) (w : World) (h : RV w r L N M kv av pl s) :
    Calls Try.prog 55 #[.pointer (some ⟨r.g, 0, none⟩), .int .i64 a, .int .i64 n] w fun e w' => e = .returned (.int .i64 (refS8 L s.off a n)) ∧ w = w' := by
  have c4 : w.cell? ⟨r.g, 4, none⟩ = some (.bool s.off) := h.w.cell 4
  have c1 : w.cell? ⟨r.g, 1, none⟩ = some (.slice (some ⟨r.bn, 0, none⟩) N N) := h.w.cell 1
  have hN := h.sz.1
  have hL := h.L1
  clear h
  generalize s.off = off at *
  cases off
  · by_cases h1 : a < 0
    · have e : refS8 L false a n = 3 := by unfold refS8 hasB; rw [if_neg (by decide), if_neg (by rw [decide_eq_true_eq]; omega)]
      rw [e]
      clear hN e
      go_enter Try.func55, Try.ntmps55
      go_wp2
      go_ret
      exact ⟨rfl, rfl⟩
    · by_cases h2 : n < 0
      · have e : refS8 L false a n = 3 := by unfold refS8 hasB; rw [if_neg (by decide), if_neg (by rw [decide_eq_true_eq]; omega)]
        rw [e]
        clear hN e
        go_enter Try.func55, Try.ntmps55
        go_wp2
        go_ret
        exact ⟨rfl, rfl⟩
      · by_cases h3 : (N : Int) < n
        · have e : refS8 L false a n = 3 := by unfold refS8 hasB; rw [if_neg (by decide), if_neg (by rw [decide_eq_true_eq]; omega)]
          rw [e]
          clear hN e
          go_enter Try.func55, Try.ntmps55
          go_wp2
          go_ret
          exact ⟨rfl, rfl⟩
        · obtain ⟨d, hd⟩ : ∃ d : Int, d = (N : Int) - n := ⟨_, rfl⟩
          have hw : IntKind.i64.wrap ((N : Int) - n) = d := by rw [← hd]; exact IntWalk.i64_in _ ⟨by omega, by omega⟩
          by_cases h4 : d < a
          · have e : refS8 L false a n = 3 := by unfold refS8 hasB; rw [if_neg (by decide), if_neg (by rw [decide_eq_true_eq]; omega)]
            rw [e]
            clear hN e hd
            go_enter Try.func55, Try.ntmps55
            go_wp2
            go_ret
            exact ⟨rfl, rfl⟩
          · have e : refS8 L false a n = 0 := by unfold refS8 hasB; rw [if_neg (by decide), if_pos (by rw [decide_eq_true_eq]; omega)]
            rw [e]
            clear hN e hd
            go_enter Try.func55, Try.ntmps55
            go_wp2
            go_ret
            exact ⟨rfl, rfl⟩
  · have e : refS8 L true a n = 8 := rfl
    rw [e]
    clear hN e
    go_enter Try.func55, Try.ntmps55
    go_wp2
    go_ret
    exact ⟨rfl, rfl⟩
end
section
open Go.RowKit Go
set_option linter.unusedVariables false
set_option linter.unusedSimpArgs false
set_option maxRecDepth 100000
theorem set_sameQ {α : Type} {l : List α} {j : Nat} {a : α} (h : l[j]? = some a) : l.set j a = l := by
  refine List.ext_getElem? fun i => ?_
  by_cases e : i = j
  · subst e
    rw [List.getElem?_set_self (List.getElem?_eq_some_iff.mp h).1, h]
  · rw [List.getElem?_set_ne (fun q => e q.symm)]
theorem flat_same (f : Wd → List Nat) {ws : List Wd} {j : Nat} {x y : Wd} (hx : ws[j]? = some x) (e : f y = f x) : (ws.set j y).flatMap f = ws.flatMap f := by
  rw [List.flatMap_def, List.flatMap_def, List.map_set, e, set_sameQ (by rw [List.getElem?_map, hx]; rfl)]
theorem flat_set (f : Wd → List Nat) {ws : List Wd} (h : ∀ x ∈ ws, (f x).length = 8) {j : Nat} {x y : Wd} (hx : ws[j]? = some x) (hy : (f y).length = 8) : (ws.set j y).flatMap f = splB (ws.flatMap f) (8 * j) (f y) := by
  have hj : j < ws.length := (List.getElem?_eq_some_iff.mp hx).1
  have h2 : ∀ z ∈ ws.set j y, (f z).length = 8 := fun z hz => by
    rcases List.mem_or_eq_of_mem_set hz with h1 | h1
    · exact h z h1
    · rw [h1]; exact hy
  have hlen : (ws.flatMap f).length = 8 * ws.length := by
    clear hx hj h2
    induction ws with
    | nil => rfl
    | cons a r ih =>
      rw [List.flatMap_cons, List.length_append, h a (List.mem_cons_self ..), ih (fun z hz => h z (List.mem_cons_of_mem _ hz)), List.length_cons]
      omega
  refine List.ext_getElem? fun p => ?_
  obtain ⟨i, q, hq, rfl⟩ : ∃ i q, q < 8 ∧ p = 8 * i + q := ⟨p / 8, p % 8, by omega, by omega⟩
  rw [flat8 f _ h2 i q hq]
  have e2 : splB (ws.flatMap f) (8 * j) (f y) = splice (ws.flatMap f) (8 * j) (f y) := rfl
  rw [e2, splice_get _ _ _ (by rw [hy, hlen]; omega), hy]
  by_cases e : i = j
  · subst e
    rw [if_pos (by omega), List.getElem?_set_self hj]
    show (f y)[q]? = _
    congr 1
    omega
  · rw [if_neg (by omega), List.getElem?_set_ne (fun q => e q.symm), flat8 f ws h i q hq]
theorem lasts_b {ws : List Wd} (h : OkM ws) : ∀ v ∈ lastsQ ws, v < 256 := OkM.lasts h
section
variable {W W' : World} {r : RI} {L N M : Nat} {kv av : Value} {pl : List Nat} {s : DSt}
theorem RV.lens (h : RV W r L N M kv av pl s) : (nowsL s.ws).length = N ∧ (lastsQ s.ws).length = N ∧ (s.ws.map (·.pend)).length = M := ⟨h.w.ln.2.1, h.w.ln.1, h.w.ln.2.2.1⟩
end
theorem on_R (r : RI) (L N M : Nat) (kv av : Value) (pl : List Nat) (s : DSt) (w : World) (h : RV w r L N M kv av pl s) :
    Calls Try.prog 17 #[.pointer (some ⟨r.g, 0, none⟩)] w (RTo w r L N M kv av (.returned (.tuple #[])) s.on) := by
  have k4 : w.cell? ⟨r.g, 4, none⟩ = some (.bool s.off) := h.w.cell 4
  have k5 : w.cell? ⟨r.g, 5, none⟩ = some (.int .i64 (s.u : Int)) := h.w.cell 5
  have f4 := h.w.free 4
  have f5 := h.w.free 5
  have HF : Hid (RTo w r L N M kv av (.returned (.tuple #[])) s.on (.returned (.tuple #[])) ((w.setCell ⟨r.g, 4, none⟩ (.bool false)).setCell ⟨r.g, 5, none⟩ (.int .i64 0))) := Lib.hid ⟨rfl, kv, av, pl, ⟨(h.w.setOff false).setU 0, h.ok, h.len, h.L1, h.sz, fun q => absurd q (Nat.lt_irrefl 0), Nat.zero_le _, h.mkp, h.one⟩, (Turns.set (S := RS r kv av) ⟨r.g, 4, none⟩ _ (.inl rfl)).trans (S' := RS r kv av) (Turns.set (S := RS r kv av) ⟨r.g, 5, none⟩ _ (.inl rfl)) (fun _ _ q => q), fun j q => .inl q⟩
  clear h
  go_enter Try.func17, Try.ntmps17
  go_wp2
  go_end0
  exact HF.out
/-- behind some words that are counted -/
def PeR (w : World) (ws : List Wd) (iv nv : Value) (W : World) : Prop := ∃ i : Nat, iv = .int .i64 (i : Int) ∧ nv = .int .i64 ((cnt ws i : Nat) : Int) ∧ i ≤ ws.length ∧ W = w
set_option maxHeartbeats 1000000 in
theorem pending_R (r : RI) (L N M : Nat) (kv av : Value) (pl : List Nat) (s : DSt) (w : World) (h : RV w r L N M kv av pl s) :
    Calls Try.prog 25 #[.pointer (some ⟨r.g, 0, none⟩)] w fun e w' => e = .returned (.int .i64 ((cnt s.ws (8 * L) : Nat) : Int)) ∧ w = w' := by
  have k2 : w.cell? ⟨r.g, 2, none⟩ = some (.slice (some ⟨r.bp, 0, none⟩) M M) := h.w.cell 2
  have HC : Hid (∀ i x, s.ws[i]? = some x → w.cell? ⟨r.bp, i, none⟩ = some (.bool x.pend)) := Lib.hid (fun i x hx => by
    rw [blk_cell h.w.hp i, List.getElem?_toArray]
    unfold bls
    rw [List.getElem?_map, List.getElem?_map, hx]
    rfl)
  have hlen := h.len
  have hM := h.sz.2
  have hL := h.L1
  generalize s.ws = ws at *
  clear h
  have HLN := Lib.hid (And.intro hlen hM)
  obtain rfl : M = ws.length := by omega
  clear hM
  rw [← hlen]
  go_enter Try.func25, Try.ntmps25
  go_wp2
  go_loopw [11, 3] (fun iv nv wr => PeR w ws iv nv wr) (fun iv _ _ => (ws.length - (intOf iv).toNat))
  case atStart => exact ⟨0, rfl, rfl, by omega, rfl⟩
  case round =>
    obtain ⟨i, rfl, rfl, hi, rfl⟩ := hrel
    by_cases hlt : i < ws.length
    · have hlti : (i : Int) < (ws.length : Int) := by omega
      obtain ⟨x, hx⟩ : ∃ x, ws[i]? = some x := ⟨_, List.getElem?_eq_getElem hlt⟩
      have hc := HC.out i x hx
      have hn := cnt_next hx
      have hcl := cnt_le ws i
      obtain ⟨m, hm⟩ : ∃ m, m = ws.length := ⟨_, rfl⟩
      have hlen9 : m ≤ 8192 := by have := HLN.out; omega
      have hcl2 : cnt ws i ≤ m := by rw [hm]; exact hcl
      have hlm : (i : Int) < (m : Int) := by omega
      have HI : Hid (i + 1 ≤ ws.length ∧ ws.length ≤ 8192) := Lib.hid (by omega)
      cases hp : x.pend
      · rw [hp] at hc hn
        have HN : Hid (cnt ws (i + 1) = cnt ws i) := Lib.hid (by rw [hn]; rfl)
        have HG : Hid (PeR wr ws (.int .i64 ((i : Int) + 1)) (.int .i64 ((cnt ws i : Nat) : Int)) wr) := Lib.hid ⟨i + 1, by simp, by rw [HN.out], HI.out.1, rfl⟩
        generalize cnt ws i = ci at *
        clear hn hx hp hm hcl
        go_wp2
        go_roundw
        case rel => exact HG.out
        case measure => have := HI.out; simp [intOf]; omega
      · rw [hp] at hc hn
        have HN : Hid (cnt ws (i + 1) = cnt ws i + 1) := Lib.hid (by rw [hn]; rfl)
        have HG : Hid (PeR wr ws (.int .i64 ((i : Int) + 1)) (.int .i64 (((cnt ws i : Nat) : Int) + 1)) wr) := Lib.hid ⟨i + 1, by simp, by rw [HN.out]; simp, HI.out.1, rfl⟩
        generalize cnt ws i = ci at *
        clear hn hx hp hm hcl
        go_wp2
        go_roundw
        case rel => exact HG.out
        case measure => have := HI.out; simp [intOf]; omega
    · have hlti : ¬ (i : Int) < (ws.length : Int) := by omega
      obtain rfl : i = ws.length := by omega
      go_wp2
      go_ret
      exact ⟨rfl, rfl⟩
end
section
open Go.RowKit Go
set_option linter.unusedVariables false
set_option linter.unusedSimpArgs false
set_option maxRecDepth 100000
theorem cutA_some {q c k : Nat} : ∃ ad, cutA (some ⟨q, 0, none⟩) c k = some ad := by
  unfold cutA
  split
  · exact ⟨_, rfl⟩
  · exact ⟨_, rfl⟩
theorem run_partN (A : Option Addr) (n c lo hi m : Nat) (hm : lo + m = hi) (hc : hi ≤ c) (W : World) :
    (Instr.slice 28 (.slice A n c) (some (.int .i64 (lo : Int))) (some (.int .i64 (hi : Int))) none).run Try.prog W = .ok (.slice (cutA A c lo) m (c - lo)) W := by
  obtain ⟨i, hi', hz⟩ := Option.map_eq_some_iff.mp (show (Try.prog.info? 5).map (·.size) = some 1 by kernel_rfl)
  have h2 : lo ≤ hi := by omega
  have h4 : hi - lo = m := by omega
  unfold cutA
  simp [Instr.slice, Instr.sliceBounds, Instr.sliceBound, run_underlying Try.underlying28, asIntOf, go_sem, sizeOf, typeInfo, hi', hz, h2, hc, h4]
set_option maxHeartbeats 2000000 in
theorem rload_yes (r : RI) (L N M : Nat) (kv av : Value) (pl : List Nat) (s : DSt) (at_ n : Nat) (w : World) (h : RV w r L N M kv av pl s) (hr : refS8 L s.off (at_ : Int) (n : Int) = 0) :
    Calls Try.prog 26 #[.pointer (some ⟨r.g, 0, none⟩), .int .i64 (at_ : Int), .int .i64 (n : Int)] w (LdP w (((nowsL s.ws).drop at_).take n) 0) := by
  have hrg : at_ + n ≤ 64 * L := by
    unfold refS8 at hr
    cases ho : s.off
    · rw [ho, if_neg (by decide)] at hr
      by_cases hb : hasB L (at_ : Int) (n : Int) = true
      · have := of_decide_eq_true hb; omega
      · rw [if_neg hb] at hr; cases hr
    · rw [ho, if_pos rfl] at hr; cases hr
  have hL1 := h.L1
  have hN := h.sz.1
  have HRF : Hid (Calls Try.prog 55 #[.pointer (some ⟨r.g, 0, none⟩), .int .i64 (at_ : Int), .int .i64 (n : Int)] w fun e w' => e = .returned (.int .i64 0) ∧ w = w') := Lib.hid (by
    have := ready_R r L N M kv av pl s (at_ : Int) (n : Int) (by omega) w h
    rw [hr] at this
    exact this)
  have k1 : w.cell? ⟨r.g, 1, none⟩ = some (.slice (some ⟨r.bn, 0, none⟩) N N) := h.w.cell 1
  obtain ⟨hi, hhi⟩ : ∃ hi, hi = at_ + n := ⟨_, rfl⟩
  have hwa : IntKind.i64.wrap ((at_ : Int) + (n : Int)) = (hi : Int) := by rw [show (at_ : Int) + (n : Int) = (hi : Int) by omega]; exact IntWalk.i64_in _ ⟨by omega, by omega⟩
  have hbs := (h.w.bs.1.cut (k := at_) (by omega)).take (k := n) (by omega)
  obtain ⟨ad, had⟩ := cutA_some (q := r.bn) (c := N) (k := at_)
  have hsl : ∀ W : World, (Instr.slice 28 (.slice (some ⟨r.bn, 0, none⟩) N N) (some (.int .i64 (at_ : Int))) (some (.int .i64 (hi : Int))) none).run Try.prog W = .ok (.slice (some ad) n (N - at_)) W := fun W => by
    have := run_partN (some ⟨r.bn, 0, none⟩) N N at_ hi n (by omega) (by omega) W
    rwa [had] at this
  rw [had] at hbs
  have HX : Hid (Own (w.alloc (.cells #[] 5)) w.heap.size (.slice (some ⟨w.heap.size, 0, none⟩) 0 0) []) := Lib.hid ⟨rfl, .inr ⟨w.heap.size, 0, #[], rfl, Nat.le_refl _, heap_alloc_new _ _, Nat.le_refl _, by unfold maxLen; omega, rfl, rfl⟩⟩
  have HAL : Hid (Below w.heap.size w (w.alloc (.cells #[] 5))) := Lib.hid ((Below.refl _ _).alloc (Nat.le_refl _) _)
  have HS : Hid (BS (w.alloc (.cells #[] 5)) w.heap.size (some ad) n (N - at_) (((nowsL s.ws).drop at_).take n)) := Lib.hid (hbs.below HAL.out)
  have HL := Lib.hid hbs.len
  generalize N - at_ = c9 at *
  generalize ((nowsL s.ws).drop at_).take n = l at *
  have HN9 : Hid (n ≤ 65536) := Lib.hid (by omega)
  have hgl : r.g < w.heap.size := blk_lt h.w.dev
  clear h hr hrg hN hhi hbs had
  go_enter Try.func26, Try.ntmps26
  go_wp2_with fail
  refine HRF.out.mono ?_
  rintro e w0 ⟨rfl, rfl⟩
  clear HRF
  go_wp2_with (at_builtin; refine wpList_plain rfl fun K0 hK => ?_; refine step_appsG _ (.tmp 16) (.tmp 25) rfl w.heap.size _ [] rfl HX.out _ _ n c9 l rfl HS.out (fun e => by cases e) (by have := HN9.out; simp; omega) HAL.out.size ?_; intro v9 w9 ho9 hb9 _; rw [List.nil_append] at ho9; have HF : Hid (LdP w l 0 (.returned (.tuple #[v9, .int .i64 0])) w9) := Lib.hid ⟨_, rfl, ho9, HAL.out.trans hb9⟩; obtain ⟨A9, c8, e9⟩ := own_form ho9; rw [HL.out] at e9; subst e9; clear ho9 hb9; refine hK _ _ ?_)
  exact bodyPost_ret (v := .tuple #[.slice A9 n c8, .int .i64 0]) (by simp [results, Try.results26, go_sem]) rfl HF.out
theorem rload_no (r : RI) (L N M : Nat) (kv av : Value) (pl : List Nat) (s : DSt) (at_ n : Int) (hn9 : -9223372036854775808 ≤ n ∧ n ≤ 9223372036854775807) (w : World) (h : RV w r L N M kv av pl s) (hr : refS8 L s.off at_ n ≠ 0) :
    Calls Try.prog 26 #[.pointer (some ⟨r.g, 0, none⟩), .int .i64 at_, .int .i64 n] w (LdP w [] (refS8 L s.off at_ n)) := by
  have HRF := Lib.hid (ready_R r L N M kv av pl s at_ n hn9 w h)
  generalize refS8 L s.off at_ n = q at *
  have hq : ((q : Int) != 0) = true := by rw [bne_iff_ne]; exact hr
  clear h hr
  go_enter Try.func26, Try.ntmps26
  go_wp2_with fail
  refine HRF.out.mono ?_
  rintro e w0 ⟨rfl, rfl⟩
  go_wp2
  exact bodyPost_ret (v := .tuple #[.slice none 0 0, .int .i64 q]) (by simp [results, Try.results26, go_sem]) rfl ⟨_, rfl, Own.nil _ _, Below.refl _ _⟩
theorem load_R (r : RI) (L N M : Nat) (kv av : Value) (pl : List Nat) (s : DSt) (at_ n : Int) (hn9 : -9223372036854775808 ≤ n ∧ n ≤ 9223372036854775807) (w : World) (h : RV w r L N M kv av pl s) :
    Calls Try.prog 26 #[.pointer (some ⟨r.g, 0, none⟩), .int .i64 at_, .int .i64 n] w (LdP w (ldL s L at_ n) (refS8 L s.off at_ n)) := by
  unfold ldL
  by_cases hr : refS8 L s.off at_ n = 0
  · rw [if_pos hr, hr]
    have hb : hasB L at_ n = true := by
      unfold refS8 at hr
      cases hb : hasB L at_ n
      · rw [hb] at hr
        cases ho : s.off <;> rw [ho] at hr <;> simp at hr
      · rfl
    have h1 := (hasB_nat hb).1
    have h2 := (hasB_nat hb).2.1
    obtain ⟨a, ha⟩ : ∃ a, a = at_.toNat := ⟨_, rfl⟩
    obtain ⟨m, hm⟩ : ∃ m, m = n.toNat := ⟨_, rfl⟩
    rw [← ha] at h1 ⊢
    rw [← hm] at h2 ⊢
    subst h1 h2
    exact rload_yes r L N M kv av pl s a m w h hr
  · rw [if_neg hr]
    exact rload_no r L N M kv av pl s at_ n hn9 w h hr
/-- an Arm's end -/
theorem RV.armed {w w9 : World} {r : RI} {L N M : Nat} {kv av : Value} {pl : List Nat} {s : DSt} (h : RV w r L N M kv av pl s) (u : Nat) (hu : u ≤ 9223372036854775807) (l l2 : List Nat) (hl : ∀ v ∈ l, v < 256) (hl2 : 0 < u → l = l2) (hln : l.length ≤ 1000000) {v9 : Value} (hb : Below w.heap.size (w.setCell ⟨r.g, 5, none⟩ (.int .i64 (u : Int))) w9) (ho : Own w9 w.heap.size v9 l) (e0 : Ending) :
    w9.cell? ⟨r.g, 6, none⟩ = some kv ∧ w9.frozen? ⟨r.g, 6, none⟩ = false ∧ RTo w r L N M kv av e0 ⟨s.ws, s.off, s.k, s.al, u, l2⟩ e0 (w9.setCell ⟨r.g, 6, none⟩ v9) := by
  have h1 := h.w.setU u
  have hsz : (w.setCell ⟨r.g, 5, none⟩ (.int .i64 (u : Int))).heap.size = w.heap.size := by simp [World.setCell]
  have h2 := h1.next (by rw [hsz]; exact hb)
  have hg : w9.grownBy (w9.setCell ⟨r.g, 6, none⟩ v9) (some r.g) := only_set (p := ⟨r.g, 6, none⟩) (World.grownBy.refl w9 _) (.inl rfl) _
  have hgl := blk_lt h.w.dev
  have h3 : RW (w9.setCell ⟨r.g, 6, none⟩ v9) r N M v9 av l s.off u s.k s.al (lastsQ s.ws) (nowsL s.ws) (s.ws.map (·.pend)) (s.ws.map (·.mark)) := by
    refine h2.dev' hg (by rw [blk_set h2.dev 6 v9]; rfl) ?_ hl hln
    obtain ⟨k1, k2⟩ := ho
    refine ⟨k1, ?_⟩
    rcases k2 with k2 | ⟨q, cap, cur, hv, hq, hh, hr⟩
    · exact .inl k2
    · exact .inr ⟨q, cap, cur, hv, by omega, (hg.block q (blk_lt hh) (some_ne (by omega))).trans hh, hr⟩
  refine ⟨h2.cell 6, h2.free 6, rfl, v9, av, l, ⟨h3, h.ok, h.len, h.L1, h.sz, hl2, hu, h.mkp, h.one⟩, ?_, ?_⟩
  · exact ((Turns.set (S := RS r kv av) ⟨r.g, 5, none⟩ _ (.inl rfl)).trans (S' := RS r kv av) (Turns.of_below (by rw [hsz]; exact hb)) (fun _ _ q => q)).trans (S' := RS r kv av) (Turns.set (S := RS r kv av) ⟨r.g, 6, none⟩ _ (.inl rfl)) (fun _ _ q => q)
  · rintro j (q | q | q | q | q | q | q)
    · exact .inl (.inl q)
    · exact .inl (.inr (.inl q))
    · exact .inl (.inr (.inr (.inl q)))
    · exact .inl (.inr (.inr (.inr (.inl q))))
    · exact .inl (.inr (.inr (.inr (.inr (.inl q)))))
    · exact .inl (.inr (.inr (.inr (.inr (.inr (.inl q))))))
    · exact .inr (ho.lt q).1
set_option maxHeartbeats 1000000 in
theorem arm_R (r : RI) (L N M n c9 : Nat) (kv av : Value) (pl : List Nat) (s : DSt) (a : Int) (ha9 : a ≤ 9223372036854775807) (A : Option Addr) (l : List Nat) (w : World) (h : RV w r L N M kv av pl s) (hb : BS w w.heap.size A n c9 l) (hA : A = none → c9 = 0) (ho : Off n A r.g) (hn : n < 1000000) :
    Calls Try.prog 34 #[.pointer (some ⟨r.g, 0, none⟩), .int .i64 a, .slice A n c9] w (RTo w r L N M kv av (.returned (.tuple #[])) (s.arm a l)) := by
  have hl : ∀ v ∈ l, v < 256 := fun v hv => by
    obtain ⟨i, hi⟩ := List.getElem?_of_mem hv
    have := hb.byte i
    rw [List.getD_eq_getElem?_getD, hi] at this
    exact this
  unfold DSt.arm
  have k5 : w.cell? ⟨r.g, 5, none⟩ = some (.int .i64 (s.u : Int)) := h.w.cell 5
  have f5 := h.w.free 5
  have HA := Lib.hid hA
  obtain ⟨u, hu⟩ : ∃ u : Nat, u = a.toNat := ⟨_, rfl⟩
  rw [← hu]
  have hl2 : 0 < u → l = if a < 1 then [] else l := fun q => by rw [if_neg (by omega)]
  have HF := Lib.hid (fun (w9 : World) (v9 : Value) => h.armed (w9 := w9) (v9 := v9) u (by omega) l _ hl hl2 (by rw [hb.len]; omega))
  generalize (if a < 1 then [] else l) = l2 at *
  obtain ⟨V, hV⟩ : ∃ V, V = w.setCell ⟨r.g, 5, none⟩ (.int .i64 (u : Int)) := ⟨_, rfl⟩
  have hsz : V.heap.size = w.heap.size := by rw [hV]; simp [World.setCell]
  have HX : Hid (Own (V.alloc (.cells #[] 5)) w.heap.size (.slice (some ⟨w.heap.size, 0, none⟩) 0 0) []) := Lib.hid (by
    rw [← hsz]
    exact ⟨rfl, .inr ⟨V.heap.size, 0, #[], rfl, Nat.le_refl _, heap_alloc_new _ _, Nat.le_refl _, by unfold maxLen; omega, rfl, rfl⟩⟩)
  have HAL : Hid (Below w.heap.size V (V.alloc (.cells #[] 5))) := Lib.hid (by rw [← hsz]; exact (Below.refl _ _).alloc (Nat.le_refl _) _)
  have hgl := blk_lt h.w.dev
  have hbV : BS V V.heap.size A n c9 l := by rw [hV]; exact BS.only hb ho (only_set (p := ⟨r.g, 5, none⟩) (World.grownBy.refl w _) (.inl rfl) _)
  have HS : Hid (BS (V.alloc (.cells #[] 5)) V.heap.size A n c9 l) := Lib.hid (hbV.below ((Below.refl _ _).alloc (Nat.le_refl _) _))
  have HL := Lib.hid hb.len
  have HSZ := Lib.hid hsz
  rw [← hV] at HF
  clear h hb hA ho hl hl2 hbV hsz
  have HN := Lib.hid hn
  subst hV
  by_cases ha : a < 0
  · obtain rfl : u = 0 := by omega
    clear hu
    rw [show ((0 : Nat) : Int) = 0 from rfl] at HX HAL HS HF HSZ
    go_enter Try.func34, Try.ntmps34
    go_wp2_with (at_builtin; refine wpList_plain rfl fun K0 hK => ?_; refine step_appsG _ (.tmp 13) (.tmp 14) rfl w.heap.size _ [] rfl HX.out _ A n c9 l rfl HS.out HA.out (by have := HN.out; simp; omega) (by have := HAL.out.size; have := HSZ.out; omega) ?_; intro v9 w9 ho9 hb9 _; rw [List.nil_append] at ho9; obtain ⟨c6, f6, hf⟩ := HF.out w9 v9 (HAL.out.trans hb9) ho9 (.returned (.tuple #[])); have HG := Lib.hid hf; obtain ⟨A9, c8, e9⟩ := own_form ho9; rw [HL.out] at e9; subst e9; clear ho9 hb9 hf; refine hK _ _ ?_)
    go_end0
    exact HG.out
  · obtain rfl : a = (u : Int) := by omega
    clear hu
    go_enter Try.func34, Try.ntmps34
    go_wp2_with (at_builtin; refine wpList_plain rfl fun K0 hK => ?_; refine step_appsG _ (.tmp 13) (.tmp 14) rfl w.heap.size _ [] rfl HX.out _ A n c9 l rfl HS.out HA.out (by have := HN.out; simp; omega) (by have := HAL.out.size; have := HSZ.out; omega) ?_; intro v9 w9 ho9 hb9 _; rw [List.nil_append] at ho9; obtain ⟨c6, f6, hf⟩ := HF.out w9 v9 (HAL.out.trans hb9) ho9 (.returned (.tuple #[])); have HG := Lib.hid hf; obtain ⟨A9, c8, e9⟩ := own_form ho9; rw [HL.out] at e9; subst e9; clear ho9 hb9 hf; refine hK _ _ ?_)
    go_end0
    exact HG.out
end
section
open Go.RowKit Go
set_option linter.unusedVariables false
set_option linter.unusedSimpArgs false
set_option maxRecDepth 100000
theorem put_flat (u : Wd → Nat → List Nat → Wd) (f : Wd → List Nat) (hu : ∀ x o q, f (u x o q) = splB (f x) o q) {ws : List Wd} (h : ∀ x ∈ ws, (f x).length = 8) (at_ : Nat) (l : List Nat) (hl : at_ + l.length ≤ 8 * ws.length) : (putW u at_ l ws).flatMap f = splB (ws.flatMap f) at_ l := by
  have hln : (ws.flatMap f).length = 8 * ws.length := by
    clear hl
    induction ws with
    | nil => rfl
    | cons a r ih =>
      rw [List.flatMap_cons, List.length_append, h a (List.mem_cons_self ..), ih (fun z hz => h z (List.mem_cons_of_mem _ hz)), List.length_cons]
      omega
  have h2 : ∀ x ∈ putW u at_ l ws, (f x).length = 8 := by
    intro x hx
    obtain ⟨i, hi⟩ := List.getElem?_of_mem hx
    rw [putW_at] at hi
    obtain ⟨y, hy, rfl⟩ := Option.map_eq_some_iff.mp hi
    have hn := h y (List.mem_of_getElem? hy)
    unfold putB
    split
    · rw [hu, splB_len (by rw [List.length_take, List.length_drop, hn]; omega), hn]
    · exact hn
  refine List.ext_getElem? fun p => ?_
  obtain ⟨i, j, hj, rfl⟩ : ∃ i j, j < 8 ∧ p = 8 * i + j := ⟨p / 8, p % 8, by omega, by omega⟩
  have e2 : splB (ws.flatMap f) at_ l = splice (ws.flatMap f) at_ l := rfl
  rw [flat8 f _ h2 i j hj, putW_at, e2, splice_get _ _ _ (by omega)]
  have e3 : (ws.flatMap f)[8 * i + j]? = (ws[i]?).bind fun x => (f x)[j]? := flat8 f ws h i j hj
  rw [e3]
  rcases hx : ws[i]? with _ | x
  · have hi : ws.length ≤ i := List.getElem?_eq_none_iff.mp hx
    rw [if_neg (by omega)]
    simp
  · have hn := h x (List.mem_of_getElem? hx)
    simp only [Option.map_some, Option.bind_some]
    unfold putB
    split
    · rename_i hc
      rw [hu]
      show (splice (f x) _ _)[j]? = _
      rw [splice_get _ _ _ (by rw [List.length_take, List.length_drop, hn]; omega), List.length_take, List.length_drop]
      by_cases hin : at_ ≤ 8 * i + j ∧ 8 * i + j < at_ + l.length
      · rw [if_pos hin, if_pos (by omega), List.getElem?_take_of_lt (by omega), List.getElem?_drop]
        congr 1
        omega
      · rw [if_neg hin, if_neg (by omega)]
    · rename_i hc
      rw [if_neg (by omega)]
theorem mapIdx_same {β : Type} (p : Wd → β) : ∀ (G : Nat → Wd → Wd) (r : List Wd), (∀ i x, p (G i x) = p x) → (r.mapIdx G).map p = r.map p
  | G, [], _ => rfl
  | G, x :: r, hG => by
    rw [List.mapIdx_cons, List.map_cons, List.map_cons, hG, mapIdx_same p (fun i => G (i + 1)) r (fun i x => hG (i + 1) x)]
theorem put_map {β : Type} (p : Wd → β) (u : Wd → Nat → List Nat → Wd) (hu : ∀ x o q, p (u x o q) = p x) (at_ : Nat) (l : List Nat) (ws : List Wd) : (putW u at_ l ws).map p = ws.map p := by
  refine mapIdx_same p _ ws fun i x => ?_
  unfold putB
  split
  · exact hu _ _ _
  · rfl
theorem putW_ok (u : Wd → Nat → List Nat → Wd) (hu : ∀ x : Wd, x.Ok → ∀ f q, f + q.length ≤ 8 → (∀ v ∈ q, v < 256) → (u x f q).Ok) (at_ : Nat) (l : List Nat) (hl : ∀ v ∈ l, v < 256) {ws : List Wd} (h : OkM ws) : OkM (putW u at_ l ws) := by
  intro x hx
  obtain ⟨i, hi⟩ := List.getElem?_of_mem hx
  rw [putW_at] at hi
  obtain ⟨y, hy, rfl⟩ := Option.map_eq_some_iff.mp hi
  have hn := h y (List.mem_of_getElem? hy)
  unfold putB
  split
  · refine hu y hn _ _ (by rw [List.length_take, List.length_drop]; omega) fun v hv => hl v (List.mem_of_mem_drop (List.mem_of_mem_take hv))
  · exact hn
theorem bs_bytes {W : World} {B n c : Nat} {A : Option Addr} {l : List Nat} (hb : BS W B A n c l) : ∀ v ∈ l, v < 256 := fun v hv => by
  obtain ⟨i, hi⟩ := List.getElem?_of_mem hv
  have := hb.byte i
  rw [List.getD_eq_getElem?_getD, hi] at this
  exact this
theorem bvals_splB (t q : List Nat) (a : Nat) : splice (bvals t) a (bvals q) = bvals (splB t a q) := (bvals_spl t q a).symm
/-- no word is marked that is not pending -/
def MkP (ws : List Wd) : Prop := ∀ x ∈ ws, x.mark = true → x.pend = true
theorem putW_mk (u : Wd → Nat → List Nat → Wd) (hu : ∀ x : Wd, (x.mark = true → x.pend = true) → ∀ f q, (u x f q).mark = true → (u x f q).pend = true) (at_ : Nat) (l : List Nat) {ws : List Wd} (h : MkP ws) : MkP (putW u at_ l ws) := by
  intro x hx
  obtain ⟨i, hi⟩ := List.getElem?_of_mem hx
  rw [putW_at] at hi
  obtain ⟨y, hy, rfl⟩ := Option.map_eq_some_iff.mp hi
  have hn := h y (List.mem_of_getElem? hy)
  unfold putB
  split
  · exact hu y hn _ _
  · exact hn
theorem turnW_mk (F : Nat → Wd → Wd) (hF : ∀ i (x : Wd), (x.mark = true → x.pend = true) → (F i x).mark = true → (F i x).pend = true) (a j : Nat) {ws : List Wd} (h : MkP ws) : MkP (turnW F a j ws) := by
  intro x hx
  obtain ⟨i, hi⟩ := List.getElem?_of_mem hx
  rw [turnW_at] at hi
  obtain ⟨y, hy, rfl⟩ := Option.map_eq_some_iff.mp hi
  have hn := h y (List.mem_of_getElem? hy)
  split
  · exact hF i y hn
  · exact hn
theorem turnW_ok (F : Nat → Wd → Wd) (hF : ∀ i (x : Wd), x.Ok → (F i x).Ok) (a j : Nat) {ws : List Wd} (h : OkM ws) : OkM (turnW F a j ws) := by
  intro x hx
  obtain ⟨i, hi⟩ := List.getElem?_of_mem hx
  rw [turnW_at] at hi
  obtain ⟨y, hy, rfl⟩ := Option.map_eq_some_iff.mp hi
  have hn := h y (List.mem_of_getElem? hy)
  split
  · exact hF i y hn
  · exact hn
set_option maxHeartbeats 2000000 in
theorem tamper_R (r : RI) (L N M n c9 : Nat) (kv av : Value) (pl : List Nat) (s : DSt) (at_ : Int) (A : Option Addr) (l : List Nat) (w : World) (h : RV w r L N M kv av pl s) (hb : BS w w.heap.size A n c9 l) (ho1 : Off n A r.bn) :
    Calls Try.prog 36 #[.pointer (some ⟨r.g, 0, none⟩), .int .i64 at_, .slice A n c9] w (RTo w r L N M kv av (.returned (.bool (hasB L at_ (n : Int)))) (s.tamper L at_ n l)) := by
  have k1 : w.cell? ⟨r.g, 1, none⟩ = some (.slice (some ⟨r.bn, 0, none⟩) N N) := h.w.cell 1
  have hN := h.sz.1
  have hL := h.L1
  unfold DSt.tamper
  have hno : hasB L at_ (n : Int) = false → RTo w r L N M kv av (.returned (.bool false)) ⟨if false = true then putW Wd.tam at_.toNat l s.ws else s.ws, s.off, s.k, s.al, s.u, s.pl⟩ (.returned (.bool false)) w := fun _ => h.stay _
  by_cases h1 : at_ < 0
  · have e : hasB L at_ (n : Int) = false := by unfold hasB; rw [decide_eq_false_iff_not]; omega
    have HF := Lib.hid (hno e)
    rw [e]
    clear h hb hno hN e ho1
    go_enter Try.func36, Try.ntmps36
    go_wp2
    go_ret
    exact HF.out
  · by_cases h2 : (N : Int) < (n : Int)
    · have e : hasB L at_ (n : Int) = false := by unfold hasB; rw [decide_eq_false_iff_not]; omega
      have HF := Lib.hid (hno e)
      rw [e]
      clear h hb hno hN e ho1
      go_enter Try.func36, Try.ntmps36
      go_wp2
      go_ret
      exact HF.out
    · obtain ⟨d, hd⟩ : ∃ d : Int, d = (N : Int) - (n : Int) := ⟨_, rfl⟩
      have hw : IntKind.i64.wrap ((N : Int) - (n : Int)) = d := by rw [← hd]; exact IntWalk.i64_in _ ⟨by omega, by omega⟩
      by_cases h3 : d < at_
      · have e : hasB L at_ (n : Int) = false := by unfold hasB; rw [decide_eq_false_iff_not]; omega
        have HF := Lib.hid (hno e)
        rw [e]
        clear h hb hno hN e ho1 hd
        go_enter Try.func36, Try.ntmps36
        go_wp2
        go_ret
        exact HF.out
      · have e : hasB L at_ (n : Int) = true := by unfold hasB; rw [decide_eq_true_eq]; omega
        rw [e]
        obtain ⟨a, rfl⟩ : ∃ a : Nat, at_ = (a : Int) := ⟨at_.toNat, by omega⟩
        rw [Int.toNat_natCast, if_pos rfl]
        obtain ⟨m, hm⟩ : ∃ m, m = N - a := ⟨_, rfl⟩
        have han : a + n ≤ N := by omega
        have hll := hb.len
        have hs : ∀ q, ∀ W : World, (Instr.slice 28 (.slice (some ⟨q, 0, none⟩) N N) (some (.int .i64 (a : Int))) none none).run Try.prog W = .ok (.slice (cutA (some ⟨q, 0, none⟩) N a) m m) W := fun q W => by
          have := run_cut 28 5 Try.underlying28 (show (Try.prog.info? 5).map (·.size) = some 1 by kernel_rfl) (some ⟨q, 0, none⟩) N N a (by omega) W
          rwa [← hm] at this
        have hs1 := hs r.bn
        have hs2 := hs r.bl
        have HQ : Hid (∀ q, 0 < n → cutA (some ⟨q, 0, none⟩) N a = some ⟨q, a, none⟩) := Lib.hid (fun q h0 => by
          unfold cutA
          rw [if_neg (by omega)]
          simp [Go.WideShapes.add_plain])
        obtain ⟨C1, hC1⟩ : ∃ C1, C1 = cutA (some ⟨r.bn, 0, none⟩) N a := ⟨_, rfl⟩
        obtain ⟨C2, hC2⟩ : ∃ C2, C2 = cutA (some ⟨r.bl, 0, none⟩) N a := ⟨_, rfl⟩
        rw [← hC1] at hs1
        rw [← hC2] at hs2
        have HC1 := Lib.hid hC1
        have HC2 := Lib.hid hC2
        have HB := Lib.hid hb
        have HW := Lib.hid h.w
        have HLN := Lib.hid (And.intro h.w.ln.2.1 h.w.ln.1)
        have HH := Lib.hid h
        have HO := Lib.hid ho1
        have HCL : Hid ((bvals l).length = n) := Lib.hid (by rw [bvals_len]; exact hll)
        have HMN : Hid (n ≤ m ∧ a + n ≤ N) := Lib.hid ⟨by omega, han⟩
        have HLL := Lib.hid hll
        have hb2 := bs_bytes hb
        have HBY := Lib.hid hb2
        have hN2 := Lib.hid hN
        have HE1 : Hid ((bvals l).length = Nat.min n m) := Lib.hid (HCL.out.trans (Nat.min_eq_left HMN.out.1).symm)
        have HP1 : Hid (0 < (bvals l).length → C1 = some ⟨r.bn, a, none⟩ ∧ ∃ ad, A = some ad ∧ ∀ j v, (bvals l)[j]? = some v → w.cell? (ad.add j) = some v) := Lib.hid (fun h0 => ⟨by rw [HC1.out]; exact HQ.out r.bn (by rw [← HCL.out]; exact h0), bs_all HB.out (by rw [← HCL.out]; exact h0)⟩)
        have HF1 : Hid (a + (bvals l).length ≤ (bvals (nowsL s.ws)).length) := Lib.hid (by rw [HCL.out, bvals_len, HLN.out.1]; exact HMN.out.2)
        have HF2 : Hid (a + (bvals l).length ≤ (bvals (lastsQ s.ws)).length) := Lib.hid (by rw [HCL.out, bvals_len, HLN.out.2]; exact HMN.out.2)
        have HO1 : Hid (∀ v ∈ bvals l, v.oneCell' = true) := Lib.hid (bvals_one _)
        clear h hb hno hN e ho1 hd hm han hll hs hC1 hC2 hb2
        go_enter Try.func36, Try.ntmps36
        go_upto_region 4 with (with_reducible refine wp_copy_only rfl (.tmp 36) (.tmp 37) 28 28 rfl 5 Try.underlying28 size_u8 C1 A m m n c9 rfl rfl r.bn a (bvals (nowsL s.ws)) 5 HW.out.hn (bvals l) HE1.out HP1.out HF1.out HO1.out ?_; intro w3 hq3 hg3)
        rw [bvals_splB] at hq3
        have hw3 := HW.out.now' hg3 hq3.out (by rw [splB_len (by rw [HLL.out, HLN.out.1]; exact HMN.out.2)]; exact HLN.out.1) (splB_ok (by rw [HLL.out, HLN.out.1]; exact HMN.out.2) HW.out.by_.2.1 HBY.out)
        have HW3 := Lib.hid hw3
        have k0 : w3.cell? ⟨r.g, 0, none⟩ = some (.slice (some ⟨r.bl, 0, none⟩) N N) := hw3.cell 0
        have HB3 := Lib.hid (BS.only HB.out HO.out hg3)
        have HG3 := Lib.hid hg3
        have HP2 : Hid (0 < (bvals l).length → C2 = some ⟨r.bl, a, none⟩ ∧ ∃ ad, A = some ad ∧ ∀ j v, (bvals l)[j]? = some v → w3.cell? (ad.add j) = some v) := Lib.hid (fun h0 => ⟨by rw [HC2.out]; exact HQ.out r.bl (by rw [← HCL.out]; exact h0), bs_all HB3.out (by rw [← HCL.out]; exact h0)⟩)
        clear hw3 hq3 hg3
        rw [HCL.out]
        go_wp2_with (with_reducible refine wp_copy_only rfl (.tmp 44) (.tmp 45) 28 28 rfl 5 Try.underlying28 size_u8 C2 A m m n c9 rfl rfl r.bl a (bvals (lastsQ s.ws)) 5 HW3.out.hl (bvals l) HE1.out HP2.out HF2.out HO1.out ?_; intro w4 hq4 hg4)
        rw [bvals_splB] at hq4
        have hw4 := HW3.out.lasts' hg4 hq4.out (by rw [splB_len (by rw [HLL.out, HLN.out.2]; exact HMN.out.2)]; exact HLN.out.2) (splB_ok (by rw [HLL.out, HLN.out.2]; exact HMN.out.2) HW.out.by_.1 HBY.out)
        have hfit : a + l.length ≤ 8 * s.ws.length := by rw [HLL.out, HH.out.len]; have := HMN.out.2; have := hN2.out; omega
        have HF : Hid (RTo w r L N M kv av (.returned (.bool true)) ⟨putW Wd.tam a l s.ws, s.off, s.k, s.al, s.u, s.pl⟩ (.returned (.bool true)) w4) := Lib.hid (by
          refine ⟨rfl, kv, av, pl, ⟨?_, putW_ok Wd.tam (fun x hx f q hf hq => hx.tam hf hq) a l HBY.out HH.out.ok, by rw [putW_len]; exact HH.out.len, HH.out.L1, HH.out.sz, HH.out.pu, HH.out.u2, putW_mk Wd.tam (fun x hx f q => hx) a l HH.out.mkp, HH.out.one⟩, ?_, fun j q => .inl q⟩
          · show RW w4 r N M kv av pl s.off s.u s.k s.al (lastsQ (putW Wd.tam a l s.ws)) (nowsL (putW Wd.tam a l s.ws)) ((putW Wd.tam a l s.ws).map (·.pend)) ((putW Wd.tam a l s.ws).map (·.mark))
            rw [put_map (·.pend) Wd.tam (fun _ _ _ => rfl), put_map (·.mark) Wd.tam (fun _ _ _ => rfl)]
            have e1 : lastsQ (putW Wd.tam a l s.ws) = splB (lastsQ s.ws) a l := put_flat Wd.tam Wd.lasts (fun _ _ _ => rfl) (fun x hx => (HH.out.ok x hx).l) a l hfit
            have e2 : nowsL (putW Wd.tam a l s.ws) = splB (nowsL s.ws) a l := put_flat Wd.tam Wd.now (fun _ _ _ => rfl) (fun x hx => (HH.out.ok x hx).n) a l hfit
            rw [e1, e2]
            exact hw4
          · exact (Turns.of_grown (S := RS r kv av) HG3.out (fun j e => by injection e with e; exact .inr (.inr (.inl e.symm)))).trans (S' := RS r kv av) (Turns.of_grown (S := RS r kv av) hg4 (fun j e => by injection e with e; exact .inr (.inl e.symm))) (fun _ _ q => q))
        rw [HCL.out]
        clear hw4 hq4 hg4 hfit
        go_wp2
        go_ret
        exact HF.out
end
end Go.Proofs.Ythigknolpdohoaa
