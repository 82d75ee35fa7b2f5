/-
  What meet leaves: pure facts; single operations.
-/
import Derived.Test.YtoclelpmampikaaGreatBkC
import Derived.Test.YtoclelpmampikaaGreatHeldF
import Derived.Test.YtoclelpmampikaaGreatCls
namespace Go.Proofs.YtoclelpmampikaaGreat
open Go.RowKit Go
set_option linter.unusedVariables false
set_option linter.unusedSimpArgs false
/-! ### single operations -/
theorem exec_row {P : Program} {o : Oper} {a : Act} {w : World} (ty : TypeId) (x : Operand) (ho : o.op = .load ty x) (b off : Nat) (hx : a.eval x = .pointer (some ⟨b, off, none⟩)) (cs : List Value) (d : TypeDesc)
    (hS : w.rangeAt b off cs) (hu : P.underlying ty = some d) (hd : d.isRow = true) (hi : (P.info? ty).map (·.size) = some cs.length) : (execOp a.eval o).run P w = .ok (.value (.agg cs.toArray)) w := by
  unfold execOp
  simp only [ho, hx, Instr.loadAt, Instr.sureAddr, Sem.run_bind, Sem.run_pure, Result.andThen_ok, run_loadVar_mid w b off ty cs d hS hu hd hi]
theorem exec_look {P : Program} {o : Oper} {a : Act} {w : World} (t : TypeId) (x y : Operand) (ho : o.op = .lookup t x y false) (m k v : Value) (hx : a.eval x = m) (hy : a.eval y = k) (hr : (Instr.lookup t m k false).run P w = .ok v w) :
    (execOp a.eval o).run P w = .ok (.value v) w := by
  unfold execOp
  simp only [ho, hx, hy, Sem.run_bind, Sem.run_pure, hr, Result.andThen_ok]
theorem step_apd {P : Program} {K0 : Act → World → Prop} {o : Oper} {a : Act} {Q : Exit → Act → World → Prop} (W : World) (t ty : TypeId) (s x : Operand) (ho : o.op = .call { callee := .builtin .append, args := #[s, x], argTypes := #[t, t] }) (hty : o.type = ty)
    (v y v' : Value) (w' : World) (hs : a.eval s = v) (hx : a.eval x = y) (hr : (Builtin.append_ #[t, t] ty #[v, y]).run P W = .ok v' w') (h : K0 (a.put o.dst v') w') : Oper.wp P o a W K0 Q := by
  subst hty
  unfold Oper.wp execOp
  simp only [ho, resolve, invoke, builtin, Sem.run_bind, Sem.run_pure, Result.andThen_ok, List.map_toArray, List.map_cons, List.map_nil, hs, hx, hr]
  exact h
theorem step_put {P : Program} {K0 : Act → World → Prop} {o : Oper} {a : Act} {Q : Exit → Act → World → Prop} (W : World) (t : TypeId) (m x v : Operand) (ho : o.op = .mapUpdate t m x v)
    (M key val : Value) (w' : World) (hm : a.eval m = M) (hx : a.eval x = key) (hv : a.eval v = val) (hr : (Instr.mapUpdate t M key val).run P W = .ok () w') (h : K0 (a.put o.dst undef) w') : Oper.wp P o a W K0 Q := by
  unfold Oper.wp
  simp [execOp, ho, hm, hx, hv, hr, Result.andThen]
  exact h
theorem bk_eql_row (W : World) (a : Option Addr) (n c : Nat) : (binOp .eql 75 (.slice a n c) (.slice none 0 0)).run Tryz.prog W = .ok (.bool a.isNone) W := by
  simp [binOp, run_equal_slice_nil W 75 89 a n c Tryz.underlying75]
section
variable {w w' : World} {b g bm : Nat} {S S' : Nat → Prop} {T sh : List (List Nat)} {f : List Nat → Value} {vs : Value}
theorem BkSt.cells (h : BkSt w b g S T sh bm f vs) : w.cell? ⟨b, 0, none⟩ = some (.func (Fn.func 38) #[.pointer (some ⟨g, 0, none⟩)] #[]) ∧ w.cell? ⟨b, 1, none⟩ = some (.map (some bm)) ∧ w.cell? ⟨b, 2, none⟩ = some (.int .i64 (T.length : Int)) ∧ w.cell? ⟨b, 3, none⟩ = some vs ∧ ∀ i, w.frozen? ⟨b, i, none⟩ = false :=
  ⟨blk_cell h.blk 0, blk_cell h.blk 1, blk_cell h.blk 2, blk_cell h.blk 3, fun i => blk_free h.blk i⟩
theorem BkSt.more (h : BkSt w b g S T sh bm f vs) (hs : ∀ j, S j → S' j) (hu : ∀ k, S' k → k < w.heap.size) : BkSt w b g S' T sh bm f vs := h.keep (fun _ _ => rfl) hs hu
theorem BkSt.dr (h : BkSt w b g S T sh bm f vs) : BkSt w.drew b g S T sh bm f vs := h.keep (fun _ _ => rfl) (fun _ hj => hj) (fun k hk => h.sub k hk)
/-- a text is kept: what the operations answer, and what is left -/
theorem BkSt.tail (h : BkSt w b g S T sh bm f vs) {t : List Nat} {V : Value} (ht : TI w S t V) (hT : T.length < 16384) (ty : TypeId) :
    ∃ v' w1 w2, (Builtin.append_ #[75, 75] ty #[f (Sha.sum t), .slice (some ⟨w.heap.size, 0, none⟩) 1 1]).run Tryz.prog (w.alloc (.cells #[V] 89)) = .ok v' w1 ∧
      (Instr.mapUpdate 74 (.map (some bm)) (dV (Sha.sum t)) v').run Tryz.prog w1 = .ok () w2 ∧
      (∀ k, k < w.heap.size → ¬ S k → w1.heap[k]? = w.heap[k]? ∧ w2.heap[k]? = w.heap[k]?) ∧ w1.heap[b]? = w.heap[b]? ∧ w2.heap[b]? = w.heap[b]? ∧
      Turns S w (w2.setCell ⟨b, 2, none⟩ (.int .i64 ((T.length + 1 : Nat) : Int))) ∧
      BkSt (w2.setCell ⟨b, 2, none⟩ (.int .i64 ((T.length + 1 : Nat) : Int))) b g (fun k => S k ∨ (w.heap.size ≤ k ∧ k < (w2.setCell ⟨b, 2, none⟩ (.int .i64 ((T.length + 1 : Nat) : Int))).heap.size)) (T ++ [t]) sh bm (fun e => if e = Sha.sum t then v' else f e) vs := by
  have hs := bk_dig t
  obtain ⟨w0, hw0⟩ : ∃ w0, w0 = w.alloc (.cells #[V] 89) := ⟨_, rfl⟩
  rw [← hw0]
  have h0 : Below w.heap.size w w0 := by rw [hw0]; exact (Below.refl _ _).alloc (Nat.le_refl _) _
  have hz0 : w0.heap.size = w.heap.size + 1 := by rw [hw0]; simp
  have hz : w.heap.size ≤ w0.heap.size := h0.size
  have hkeep0 : ∀ j, S j → w0.heap[j]? = w.heap[j]? := fun j hj => h0.block j (h.sub j hj)
  have hcell : w0.cell? ⟨w.heap.size, 0, none⟩ = some V := by rw [hw0]; exact blk_cell (heap_alloc_new w _) 0
  have hR := (h.rows _ hs).keep (w' := w0) (S' := S) (fun j _ hj => hkeep0 j hj) (fun j hj => hj)
  have hV := ht.keep (w' := w0) (S' := S) (fun j _ hj => hkeep0 j hj) (fun j hj => hj)
  obtain ⟨v', w1, hr, hT1, hg1, hv1⟩ := hR.app (by have := atD_len T (Sha.sum t); omega) hV hcell ty
  have hm1 : BM w1 bm T.length f := by
    refine (h.map.keep (hkeep0 bm h.sbm)).keep (hg1.block bm (by have := h.map.lt; omega) fun e => ?_)
    obtain ⟨cs, hc⟩ := (h.rows _ hs).typ e.symm
    obtain ⟨es, c, hb⟩ := h.map.obj
    rw [hb] at hc; cases hc
  obtain ⟨w2, hr2, hm2, hg2⟩ := hm1.put (by omega) hs v'
  have hfb : (f (Sha.sum t)).ownBlock ≠ some b := fun e => by
    obtain ⟨cs, hc⟩ := (h.rows _ hs).typ e
    rw [h.blk] at hc
    have e2 := Option.some.inj hc
    injection e2 with _ e3 _
    exact absurd e3 (by decide)
  have hfS : ∀ k, (f (Sha.sum t)).ownBlock = some k → S k := fun k hk => ((h.rows _ hs).lt hk).2
  have hbl := h.sub b h.sb
  have hz1 : w0.heap.size ≤ w1.heap.size := hg1.size
  have k1 : ∀ k, k < w.heap.size → (f (Sha.sum t)).ownBlock ≠ some k → w1.heap[k]? = w.heap[k]? := fun k hk hn => (hg1.block k (by omega) (fun e => hn e.symm)).trans (h0.block k hk)
  have k2 : ∀ k, k < w.heap.size → (f (Sha.sum t)).ownBlock ≠ some k → k ≠ bm → w2.heap[k]? = w.heap[k]? := fun k hk hn hn2 => (hg2.block k (by omega) (fun e => hn2 (Option.some.inj e))).trans (k1 k hk hn)
  have hbst : BkSt (w2.setCell ⟨b, 2, none⟩ (.int .i64 ((T.length + 1 : Nat) : Int))) b g (fun k => S k ∨ (w.heap.size ≤ k ∧ k < (w2.setCell ⟨b, 2, none⟩ (.int .i64 ((T.length + 1 : Nat) : Int))).heap.size)) (T ++ [t]) sh bm (fun e => if e = Sha.sum t then v' else f e) vs := by
    exact h.put (n0 := w0.heap.size) ht hT h0 rfl hT1 hg1 hv1 hm2 hg2 rfl
  refine ⟨v', w1, w2, hr, hr2, fun k hk hn => ⟨k1 k hk fun e => hn (hfS k e), k2 k hk (fun e => hn (hfS k e)) (fun e => hn (e ▸ h.sbm))⟩, k1 b hbl hfb, k2 b hbl hfb h.ne_m, ?_, hbst⟩
  have t0 : Turns S w w0 := Turns.of_below h0
  have t1 : Turns S w w1 := t0.trans (Turns.of_grown hg1 (S := S) fun j hj => hfS j hj) fun j _ hj => hj
  have t2 : Turns S w w2 := t1.trans (Turns.of_grown hg2 (S := S) fun j hj => by obtain rfl := Option.some.inj hj; exact h.sbm) fun j _ hj => hj
  exact t2.trans (Turns.set ⟨b, 2, none⟩ _ h.sb) fun j _ hj => hj
end
end Go.Proofs.YtoclelpmampikaaGreat
