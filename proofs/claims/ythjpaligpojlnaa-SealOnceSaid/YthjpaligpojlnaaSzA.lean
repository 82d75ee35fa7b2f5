/-
  Joined: HeldF, Cel, Turn, SeO, SeP, SeQ.
-/
import Derived.OrdersHeld
import Derived.Deep.RegionHeld
import Derived.Deep.MidRow
import Derived.Deep.AppendLies
import Derived.Test.YthjpaligpojlnaaVal
import Derived.OwnWalk
import Derived.WalkKit
import Derived.Below
import Derived.Test.YthjpaligpojlnaaSzE
import Derived.Test.YthjpaligpojlnaaSzC
import Derived.Laws.Cover3
namespace Go.Proofs.Ythjpaligpojlnaa
set_option maxRecDepth 100000
section
open Go
set_option linter.unusedVariables false
section
variable {P : Program} {ops : Array Oper} {Q : Exit → Act → World → Prop} {md : Region.Mode} {S : World → Prop} {fin : List Nat}
/-- each of the operations fin waits for number i -/
def waitsAll (md : Region.Mode) (ops : Array Oper) (fin : List Nat) (i : Nat) : Bool :=
  fin.all fun k => match ops[k]? with | some o => o.after.any (fun e => Region.binds md e && e.on == i) | none => false
theorem waits_one {i k : Nat} {o : Oper} (h : waitsAll md ops fin i = true) (hk : k ∈ fin) (ho : ops[k]? = some o) : ∃ e ∈ o.after, Region.binds md e = true ∧ e.on = i := by
  have h1 := List.all_eq_true.mp h k hk
  simp only [ho] at h1
  obtain ⟨e, he, hb⟩ := Array.any_eq_true'.1 h1
  simp only [Bool.and_eq_true, beq_iff_eq] at hb
  exact ⟨e, he, hb.1, hb.2⟩
/-- whatever order is picked from here on, and S holds behind each operation but those of fin -/
def wpAnyF (P : Program) (md : Region.Mode) (ops : Array Oper) (Q : Exit → Act → World → Prop) (S : World → Prop) (fin : List Nat) : Nat → Array Bool → Act → World → Prop
  | 0, listed, a, w => Region.ready md ops listed = [] ∧ Q .normal a w
  | fuel + 1, listed, a, w =>
    (Region.ready md ops listed = [] → Q .normal a w) ∧
    ∀ i ∈ Region.ready md ops listed, wpOp P ops Q i (fun a' w' => (i ∉ fin → S w') ∧ wpAnyF P md ops Q S fin fuel (listed.setIfInBounds i true) a' w') a w
theorem wpAny_of_F : ∀ (fuel : Nat) (listed : Array Bool) (a : Act) (w : World), wpAnyF P md ops Q S fin fuel listed a w → wpAny P md ops Q fuel listed a w
  | 0, _, _, _, h => h
  | fuel + 1, _, _, _, h => ⟨h.1, fun i hi => wpOp_mono (fun a' w' h' => wpAny_of_F fuel _ a' w' h'.2) (h.2 i hi)⟩
theorem wpAnyF_first {i : Nat} {oi : Oper} {v : Value} (hi : ops[i]? = some oi) (hsel : ∀ (j : Nat) (o : Oper) cs b, ops[j]? = some o → o.op ≠ .select cs b)
    (hQ : ∀ c a w, Q (.panic c) (a.put oi.dst v) w → Q (.panic c) a w) (hfin : waitsAll md ops fin i = true) :
    ∀ (fuel : Nat) (listed : Array Bool) (a : Act) (w : World),
      (∀ j oj, ops[j]? = some oj → j ≠ i → listed.getD j true = false → (∀ e ∈ oj.after, Region.binds md e = true → e.on ≠ i) → oi.apart ops oj = true) →
      i ∈ Region.ready md ops listed → YieldsIf P ops S oi v a → S w →
      wpAnyF P md ops Q S fin fuel (listed.setIfInBounds i true) (a.put oi.dst v) w → wpAnyF P md ops Q S fin (fuel + 1) listed a w := by
  intro fuel
  induction fuel with
  | zero =>
    intro listed a w _ hr hy hS H
    refine ⟨fun h => (by rw [h] at hr; cases hr), fun j hj => ?_⟩
    by_cases hji : j = i
    · subst hji; exact hy.wpOp hi hS ⟨fun _ => hS, H⟩
    · have := ready_mono hj hji
      rw [H.1] at this
      cases this
  | succ fuel ih =>
    intro listed a w hfree hr hy hS H
    refine ⟨fun h => (by rw [h] at hr; cases hr), fun j hj => ?_⟩
    by_cases hji : j = i
    · subst hji; exact hy.wpOp hi hS ⟨fun _ => hS, H⟩
    · obtain ⟨hjun, oj, hoj, hall⟩ := mem_ready.1 hj
      have hnot : ∀ e ∈ oj.after, Region.binds md e = true → e.on ≠ i := fun e he hb heq => by
        have h1 := hall e he hb
        have h0 := (mem_ready.1 hr).1
        rw [heq] at h1
        rcases Nat.lt_or_ge i listed.size with h' | h'
        · simp [h'] at h0 h1; rw [h0] at h1; cases h1
        · simp [Array.getElem?_eq_none h'] at h1
      have hjf : j ∉ fin := fun hm => by
        obtain ⟨e, he, hb, hon⟩ := waits_one hfin hm hoj
        exact hnot e he hb hon
      have h1 := H.2 j (ready_mono hj hji)
      have h2 := wpOp_putIf hoj (hfree j oj hoj hji hjun hnot) (fun cs b => hsel i oi cs b hi) (fun cs b => hsel j oj cs b hoj) hQ hy h1
      have hfree' : ∀ k ok, ops[k]? = some ok → k ≠ i → (listed.setIfInBounds j true).getD k true = false →
          (∀ e ∈ ok.after, Region.binds md e = true → e.on ≠ i) → oi.apart ops ok = true := fun k ok hk hki hun hno => by
        refine hfree k ok hk hki ?_ hno
        by_cases hjk : j = k
        · subst hjk; exact hjun
        · rw [getD_set_ne true hjk] at hun; exact hun
      refine wpOp_mono (fun a' w' h3 => ⟨h3.2.1, ih (listed.setIfInBounds j true) a' w' hfree' (ready_mono hr (Ne.symm hji)) h3.1 (h3.2.1 hjf) ?_⟩) h2
      rw [Array.setIfInBounds_comm _ _ hji]
      exact h3.2.2
theorem wpAnyF_take {i : Nat} {oi : Oper} {v : Value} {fuel : Nat} {listed : Array Bool} {a : Act} {w : World} (hi : ops[i]? = some oi)
    (hs : Region.noSelect ops = true) (hf : Region.free md ops listed i = true) (hr : (Region.ready md ops listed).contains i = true) (hfin : waitsAll md ops fin i = true)
    (hQ : ∀ c a w, Q (.panic c) (a.put oi.dst v) w → Q (.panic c) a w) (hy : YieldsIf P ops S oi v a) (hS : S w)
    (h : wpAnyF P md ops Q S fin fuel (listed.setIfInBounds i true) (a.put oi.dst v) w) : wpAnyF P md ops Q S fin (fuel + 1) listed a w :=
  wpAnyF_first hi (Region.noSelect_spec hs) hQ hfin fuel listed a w (Region.free_spec hi hf) (by simpa using hr) hy hS h
def AllReadyF (P : Program) (md : Region.Mode) (ops : Array Oper) (Q : Exit → Act → World → Prop) (S : World → Prop) (fin : List Nat) (fuel : Nat) (listed : Array Bool) (a : Act) (w : World) (rs : List Nat) : Prop :=
  ∀ i ∈ rs, wpOp P ops Q i (fun a' w' => (i ∉ fin → S w') ∧ wpAnyF P md ops Q S fin fuel (listed.setIfInBounds i true) a' w') a w
theorem AllReadyF.nil {fuel : Nat} {listed : Array Bool} {a : Act} {w : World} : AllReadyF P md ops Q S fin fuel listed a w [] := fun _ h => by cases h
theorem AllReadyF.cons {fuel : Nat} {listed : Array Bool} {a : Act} {w : World} {i : Nat} {o : Oper} {rs : List Nat} (ho : ops[i]? = some o)
    (h : ∀ K' : Act → World → Prop, Shut (∀ a w, S w → (S w → wpAnyF P md ops Q S fin fuel (listed.setIfInBounds i true) a w) → K' a w) → if Region.wanted o (yielded ops a.tmps) = true then Oper.wp P o a w K' Q else K' (a.put o.dst undef) w)
    (hs : AllReadyF P md ops Q S fin fuel listed a w rs) : AllReadyF P md ops Q S fin fuel listed a w (i :: rs) := fun j hj => by
  rcases List.mem_cons.1 hj with rfl | hj
  · exact wpOp_step ho (fun K' hK => h K' (fun a w hS hW => hK a w ⟨fun _ => hS, hW hS⟩))
  · exact hs j hj
/-- .. one of the last ones: behind it S is not asked -/
theorem AllReadyF.last {fuel : Nat} {listed : Array Bool} {a : Act} {w : World} {i : Nat} {o : Oper} {rs : List Nat} (ho : ops[i]? = some o) (hm : fin.contains i = true)
    (h : ∀ K' : Act → World → Prop, Shut (∀ a w, wpAnyF P md ops Q S fin fuel (listed.setIfInBounds i true) a w → K' a w) → if Region.wanted o (yielded ops a.tmps) = true then Oper.wp P o a w K' Q else K' (a.put o.dst undef) w)
    (hs : AllReadyF P md ops Q S fin fuel listed a w rs) : AllReadyF P md ops Q S fin fuel listed a w (i :: rs) := fun j hj => by
  rcases List.mem_cons.1 hj with rfl | hj
  · exact wpOp_step ho (fun K' hK => h K' (fun a w hW => hK a w ⟨fun hn => absurd (by simpa using hm) hn, hW⟩))
  · exact hs j hj
theorem wpAnyF_ready {rs : List Nat} {fuel : Nat} {listed : Array Bool} {a : Act} {w : World} (hr : Region.ready md ops listed = rs) (hne : rs ≠ [])
    (h : AllReadyF P md ops Q S fin fuel listed a w rs) : wpAnyF P md ops Q S fin (fuel + 1) listed a w :=
  ⟨fun h0 => absurd (hr ▸ h0) hne, hr ▸ h⟩
theorem wpAnyF_done {listed : Array Bool} {a : Act} {w : World} (hr : Region.ready md ops listed = []) (h : Q .normal a w) : ∀ fuel, wpAnyF P md ops Q S fin fuel listed a w
  | 0 => ⟨hr, h⟩
  | _ + 1 => ⟨fun _ => h, by rw [hr]; simp⟩
theorem wp_region_F {id : Nat} {a : Act} {w : World} (fin : List Nat) (hm : P.follows .mixedOrders = true) (hS : S w.drew)
    (h : S w.drew → wpAnyF P .any ops Q S fin ops.size (Array.replicate ops.size false) a w.drew) : (Code.region id ops true).wp P Q a w :=
  wp_region_any hm (wpAny_of_F _ _ _ _ (h hS))
end
end
section
open Go.RowKit Go
set_option linter.unusedVariables false
/-- the first n cells of block g are F 0, F 1, .. and may be written -/
structure Cells (W : World) (g n : Nat) (F : Nat → Value) : Prop where
  lt : g < W.heap.size
  cell : ∀ i, i < n → W.cell? ⟨g, i, none⟩ = some (F i)
  free : ∀ i, i < n → W.frozen? ⟨g, i, none⟩ = false
theorem size_setCells (b : Nat) : ∀ (vs : List Value) (o : Nat) (w : World), (w.setCells b o vs).heap.size = w.heap.size
  | [], _, _ => rfl
  | v :: r, o, w => by rw [World.setCells, size_setCells b r]; simp [World.setCell]
theorem below_setCells (b : Nat) : ∀ (vs : List Value) (o : Nat) {B : Nat} {a w : World}, Below B a w → B ≤ b → Below B a (w.setCells b o vs)
  | [], _, _, _, _, h, _ => h
  | v :: r, o, _, _, _, h, hb => below_setCells b r (o + 1) (h.setCell (p := ⟨b, o, none⟩) hb v) hb
theorem heap_setCells (b : Nat) : ∀ (vs : List Value) (o : Nat) (w : World) (k : Nat), k ≠ b → (w.setCells b o vs).heap[k]? = w.heap[k]?
  | [], _, _, _, _ => rfl
  | v :: r, o, w, k, h => by rw [World.setCells, heap_setCells b r _ _ k h]; exact Below.heap_setCell _ _ _ _ h
section
variable {W W' : World} {g n : Nat} {F G : Nat → Value}
theorem Cells.of_blk {t : TypeId} {cs : Array Value} (h : W.heap[g]? = some (.cells cs t (0, 0))) (hc : ∀ i, i < n → cs[i]? = some (F i)) : Cells W g n F :=
  ⟨blk_lt h, fun i hi => (blk_cell h i).trans (hc i hi), fun i _ => blk_free h i⟩
theorem Cells.congr (h : Cells W g n F) (e : ∀ i, i < n → F i = G i) : Cells W g n G := ⟨h.lt, fun i hi => (h.cell i hi).trans (by rw [e i hi]), h.free⟩
theorem Cells.same (h : Cells W g n F) (hs : W.heap.size ≤ W'.heap.size) (e : W'.heap[g]? = W.heap[g]?) : Cells W' g n F :=
  ⟨Nat.lt_of_lt_of_le h.lt hs, fun i hi => (World.cell?_of_block e).trans (h.cell i hi), fun i hi => (World.frozen?_of_block e).trans (h.free i hi)⟩
theorem Cells.below {B : Nat} (h : Cells W g n F) (hb : Below B W W') (hg : g < B) : Cells W' g n F := h.same hb.size (hb.block g hg)
theorem Cells.after (h : Cells W g n F) (hb : Below W.heap.size W W') : Cells W' g n F := h.below hb h.lt
theorem Cells.alloc (h : Cells W g n F) (o : Obj) : Cells (W.alloc o) g n F := h.same (by simp) (Below.heap_alloc _ _ _ h.lt)
theorem Cells.drew (h : Cells W g n F) : Cells W.drew g n F := ⟨h.lt, h.cell, h.free⟩
theorem Cells.drewN (h : Cells W g n F) (k : Nat) : Cells (W.drewN k) g n F := ⟨h.lt, h.cell, h.free⟩
theorem Cells.only {row : Option Nat} (h : Cells W g n F) (hb : W.grownBy W' row) (hg : some g ≠ row) : Cells W' g n F := h.same hb.size (hb.block g h.lt hg)
theorem Cells.far (h : Cells W g n F) {p : Addr} (hp : g ≠ p.block) (u : Value) : Cells (W.setCell p u) g n F := h.same (by simp [World.setCell]) (Below.heap_setCell _ _ _ _ hp)
theorem Cells.set_ (h : Cells W g n F) {k : Nat} (hk : k < n) (v : Value) : Cells (W.setCell ⟨g, k, none⟩ v) g n (fun i => if i = k then v else F i) := by
  refine ⟨by rw [size_set]; exact h.lt, fun i hi => ?_, fun i hi => by rw [World.frozen?_setCell]; exact h.free i hi⟩
  by_cases e : i = k
  · subst e; rw [if_pos rfl]; exact World.cell?_setCell_same _ _ _ (h.cell i hi)
  · rw [if_neg e, World.cell?_setCell_other _ _ _ _ (by intro q; injection q with _ q; exact e q.symm)]; exact h.cell i hi
theorem Cells.sets (h : Cells W g n F) {o : Nat} {vs : List Value} (hk : o + vs.length ≤ n) : Cells (W.setCells g o vs) g n (fun i => if o ≤ i ∧ i < o + vs.length then vs.getD (i - o) undef else F i) := by
  refine ⟨by rw [size_setCells]; exact h.lt, fun i hi => ?_, fun i hi => by rw [World.frozen?_setCells]; exact h.free i hi⟩
  by_cases e : o ≤ i ∧ i < o + vs.length
  · rw [if_pos e]
    obtain ⟨j, rfl⟩ : ∃ j, i = o + j := ⟨i - o, by omega⟩
    rw [World.cell?_setCells_in g vs o W (fun q hq => by rw [h.cell _ (by omega)]; rfl) j (by omega), Nat.add_sub_cancel_left, List.getD_eq_getElem?_getD, List.getElem?_eq_getElem (by omega)]; rfl
  · rw [if_neg e, World.cell?_setCells_out g vs o W ⟨g, i, none⟩ (fun _ _ => by show i < o ∨ _ ≤ i; omega)]; exact h.cell i hi
theorem Cells.there (h : Cells W g n F) {o k : Nat} (hk : o + k ≤ n) : W.there g o k := fun j hj => ⟨by rw [h.cell _ (by omega)]; rfl, h.free _ (by omega)⟩
theorem Cells.range (h : Cells W g n F) {o : Nat} {cs : List Value} (hc : ∀ j v, cs[j]? = some v → o + j < n ∧ v = F (o + j)) : W.rangeAt g o cs := fun j v hv => by
  obtain ⟨h1, rfl⟩ := hc j v hv
  exact h.cell _ h1
end
/-- a row that the call owns: where it lies, and its cells -/
theorem own_at {w : World} {base : Nat} {e : TypeId} {size n : Nat} {v : Value} {xs : List Value} (h : w.ownsRow base e size v n xs) (hn : 0 < n) :
    ∃ g cap, v = .slice (some ⟨g, 0, none⟩) n cap ∧ base ≤ g ∧ g < w.heap.size ∧ n ≤ cap ∧ cap ≤ 9223372036854775807 ∧ ∀ j u, xs[j]? = some u → w.cell? ⟨g, j, none⟩ = some u := by
  have hc := fun g (hg : v.ownBlock = some g) => h.cells hg
  obtain ⟨h1, h2⟩ := h
  rcases h2 with ⟨_, h0⟩ | ⟨g, cap, cur, hv, hb, hg, hnc, hm, _⟩
  · omega
  · refine ⟨g, cap, hv, hb, blk_lt hg, hnc, by unfold maxLen at hm; omega, fun j u hj => ?_⟩
    have := hc g (by rw [hv]; rfl) j u hj
    rwa [Addr.add_mid, Nat.zero_add] at this
end
section
open Go.RowKit Go
set_option linter.unusedVariables false
set_option linter.unusedSimpArgs false
/-- of what was there only blocks of S have turned -/
structure Turns (S : Nat → Prop) (W W' : World) : Prop where
  os : W'.os = W.os
  tape : W'.tape = W.tape
  output : W'.output = W.output
  size : W.heap.size ≤ W'.heap.size
  block : ∀ k, k < W.heap.size → ¬ S k → W'.heap[k]? = W.heap[k]?
section
variable {S S' : Nat → Prop} {W W1 W2 : World}
theorem Turns.trans (h : Turns S W W1) (k : Turns S' W1 W2) (hs : ∀ j, j < W.heap.size → S' j → S j) : Turns S W W2 :=
  ⟨k.os.trans h.os, k.tape.trans h.tape, k.output.trans h.output, Nat.le_trans h.size k.size, fun j hj hn => (k.block j (Nat.lt_of_lt_of_le hj h.size) (fun q => hn (hs j hj q))).trans (h.block j hj hn)⟩
theorem Turns.of_below (h : Below W.heap.size W W1) : Turns S W W1 := ⟨h.os, h.tape, h.output, h.size, fun j hj _ => h.block j hj⟩
theorem Turns.of_grown {row : Option Nat} (h : W.grownBy W1 row) (hr : ∀ j, row = some j → S j) : Turns S W W1 := ⟨h.os, h.tape, h.output, h.size, fun j hj hn => h.block j hj (fun e => hn (hr j e.symm))⟩
theorem Turns.set (p : Addr) (u : Value) (hp : S p.block) : Turns S W (W.setCell p u) := ⟨rfl, rfl, rfl, by simp [World.setCell], fun j hj hn => Below.heap_setCell _ _ _ _ (fun e => hn (by rw [e]; exact hp))⟩
theorem Turns.below {B : Nat} (h : Turns S W W1) (hB : B ≤ W.heap.size) (hs : ∀ j, S j → B ≤ j) : Below B W W1 := ⟨h.os, h.tape, h.output, h.size, fun j hj => h.block j (by omega) (fun q => by have := hs j q; omega)⟩
theorem Turns.mono (h : Turns S' W W1) (hs : ∀ j, j < W.heap.size → S' j → S j) : Turns S W W1 := ⟨h.os, h.tape, h.output, h.size, fun j hj hn => h.block j hj (fun q => hn (hs j hj q))⟩
end
theorem os_setCells (b : Nat) : ∀ (vs : List Value) (o : Nat) (w : World), (w.setCells b o vs).os = w.os
  | [], _, _ => rfl
  | v :: r, o, w => by rw [World.setCells, os_setCells b r]; rfl
theorem tape_setCells (b : Nat) : ∀ (vs : List Value) (o : Nat) (w : World), (w.setCells b o vs).tape = w.tape
  | [], _, _ => rfl
  | v :: r, o, w => by rw [World.setCells, tape_setCells b r]; rfl
theorem output_setCells (b : Nat) : ∀ (vs : List Value) (o : Nat) (w : World), (w.setCells b o vs).output = w.output
  | [], _, _ => rfl
  | v :: r, o, w => by rw [World.setCells, output_setCells b r]; rfl
end
section
open Go.RowKit Go
set_option linter.unusedVariables false
set_option linter.unusedSimpArgs false
set_option maxRecDepth 100000
attribute [local irreducible] Gf.inv Gf.tm Gf.pw Gf.spread Gf.sub Gf.boxAt Gf.bk Gf.rm Gf.bit
theorem exec_row {P : Program} {o : Oper} {a : Act} {w : World} (ty : TypeId) (x : Operand) (ho : o.op = .load ty x) (b off : Nat) (hx : a.eval x = .pointer (some ⟨b, off, none⟩)) (cs : List Value) (d : TypeDesc)
    (hS : w.rangeAt b off cs) (hu : P.underlying ty = some d) (hd : d.isRow = true) (hi : (P.info? ty).map (·.size) = some cs.length) : (execOp a.eval o).run P w = .ok (.value (.agg cs.toArray)) w := by
  unfold execOp
  simp only [ho, hx, Instr.loadAt, Instr.sureAddr, Sem.run_bind, Sem.run_pure, Result.andThen_ok, run_loadVar_mid w b off ty cs d hS hu hd hi]
theorem exec_rowA {P : Program} {o : Oper} {a : Act} {w : World} (ty : TypeId) (x : Operand) (ho : o.op = .load ty x) (b off : Nat) (hx : a.eval x = .pointer (some ⟨b, off, none⟩)) (cs : Array Value) (d : TypeDesc)
    (hS : w.rangeAt b off cs.toList) (hu : P.underlying ty = some d) (hd : d.isRow = true) (hi : (P.info? ty).map (·.size) = some cs.size) : (execOp a.eval o).run P w = .ok (.value (.agg cs)) w := by
  have := exec_row ty x ho b off hx cs.toList d hS hu hd (by simpa using hi)
  simpa using this
theorem exec_look2 {P : Program} {o : Oper} {a : Act} {w : World} (t : TypeId) (x y : Operand) (ho : o.op = .lookup t x y true) (m k v : Value) (hx : a.eval x = m) (hy : a.eval y = k) (hr : (Instr.lookup t m k true).run P w = .ok v w) :
    (execOp a.eval o).run P w = .ok (.value v) w := by
  unfold execOp
  simp only [ho, hx, hy, Sem.run_bind, Sem.run_pure, hr, Result.andThen_ok]
theorem step_put {P : Program} {K0 : Act → World → Prop} {o : Oper} {a : Act} {Q : Exit → Act → World → Prop} (W : World) (t : TypeId) (m x v : Operand) (ho : o.op = .mapUpdate t m x v)
    (M key val : Value) (w' : World) (hm : a.eval m = M) (hx : a.eval x = key) (hv : a.eval v = val) (hr : (Instr.mapUpdate t M key val).run P W = .ok () w') (h : K0 (a.put o.dst undef) w') : Oper.wp P o a W K0 Q := by
  unfold Oper.wp
  simp [execOp, ho, hm, hx, hv, hr, Result.andThen]
  exact h
theorem rts_row {P : Program} {fn : Func} {p u : Tmp} {ty : TypeId} (h : fn.results = #[.cell p ty, .tmp u]) (tmps : Array Value) (w : World) (g : Nat) (t : TypeId) (cs : Array Value) (fr : Nat × Nat) (d : TypeDesc)
    (v2 : Value) (hp : tmps.getD p undef = .pointer (some ⟨g, 0, none⟩)) (hv2 : tmps.getD u undef = v2) (hg : w.heap[g]? = some (.cells cs t fr))
    (hu : P.underlying ty = some d) (hd : (match d with | .struct _ | .array _ _ => true | _ => false) = true) (hi : (P.info? ty).map (·.size) = some cs.size) :
    (results fn tmps).run P w = .ok (.tuple #[.agg cs, v2]) w := by
  subst hv2
  have hp' : tmps[p]?.getD undef = .pointer (some ⟨g, 0, none⟩) := by simpa using hp
  simp [results, h, hp', asAddr, run_loadVar_row w g t ty cs fr d hg hu hd hi, Sem.run_bind, Result.andThen]
theorem al (w : World) (o : Obj) : Below w.heap.size w (w.alloc o) := (Below.refl _ _).alloc (Nat.le_refl _) _
theorem may_yes (e : Int) (b : Nat) (hb : b < 65536) (w : World) : Calls Try.prog 40 #[.agg #[.int .u64 e, .int .i64 (b : Int)]] w fun r w' => r = .returned (.bool true) ∧ Below w.heap.size w w' := by
  have h1 : decide ((0 : Int) ≤ (b : Int)) = true := decide_eq_true (by omega)
  have h2 : decide ((b : Int) < 65536) = true := decide_eq_true (by omega)
  go_enter Try.func40, Try.ntmps40
  go_wp2
  go_ret
  exact ⟨rfl, al _ _⟩
theorem may_no (e b : Int) (hb : b < 0 ∨ 65535 < b) (w : World) : Calls Try.prog 40 #[.agg #[.int .u64 e, .int .i64 b]] w fun r w' => r = .returned (.bool false) ∧ Below w.heap.size w w' := by
  by_cases h1 : 0 ≤ b
  · have h1' : decide ((0 : Int) ≤ b) = true := decide_eq_true h1
    have h2 : decide (b < 65536) = false := decide_eq_false (by omega)
    go_enter Try.func40, Try.ntmps40
    go_wp2
    go_ret
    exact ⟨rfl, al _ _⟩
  · have h1' : decide ((0 : Int) ≤ b) = false := decide_eq_false h1
    go_enter Try.func40, Try.ntmps40
    go_wp2
    go_ret
    exact ⟨rfl, al _ _⟩
theorem map_nil (W : World) (b : Nat) : (binOp .eql TM (.map (some b)) (.map none)).run Try.prog W = .ok (.bool false) W := by kernel_rfl
theorem turn_nil (e b : Int) (A : Option Addr) (n c : Nat) (w : World) : Calls Try.prog 27 #[.pointer none, .agg #[.int .u64 e, .int .i64 b], .slice A n c] w fun r w' => r = .returned (.tuple #[.slice none 0 0, .int .i64 2]) ∧ Below w.heap.size w w' := by
  go_enter Try.func27, Try.ntmps27
  go_wp2
  go_ret2
  exact ⟨rfl, al _ _⟩

set_option maxHeartbeats 1000000 in
theorem turn_range (g N : Nat) (ks : List Nat) (bm m te tb : Nat) (f : Nat → Nat → Option (List Nat)) (u : Bool) (e b : Int) (hbr : b < 0 ∨ 65535 < b) (A : Option Addr) (n c : Nat) (w : World) (hs : SlR w g N ks bm m f te tb u) :
    Calls Try.prog 27 #[.pointer (some ⟨g, 0, none⟩), .agg #[.int .u64 e, .int .i64 b], .slice A n c] w fun r w' => r = .returned (.tuple #[.slice none 0 0, .int .i64 3]) ∧ Below w.heap.size w w' := by
  have hb0 := al w (.cells #[.int .u64 e, .int .i64 b] TN)
  have hxx := heap_alloc_new w (.cells #[.int .u64 e, .int .i64 b] TN)
  have hs0 := hs.next hb0
  obtain ⟨hc0, _, _, _, _⟩ := hs0.cells
  have hx0 := blk_cell hxx 0
  have hx1 := blk_cell hxx 1
  have hme := map_nil (w.alloc (.cells #[.int .u64 e, .int .i64 b] TN)) bm
  have HB0 := Lib.hid hb0
  have HMAY := Lib.hid (may_no e b hbr)
  clear hs hs0 hxx hb0 hbr
  go_enter Try.func27, Try.ntmps27
  go_wp2_with fail
  generalize w.alloc (.cells #[.int .u64 e, .int .i64 b] TN) = W0 at *
  refine (HMAY.out _).mono ?_
  rintro r w1 ⟨rfl, hb1⟩
  have HB1 := Lib.hid (HB0.out.trans (hb1.mono HB0.out.size))
  clear hb1
  go_wp2
  go_ret2
  exact ⟨rfl, HB1.out⟩
set_option maxHeartbeats 1000000 in
theorem turn_arg (g N : Nat) (ks : List Nat) (bm m te tb : Nat) (f : Nat → Nat → Option (List Nat)) (u : Bool) (e : Int) (b : Nat) (hbr : b < 65536) (A : Option Addr) (n c : Nat) (hn : n ≠ 256) (w : World) (hs : SlR w g N ks bm m f te tb u) :
    Calls Try.prog 27 #[.pointer (some ⟨g, 0, none⟩), .agg #[.int .u64 e, .int .i64 (b : Int)], .slice A n c] w fun r w' => r = .returned (.tuple #[.slice none 0 0, .int .i64 1]) ∧ Below w.heap.size w w' := by
  have hb0 := al w (.cells #[.int .u64 e, .int .i64 (b : Int)] TN)
  have hxx := heap_alloc_new w (.cells #[.int .u64 e, .int .i64 (b : Int)] TN)
  have hs0 := hs.next hb0
  obtain ⟨hc0, _, _, _, _⟩ := hs0.cells
  have hx0 := blk_cell hxx 0
  have hx1 := blk_cell hxx 1
  have hme := map_nil (w.alloc (.cells #[.int .u64 e, .int .i64 (b : Int)] TN)) bm
  have HB0 := Lib.hid hb0
  have HMAY := Lib.hid (may_yes e b hbr)
  have hnb : ((n : Int) != 256) = true := by simp; omega
  have hn2 : ¬ (n : Int) = 256 := by omega
  clear hs hs0 hxx hb0 hbr
  go_enter Try.func27, Try.ntmps27
  go_wp2_with fail
  generalize w.alloc (.cells #[.int .u64 e, .int .i64 (b : Int)] TN) = W0 at *
  refine (HMAY.out _).mono ?_
  rintro r w1 ⟨rfl, hb1⟩
  have HB1 := Lib.hid (HB0.out.trans (hb1.mono HB0.out.size))
  clear hb1
  go_wp2
  go_ret2
  exact ⟨rfl, HB1.out⟩
/-- bytes of the call's own and no error -/
def TurnTo (w : World) (l : List Nat) (e : Ending) (w' : World) : Prop := ∃ A c, e = .returned (.tuple #[.slice A 256 c, .int .i64 0]) ∧ Below w.heap.size w w' ∧ BS w' w'.heap.size A 256 c l ∧ ∀ ad, A = some ad → w.heap.size ≤ ad.block
set_option maxHeartbeats 2000000 in
theorem turn_ok (g N : Nat) (ks : List Nat) (bm m te tb : Nat) (f : Nat → Nat → Option (List Nat)) (u : Bool) (e b : Nat) (he : e < 2 ^ 64) (hbr : b < 65536) (A : Option Addr) (c : Nat) (l : List Nat) (w : World) (hs : SlR w g N ks bm m f te tb u)
    (hks : ∀ j, ks.getD j 0 < 256) (hN : 1 ≤ N ∧ N ≤ 14) (hbs : BS w w.heap.size A 256 c l) :
    Calls Try.prog 27 #[.pointer (some ⟨g, 0, none⟩), .agg #[.int .u64 (e : Int), .int .i64 (b : Int)], .slice A 256 c] w (TurnTo w (xorL l (stmL ks N e b 256))) := by
  have hb0 := al w (.cells #[.int .u64 (e : Int), .int .i64 (b : Int)] TN)
  have hxx := heap_alloc_new w (.cells #[.int .u64 (e : Int), .int .i64 (b : Int)] TN)
  have hs0 := hs.next hb0
  obtain ⟨hc0, _, _, _, _⟩ := hs0.cells
  have hx0 := blk_cell hxx 0
  have hx1 := blk_cell hxx 1
  have hme := map_nil (w.alloc (.cells #[.int .u64 (e : Int), .int .i64 (b : Int)] TN)) bm
  have HB0 := Lib.hid hb0
  have HMAY := Lib.hid (may_yes (e : Int) b hbr)
  have HS0 := Lib.hid ((hbs.below hb0).more hb0.size)
  have HC0 := Lib.hid hs0.cip
  have HAP := Lib.hid (fun A c l W (hC : CipS W g N ks) hs => apply_any g N e b 256 c A l ks (by omega) he (by omega) W hC hks hN hs)
  have hcv : (convert 3 94 (.int .i64 (b : Int))) = (convert 3 94 (.int .i64 (b : Int))) := rfl
  have hbw : IntKind.u32.wrap (b : Int) = (b : Int) := by unfold IntKind.wrap; simp [IntKind.signed, IntKind.bits]; omega
  have HXX := Lib.hid hxx
  clear hs hs0 hxx hb0 hbr hbs hks hN he hcv
  generalize stmL ks N e b 256 = st at *
  go_enter Try.func27, Try.ntmps27
  go_wp2_with fail
  generalize hW0 : w.alloc (.cells #[.int .u64 (e : Int), .int .i64 (b : Int)] TN) = W0 at *
  have hsz0 : W0.heap.size = w.heap.size + 1 := by rw [← hW0]; simp
  have HSZ := Lib.hid hsz0
  clear hW0 hsz0
  refine (HMAY.out _).mono ?_
  rintro r w1 ⟨rfl, hb1⟩
  have HB1 := Lib.hid (HB0.out.trans (hb1.mono HB0.out.size))
  have HS1 := Lib.hid ((HS0.out.below hb1).more hb1.size)
  have HC1 := Lib.hid (HC0.out.next hb1)
  have HX1 := Lib.hid ((hb1.block w.heap.size (by rw [HSZ.out]; omega)).trans HXX.out)
  clear hb1 HS0 HC0 HXX hx0 hx1 hc0 hme HSZ
  go_wp2_with fail
  have HK : Hid (∀ W, Below w1.heap.size w1 W → W.cell? ⟨w.heap.size, 0, none⟩ = some (.int .u64 (e : Int)) ∧ W.cell? ⟨w.heap.size, 1, none⟩ = some (.int .i64 (b : Int)) ∧ Below w1.heap.size w1 W) := Lib.hid (fun W h => by
    have hx := (h.block w.heap.size (by have := HB1.out.size; have := (Array.getElem?_eq_some_iff.1 HX1.out).1; omega)).trans HX1.out
    exact ⟨blk_cell hx 0, blk_cell hx 1, h⟩)
  refine wp_region_F (S := fun W => W.cell? ⟨w.heap.size, 0, none⟩ = some (.int .u64 (e : Int)) ∧ W.cell? ⟨w.heap.size, 1, none⟩ = some (.int .i64 (b : Int)) ∧ Below w1.heap.size w1 W) [] (by kernel_rfl) (HK.out _ ((Below.refl _ _).drew)) (fun hHeld => ?_)
  refine wpAnyF_take (i := 0) (oi := _) (v := ?_) rfl (by kernel_rfl) (by kernel_rfl) (by kernel_rfl) (by kernel_rfl) (fun _ _ _ h => h) (Or.inl ⟨by rfl, ?_⟩) (by assumption) ?_
  rotate_left 1
  · intro w hSw
    (try dsimp only at hSw)
    (first | (go_simp; done) | (go_simp; with_reducible rfl))
  (try simp only [Act.put, List.getElem_toArray, List.getElem_cons_succ, List.getElem_cons_zero, List.setIfInBounds_toArray, List.set_cons_zero, List.set_cons_succ])
  refine wpAnyF_take (i := 1) (oi := _) (v := ?_) rfl (by kernel_rfl) (by kernel_rfl) (by kernel_rfl) (by kernel_rfl) (fun _ _ _ h => h) (Or.inl ⟨by rfl, ?_⟩) (by assumption) ?_
  rotate_left 1
  · intro w hSw
    (try dsimp only at hSw)
    (first | (go_simp; done) | (go_simp; with_reducible rfl))
  (try simp only [Act.put, List.getElem_toArray, List.getElem_cons_succ, List.getElem_cons_zero, List.setIfInBounds_toArray, List.set_cons_zero, List.set_cons_succ])
  refine wpAnyF_take (i := 2) (oi := _) (v := ?_) rfl (by kernel_rfl) (by kernel_rfl) (by kernel_rfl) (by kernel_rfl) (fun _ _ _ h => h) (Or.inl ⟨by rfl, ?_⟩) (by assumption) ?_
  rotate_left 1
  · intro w hSw
    (try dsimp only at hSw)
    (first | (go_simp; done) | (go_simp; with_reducible rfl))
  (try simp only [Act.put, List.getElem_toArray, List.getElem_cons_succ, List.getElem_cons_zero, List.setIfInBounds_toArray, List.set_cons_zero, List.set_cons_succ])
  refine wpAnyF_take (i := 3) (oi := _) (v := ?_) rfl (by kernel_rfl) (by kernel_rfl) (by kernel_rfl) (by kernel_rfl) (fun _ _ _ h => h) (Or.inl ⟨by rfl, ?_⟩) (by assumption) ?_
  rotate_left 1
  · intro w hSw
    (try dsimp only at hSw)
    (first | (go_simp; done) | (go_simp; with_reducible rfl))
  (try simp only [Act.put, List.getElem_toArray, List.getElem_cons_succ, List.getElem_cons_zero, List.setIfInBounds_toArray, List.set_cons_zero, List.set_cons_succ])
  refine wpAnyF_take (i := 4) (oi := _) (v := ?_) rfl (by kernel_rfl) (by kernel_rfl) (by kernel_rfl) (by kernel_rfl) (fun _ _ _ h => h) (Or.inl ⟨by rfl, ?_⟩) (by assumption) ?_
  rotate_left 1
  · intro w hSw
    (try dsimp only at hSw)
    (first | (go_simp; done) | (go_simp; with_reducible rfl))
  (try simp only [Act.put, List.getElem_toArray, List.getElem_cons_succ, List.getElem_cons_zero, List.setIfInBounds_toArray, List.set_cons_zero, List.set_cons_succ])
  refine wpAnyF_take (i := 5) (oi := _) (v := ?_) rfl (by kernel_rfl) (by kernel_rfl) (by kernel_rfl) (by kernel_rfl) (fun _ _ _ h => h) (Or.inl ⟨by rfl, ?_⟩) (by assumption) ?_
  rotate_left 1
  · intro w hSw
    (try dsimp only at hSw)
    (first | (go_simp; done) | (go_simp; with_reducible rfl))
  (try simp only [Act.put, List.getElem_toArray, List.getElem_cons_succ, List.getElem_cons_zero, List.setIfInBounds_toArray, List.set_cons_zero, List.set_cons_succ])
  refine wpAnyF_take (i := 6) (oi := _) (v := ?_) rfl (by kernel_rfl) (by kernel_rfl) (by kernel_rfl) (by kernel_rfl) (fun _ _ _ h => h) (Or.inl ⟨by rfl, ?_⟩) (by assumption) ?_
  rotate_left 1
  · intro w hSw
    (try dsimp only at hSw)
    (first | (go_simp; done) | (go_simp; with_reducible rfl))
  (try simp only [Act.put, List.getElem_toArray, List.getElem_cons_succ, List.getElem_cons_zero, List.setIfInBounds_toArray, List.set_cons_zero, List.set_cons_succ])
  refine wpAnyF_take (i := 7) (oi := _) (v := ?_) rfl (by kernel_rfl) (by kernel_rfl) (by kernel_rfl) (by kernel_rfl) (fun _ _ _ h => h) (Or.inl ⟨by rfl, ?_⟩) (by assumption) ?_
  rotate_left 1
  · intro w hSw
    (try dsimp only at hSw)
    (first | (go_simp; done) | (go_simp; with_reducible rfl))
  (try simp only [Act.put, List.getElem_toArray, List.getElem_cons_succ, List.getElem_cons_zero, List.setIfInBounds_toArray, List.set_cons_zero, List.set_cons_succ])
  refine wpAnyF_take (i := 8) (oi := _) (v := ?_) rfl (by kernel_rfl) (by kernel_rfl) (by kernel_rfl) (by kernel_rfl) (fun _ _ _ h => h) (Or.inl ⟨by rfl, ?_⟩) (by assumption) ?_
  rotate_left 1
  · intro w hSw
    (try dsimp only at hSw)
    (first | (go_simp; done) | (go_simp; with_reducible rfl))
  (try simp only [Act.put, List.getElem_toArray, List.getElem_cons_succ, List.getElem_cons_zero, List.setIfInBounds_toArray, List.set_cons_zero, List.set_cons_succ])
  refine wpAnyF_ready (rs := [9]) (by kernel_rfl) (by simp) ?_
  refine AllReadyF.cons (o := _) rfl (fun K hK => ?_) AllReadyF.nil
  go_simp
  (go_at_call 41)
  refine (HAP.out A c l _ (HC1.out.next hHeld.2.2) ((HS1.out.below hHeld.2.2).more hHeld.2.2.size)).mono ?_
  rintro e w9 ⟨A9, c9, rfl, hb9, hbs9, hn9⟩
  have HN9 := Lib.hid (fun ad q => Nat.le_trans (Nat.le_trans HB1.out.size hHeld.2.2.size) (hn9 ad q))
  clear hn9
  have HB9 := Lib.hid (hHeld.2.2.trans (hb9.mono hHeld.2.2.size))
  have HS9 := Lib.hid hbs9
  clear hb9 hbs9
  refine hK.out _ _ (HK.out _ HB9.out) (fun hHeld9 => ?_)
  clear hK K
  (try simp only [Act.put, List.getElem_toArray, List.getElem_cons_succ, List.getElem_cons_zero, List.setIfInBounds_toArray, List.set_cons_zero, List.set_cons_succ])
  refine wpAnyF_take (i := 10) (oi := _) (v := ?_) rfl (by kernel_rfl) (by kernel_rfl) (by kernel_rfl) (by kernel_rfl) (fun _ _ _ h => h) (Or.inl ⟨by rfl, ?_⟩) (by assumption) ?_
  rotate_left 1
  · intro w hSw
    (try dsimp only at hSw)
    (first | (go_simp; done) | (go_simp; with_reducible rfl))
  (try simp only [Act.put, List.getElem_toArray, List.getElem_cons_succ, List.getElem_cons_zero, List.setIfInBounds_toArray, List.set_cons_zero, List.set_cons_succ])
  refine wpAnyF_take (i := 11) (oi := _) (v := ?_) rfl (by kernel_rfl) (by kernel_rfl) (by kernel_rfl) (by kernel_rfl) (fun _ _ _ h => h) (Or.inl ⟨by rfl, ?_⟩) (by assumption) ?_
  rotate_left 1
  · intro w hSw
    (try dsimp only at hSw)
    (first | (go_simp; done) | (go_simp; with_reducible rfl))
  (try simp only [Act.put, List.getElem_toArray, List.getElem_cons_succ, List.getElem_cons_zero, List.setIfInBounds_toArray, List.set_cons_zero, List.set_cons_succ])
  refine wpAnyF_done (by kernel_rfl) ?_ _
  have HF := Lib.hid (HB1.out.trans (HB9.out.mono HB1.out.size))
  go_wp2
  go_ret2
  exact ⟨_, _, rfl, HF.out, HS9.out, HN9.out⟩
end
section
open Go.RowKit Go
set_option linter.unusedVariables false
set_option linter.unusedSimpArgs false
set_option maxRecDepth 100000
attribute [local irreducible] Gf.inv Gf.tm Gf.pw Gf.spread Gf.sub Gf.boxAt Gf.bk Gf.rm Gf.bit
abbrev Seen := Nat → Nat → Option (List Nat)
def FW (f : Seen) : Prop := ∀ e b l, f e b = some l → l.length = 256
/-- what is taken down -/
def seenF (f : Seen) (e b : Nat) (l : List Nat) : Seen := if (f e b).isSome then f else fun e2 b2 => if e2 = e ∧ b2 = b then some l else f e2 b2
/-- is it the first unlike one? -/
def unlF (f : Seen) (e b : Nat) (l : List Nat) (u : Bool) : Bool := match f e b with
  | some l0 => !decide (l0 = l) && !u
  | none => false
theorem FW.seen {f : Seen} (h : FW f) (e b : Nat) {l : List Nat} (hl : l.length = 256) : FW (seenF f e b l) := by
  unfold seenF
  split
  · exact h
  · intro e2 b2 l2 h2
    dsimp only at h2
    split at h2
    · cases h2; exact hl
    · exact h _ _ _ h2
def oL : Option (List Nat) → List Nat
  | some l => l
  | none => z256
theorem oV_eq (o : Option (List Nat)) : oV o = .agg (rowV (bF (oL o)) 256) := by cases o <;> rfl
theorem hid_neq (l m : List Nat) (hl : l.length = 256) (hm : m.length = 256) (W : World) : (binOp .neq TH (.agg (rowV (bF l) 256)) (.agg (rowV (bF m) 256))).run Try.prog W = .ok (.bool (!decide (l = m))) W := by
  have h := equal_row TH 256 Try.underlying87 l m hl hm W
  simp [binOp, Op.equal, Op.maxDepth, h, Result.andThen]
theorem hid_guard (x y : Operand) (a b : Array Value) (W : World) : (eqGuard .neq TH x y (.agg a) (.agg b)).run Try.prog W = .ok () W := by kernel_rfl
theorem hid_one (l : List Nat) : (rowV (bF l) 256).all (·.oneCell') = true := by
  rw [Array.all_eq_true]
  intro i hi
  rw [rowV_size] at hi
  have := rowV_at (bF l) hi
  rw [Array.getElem?_eq_getElem (by rw [rowV_size]; exact hi)] at this
  rw [Option.some.inj this]; rfl
theorem hid_info (l : List Nat) : (Try.prog.info? TH).map (·.size) = some (rowV (bF l) 256).size := by rw [rowV_size]; kernel_rfl
theorem row_at {w : World} {g : Nat} {t : TypeId} {cs : Array Value} (h : w.heap[g]? = some (.cells cs t (0, 0))) : w.rangeAt g 0 cs.toList := fun j v hv => by
  rw [Nat.zero_add, blk_cell h j]
  simpa using hv
theorem map_far {w : World} {k n : Nat} {f : Seen} {cs : Array Value} {t : TypeId} (h : w.heap[k]? = some (.cells cs t (0, 0))) (hm : BN w k n f) : False := by
  obtain ⟨D, ⟨es, clock, hb, _⟩, _⟩ := hm
  rw [hb] at h; cases h
theorem SlR.turned {w w' : World} {g N : Nat} {ks : List Nat} {bm n n' te tb : Nat} {f f' : Seen} {u : Bool} (h : SlR w g N ks bm n f te tb u) (hg : w.grownBy w' (some bm)) (hm : BN w' bm n' f') : SlR w' g N ks bm n' f' te tb u :=
  ⟨(hg.block g h.lt (fun e => by injection e with e; exact h.ne e)).trans h.row, hm⟩
theorem SlR.mark {w : World} {g N : Nat} {ks : List Nat} {bm n te tb : Nat} {f : Seen} {u : Bool} (h : SlR w g N ks bm n f te tb u) (e b : Nat) :
    SlR (((w.setCell ⟨g, 754, none⟩ (.int .u64 (e : Int))).setCell ⟨g, 755, none⟩ (.int .i64 (b : Int))).setCell ⟨g, 756, none⟩ (.bool true)) g N ks bm n f e b true := by
  refine ⟨Row.congr (((Row.set_ h.row 754 _).set_ 755 _).set_ 756 _) fun i hi => ?_, h.map.keep ?_⟩
  · unfold slF
    by_cases c1 : i < 753
    · rw [if_neg (by omega), if_neg (by omega), if_neg (by omega), if_pos c1, if_pos c1]
    · rcases (by omega : i = 753 ∨ i = 754 ∨ i = 755 ∨ i = 756) with rfl | rfl | rfl | rfl <;> rfl
  · have hne := h.ne
    rw [Below.heap_setCell _ _ _ _ (fun q => hne q.symm), Below.heap_setCell _ _ _ _ (fun q => hne q.symm), Below.heap_setCell _ _ _ _ (fun q => hne q.symm)]
/-- what note leaves -/
def NoteTo (w : World) (g N : Nat) (ks : List Nat) (bm m te tb : Nat) (f : Seen) (u : Bool) (e b : Nat) (l : List Nat) (r : Ending) (w' : World) : Prop :=
  r = .returned (.tuple #[]) ∧ Turns (fun k => k = g ∨ k = bm) w w' ∧ SlR w' g N ks bm (m + 1) (seenF f e b l) (if unlF f e b l u then e else te) (if unlF f e b l u then b else tb) (u || unlF f e b l u)
theorem SlR.more {w : World} {g N : Nat} {ks : List Nat} {bm n te tb : Nat} {f : Seen} {u : Bool} (h : SlR w g N ks bm n f te tb u) : SlR w g N ks bm (n + 1) f te tb u :=
  ⟨h.row, by obtain ⟨D, h1, h2⟩ := h.map; exact ⟨D, h1.mono (by omega), h2⟩⟩
set_option maxHeartbeats 4000000 in
theorem note_any (g N : Nat) (ks : List Nat) (bm m te tb : Nat) (f : Seen) (u : Bool) (e b : Nat) (hn : IsN e b) (l : List Nat) (hl : l.length = 256) (hf : FW f) (hm : m < 1000000) (w : World) (hs : SlR w g N ks bm m f te tb u) :
    Calls Try.prog 28 #[.pointer (some ⟨g, 0, none⟩), .agg #[.int .u64 (e : Int), .int .i64 (b : Int)], .agg (rowV (bF l) 256)] w (NoteTo w g N ks bm m te tb f u e b l) := by
  have hb0 := al w (.cells #[.int .u64 (e : Int), .int .i64 (b : Int)] TN)
  have hz0 : (w.alloc (.cells #[.int .u64 (e : Int), .int .i64 (b : Int)] TN)).heap.size = w.heap.size + 1 := by simp
  have hx0 := heap_alloc_new w (.cells #[.int .u64 (e : Int), .int .i64 (b : Int)] TN)
  obtain ⟨W1, hW1⟩ : ∃ W1, W1 = (w.alloc (.cells #[.int .u64 (e : Int), .int .i64 (b : Int)] TN)).alloc (.cells (rowV (bF l) 256) TH) := ⟨_, rfl⟩
  have hx1 : W1.heap[w.heap.size + 1]? = some (.cells (rowV (bF l) 256) TH (0, 0)) := by
    have := heap_alloc_new (w.alloc (.cells #[.int .u64 (e : Int), .int .i64 (b : Int)] TN)) (.cells (rowV (bF l) 256) TH)
    rw [hz0, ← hW1] at this; exact this
  have hx0' : W1.heap[w.heap.size]? = some (.cells #[.int .u64 (e : Int), .int .i64 (b : Int)] TN (0, 0)) := by
    rw [hW1]; exact (Below.heap_alloc _ _ _ (by rw [hz0]; omega)).trans hx0
  have hb1 : Below w.heap.size w W1 := by rw [hW1]; exact hb0.alloc (by rw [hz0]; omega) _
  have hz1 : W1.heap.size = w.heap.size + 2 := by rw [hW1]; simp
  have HB1 := Lib.hid hb1
  have HX0 := Lib.hid hx0'
  have HX1 := Lib.hid hx1
  have HZ1 := Lib.hid hz1
  have HS1 := Lib.hid (hs.next hb1)
  have HW1 := Lib.hid hW1
  have HN := Lib.hid hn
  obtain ⟨ov, hov⟩ : ∃ x, x = rowV (bF (oL (f e b))) 256 := ⟨_, rfl⟩
  obtain ⟨zz, hzz⟩ : ∃ x, x = rowV (bF z256) 256 := ⟨_, rfl⟩
  obtain ⟨xl, hxl⟩ : ∃ x, x = rowV (bF l) 256 := ⟨_, rfl⟩
  have HLOOK : Hid (∀ W, BN W bm m f → (Instr.lookup TM (.map (some bm)) (.agg #[.int .u64 (e : Int), .int .i64 (b : Int)]) true).run Try.prog W = .ok (.tuple #[.agg ov, .bool (f e b).isSome]) W) := Lib.hid (fun W h => by
    have := h.look hn; rw [oV_eq, ← hov] at this; exact this)
  have hz : ∀ W, (zeroValue TH).run Try.prog W = .ok (.agg zz) W := fun W => by rw [hzz]; exact bn_zero W
  have HIO : Hid ((Try.prog.info? TH).map (·.size) = some ov.size) := Lib.hid (by rw [hov]; exact hid_info _)
  have HIX : Hid ((Try.prog.info? TH).map (·.size) = some xl.size) := Lib.hid (by rw [hxl]; exact hid_info _)
  have HZO : Hid (zz.size = ov.size) := Lib.hid (by rw [hzz, hov, rowV_size, rowV_size])
  have HONE : Hid (ov.all (·.oneCell') = true) := Lib.hid (by rw [hov]; exact hid_one _)
  have HPUT : Hid (∀ W, BN W bm m f → ∃ w', (Instr.mapUpdate TM (.map (some bm)) (.agg #[.int .u64 (e : Int), .int .i64 (b : Int)]) (.agg xl)).run Try.prog W = .ok () w' ∧ BN w' bm (m + 1) (fun e2 b2 => if e2 = e ∧ b2 = b then some l else f e2 b2) ∧ W.grownBy w' (some bm)) := Lib.hid (fun W h => by
    have := h.put hm hn l; rw [hxl]; exact this)
  have HNEQ : Hid (∀ l0, f e b = some l0 → ∀ W, (binOp .neq TH (.agg ov) (.agg xl)).run Try.prog W = .ok (.bool (!decide (l0 = l))) W) := Lib.hid (fun l0 h W => by
    rw [hov, hxl, h]; exact hid_neq l0 l (hf _ _ _ h) hl W)
  rw [← hxl] at HX1 HW1 ⊢
  clear hs hb0 hz0 hx0 hx1 hx0' hb1 hz1 hW1 hov hzz hxl hf hl hm hn
  have HK : Hid (∀ W, Below W1.heap.size W1 W → W.cell? ⟨g, 753, none⟩ = some (.map (some bm)) ∧ W.cell? ⟨w.heap.size, 0, none⟩ = some (.int .u64 (e : Int)) ∧ W.cell? ⟨w.heap.size, 1, none⟩ = some (.int .i64 (b : Int)) ∧ Below W1.heap.size W1 W) := Lib.hid (fun W h => by
    have hx := (h.block w.heap.size (by rw [HZ1.out]; omega)).trans HX0.out
    exact ⟨(HS1.out.next h).cells.1, blk_cell hx 0, blk_cell hx 1, h⟩)
  go_enter Try.func28, Try.ntmps28
  go_wp2_with fail
  rw [← HW1.out]
  refine wp_region_F (S := fun W => W.cell? ⟨g, 753, none⟩ = some (.map (some bm)) ∧ W.cell? ⟨w.heap.size, 0, none⟩ = some (.int .u64 (e : Int)) ∧ W.cell? ⟨w.heap.size, 1, none⟩ = some (.int .i64 (b : Int)) ∧ Below W1.heap.size W1 W) [] (by kernel_rfl) (HK.out _ ((Below.refl _ _).drew)) (fun hHeld => ?_)
  refine wpAnyF_take (i := 0) (oi := _) (v := ?_) rfl (by kernel_rfl) (by kernel_rfl) (by kernel_rfl) (by kernel_rfl) (fun _ _ _ h => h) (Or.inl ⟨by rfl, ?_⟩) (by assumption) ?_
  rotate_left 1
  · intro w hSw
    (try dsimp only at hSw)
    (first | (go_simp; done) | (go_simp; with_reducible rfl))
  (try simp only [Act.put, List.getElem_toArray, List.getElem_cons_succ, List.getElem_cons_zero, List.setIfInBounds_toArray, List.set_cons_zero, List.set_cons_succ])
  refine wpAnyF_take (i := 1) (oi := _) (v := ?_) rfl (by kernel_rfl) (by kernel_rfl) (by kernel_rfl) (by kernel_rfl) (fun _ _ _ h => h) (Or.inl ⟨by rfl, ?_⟩) (by assumption) ?_
  rotate_left 1
  · intro w hSw
    (try dsimp only at hSw)
    (first | (go_simp; done) | (go_simp; with_reducible rfl))
  (try simp only [Act.put, List.getElem_toArray, List.getElem_cons_succ, List.getElem_cons_zero, List.setIfInBounds_toArray, List.set_cons_zero, List.set_cons_succ])
  refine wpAnyF_take (i := 2) (oi := _) (v := ?_) rfl (by kernel_rfl) (by kernel_rfl) (by kernel_rfl) (by kernel_rfl) (fun _ _ _ h => h) (Or.inl ⟨by rfl, ?_⟩) (by assumption) ?_
  rotate_left 1
  · intro w hSw
    (try dsimp only at hSw)
    (first | (go_simp; done) | (go_simp; with_reducible rfl))
  (try simp only [Act.put, List.getElem_toArray, List.getElem_cons_succ, List.getElem_cons_zero, List.setIfInBounds_toArray, List.set_cons_zero, List.set_cons_succ])
  refine wpAnyF_take (i := 3) (oi := _) (v := ?_) rfl (by kernel_rfl) (by kernel_rfl) (by kernel_rfl) (by kernel_rfl) (fun _ _ _ h => h) (Or.inl ⟨by rfl, ?_⟩) (by assumption) ?_
  rotate_left 1
  · intro w hSw
    (try dsimp only at hSw)
    (first | (go_simp; done) | (go_simp; with_reducible rfl))
  (try simp only [Act.put, List.getElem_toArray, List.getElem_cons_succ, List.getElem_cons_zero, List.setIfInBounds_toArray, List.set_cons_zero, List.set_cons_succ])
  refine wpAnyF_take (i := 4) (oi := _) (v := ?_) rfl (by kernel_rfl) (by kernel_rfl) (by kernel_rfl) (by kernel_rfl) (fun _ _ _ h => h) (Or.inl ⟨by rfl, ?_⟩) (by assumption) ?_
  rotate_left 1
  · intro w hSw
    (try dsimp only at hSw)
    (first | (go_simp; done) | (go_simp; with_reducible rfl))
  (try simp only [Act.put, List.getElem_toArray, List.getElem_cons_succ, List.getElem_cons_zero, List.setIfInBounds_toArray, List.set_cons_zero, List.set_cons_succ])
  refine wpAnyF_take (i := 5) (oi := _) (v := .tuple #[.agg ov, .bool (f e b).isSome]) rfl (by kernel_rfl) (by kernel_rfl) (by kernel_rfl) (by kernel_rfl) (fun _ _ _ h => h) (Or.inl ⟨by rfl, ?_⟩) (by assumption) ?_
  · intro w hSw
    (try dsimp only at hSw)
    exact exec_look2 TM (.tmp 12) (.tmp 13) (by rfl) _ _ _ (by rfl) (by rfl) (HLOOK.out _ (HS1.out.next hSw.2.2.2).map)
  (try simp only [Act.put, List.getElem_toArray, List.getElem_cons_succ, List.getElem_cons_zero, List.setIfInBounds_toArray, List.set_cons_zero, List.set_cons_succ])
  refine wpAnyF_take (i := 6) (oi := _) (v := ?_) rfl (by kernel_rfl) (by kernel_rfl) (by kernel_rfl) (by kernel_rfl) (fun _ _ _ h => h) (Or.inl ⟨by rfl, ?_⟩) (by assumption) ?_
  rotate_left 1
  · intro w hSw
    (try dsimp only at hSw)
    (first | (go_simp; done) | (go_simp; with_reducible rfl))
  (try simp only [Act.put, List.getElem_toArray, List.getElem_cons_succ, List.getElem_cons_zero, List.setIfInBounds_toArray, List.set_cons_zero, List.set_cons_succ])
  refine wpAnyF_take (i := 7) (oi := _) (v := ?_) rfl (by kernel_rfl) (by kernel_rfl) (by kernel_rfl) (by kernel_rfl) (fun _ _ _ h => h) (Or.inl ⟨by rfl, ?_⟩) (by assumption) ?_
  rotate_left 1
  · intro w hSw
    (try dsimp only at hSw)
    (first | (go_simp; done) | (go_simp; with_reducible rfl))
  (try simp only [Act.put, List.getElem_toArray, List.getElem_cons_succ, List.getElem_cons_zero, List.setIfInBounds_toArray, List.set_cons_zero, List.set_cons_succ])
  refine wpAnyF_take (i := 8) (oi := _) (v := ?_) rfl (by kernel_rfl) (by kernel_rfl) (by kernel_rfl) (by kernel_rfl) (fun _ _ _ h => h) (Or.inl ⟨by rfl, ?_⟩) (by assumption) ?_
  rotate_left 1
  · intro w hSw
    (try dsimp only at hSw)
    (first | (go_simp; done) | (go_simp; with_reducible rfl))
  (try simp only [Act.put, List.getElem_toArray, List.getElem_cons_succ, List.getElem_cons_zero, List.setIfInBounds_toArray, List.set_cons_zero, List.set_cons_succ])
  refine wpAnyF_ready (rs := [9]) (by kernel_rfl) (by simp) ?_
  refine AllReadyF.cons (o := _) rfl (fun K hK => ?_) AllReadyF.nil
  go_simp
  refine hK.out _ _ (HK.out _ (hHeld.2.2.2.alloc hHeld.2.2.2.size _)) (fun hHeld9 => ?_)
  clear hK K
  (try simp only [Act.put, List.getElem_toArray, List.getElem_cons_succ, List.getElem_cons_zero, List.setIfInBounds_toArray, List.set_cons_zero, List.set_cons_succ])
  refine wpAnyF_ready (rs := [10]) (by kernel_rfl) (by simp) ?_
  refine AllReadyF.cons (o := _) rfl (fun K hK => ?_) AllReadyF.nil
  have h9 : (W1.alloc (.cells zz TH)).drew.heap[W1.heap.size]? = some (.cells zz TH (0, 0)) := heap_alloc_new W1 (.cells zz TH)
  have hbl : Below W1.heap.size W1 ((W1.alloc (.cells zz TH)).drew.setRow W1.heap.size ov) := below_setRow (((Below.refl _ _).alloc (Nat.le_refl _) _).drew) (Nat.le_refl _) _
  have hx2 : ((W1.alloc (.cells zz TH)).drew.setRow W1.heap.size ov).heap[W1.heap.size]? = some (.cells ov TH (0, 0)) := setRow_heap _ _ _ ov _ _ h9
  rw [if_pos (by kernel_rfl)]
  refine wp_store_row TH (.tmp 6) (.tmp 15) (by rfl) W1.heap.size ov (by rfl) (by rfl) TH zz h9 HIO.out HZO.out HONE.out ?_
  generalize (W1.alloc (.cells zz TH)).drew.setRow W1.heap.size ov = W2 at *
  have HB2 := Lib.hid hbl
  have HX2 := Lib.hid hx2
  clear h9 hbl hx2
  refine hK.out _ _ (HK.out _ HB2.out) (fun hHeld10 => ?_)
  clear hK K
  (try simp only [Act.put, List.getElem_toArray, List.getElem_cons_succ, List.getElem_cons_zero, List.setIfInBounds_toArray, List.set_cons_zero, List.set_cons_succ])
  refine wpAnyF_take (i := 11) (oi := _) (v := ?_) rfl (by kernel_rfl) (by kernel_rfl) (by kernel_rfl) (by kernel_rfl) (fun _ _ _ h => h) (Or.inl ⟨by rfl, ?_⟩) (by assumption) ?_
  rotate_left 1
  · intro w hSw
    (try dsimp only at hSw)
    (first | (go_simp; done) | (go_simp; with_reducible rfl))
  (try simp only [Act.put, List.getElem_toArray, List.getElem_cons_succ, List.getElem_cons_zero, List.setIfInBounds_toArray, List.set_cons_zero, List.set_cons_succ])
  refine wpAnyF_done (by kernel_rfl) ?_ _
  have HS2 := Lib.hid (HS1.out.next HB2.out)
  have HXL := Lib.hid ((HB2.out.block (w.heap.size + 1) (by rw [HZ1.out]; omega)).trans HX1.out)
  have HXN := Lib.hid ((HB2.out.block w.heap.size (by rw [HZ1.out]; omega)).trans HX0.out)
  have HBW := Lib.hid (HB1.out.trans (HB2.out.mono HB1.out.size))
  obtain ⟨is, his⟩ : ∃ is, is = (f e b).isSome := ⟨_, rfl⟩
  rw [← his]
  have HIS := Lib.hid his
  generalize W1.heap.size = p6 at *
  clear his hHeld hHeld9 hHeld10
  cases is
  · have HNO : Hid (f e b = none) := Lib.hid (by have := HIS.out; cases hfe : f e b with
      | none => rfl
      | some x => rw [hfe] at this; cases this)
    have HKT : Hid (∀ W : World, W.heap[g]? = W2.heap[g]? → W.heap[w.heap.size]? = W2.heap[w.heap.size]? → W.heap[w.heap.size + 1]? = W2.heap[w.heap.size + 1]? → (fun (W : World) => W.cell? ⟨g, 753, none⟩ = some (.map (some bm)) ∧ W.cell? ⟨w.heap.size, 0, none⟩ = some (.int .u64 (e : Int)) ∧ W.cell? ⟨w.heap.size, 1, none⟩ = some (.int .i64 (b : Int)) ∧ W.rangeAt (w.heap.size + 1) 0 xl.toList) W) := Lib.hid (fun W h1 h2 h3 => by
      have hx := h2.trans HXN.out
      exact ⟨(blk_cell (h1.trans HS2.out.row) 753).trans ((blk_cell HS2.out.row 753).symm.trans HS2.out.cells.1), blk_cell hx 0, blk_cell hx 1, row_at (h3.trans HXL.out)⟩)
    go_wp2
    refine wp_region_F (S := fun (W : World) => W.cell? ⟨g, 753, none⟩ = some (.map (some bm)) ∧ W.cell? ⟨w.heap.size, 0, none⟩ = some (.int .u64 (e : Int)) ∧ W.cell? ⟨w.heap.size, 1, none⟩ = some (.int .i64 (b : Int)) ∧ W.rangeAt (w.heap.size + 1) 0 xl.toList) [] (by kernel_rfl) (HKT.out _ rfl rfl rfl) (fun hHeld => ?_)
    refine wpAnyF_take (i := 0) (oi := _) (v := ?_) rfl (by kernel_rfl) (by kernel_rfl) (by kernel_rfl) (by kernel_rfl) (fun _ _ _ h => h) (Or.inl ⟨by rfl, ?_⟩) (by assumption) ?_
    rotate_left 1
    · intro w hSw
      (try dsimp only at hSw)
      (first | (go_simp; done) | (go_simp; with_reducible rfl))
    (try simp only [Act.put, List.getElem_toArray, List.getElem_cons_succ, List.getElem_cons_zero, List.setIfInBounds_toArray, List.set_cons_zero, List.set_cons_succ])
    refine wpAnyF_take (i := 1) (oi := _) (v := ?_) rfl (by kernel_rfl) (by kernel_rfl) (by kernel_rfl) (by kernel_rfl) (fun _ _ _ h => h) (Or.inl ⟨by rfl, ?_⟩) (by assumption) ?_
    rotate_left 1
    · intro w hSw
      (try dsimp only at hSw)
      (first | (go_simp; done) | (go_simp; with_reducible rfl))
    (try simp only [Act.put, List.getElem_toArray, List.getElem_cons_succ, List.getElem_cons_zero, List.setIfInBounds_toArray, List.set_cons_zero, List.set_cons_succ])
    refine wpAnyF_take (i := 2) (oi := _) (v := ?_) rfl (by kernel_rfl) (by kernel_rfl) (by kernel_rfl) (by kernel_rfl) (fun _ _ _ h => h) (Or.inl ⟨by rfl, ?_⟩) (by assumption) ?_
    rotate_left 1
    · intro w hSw
      (try dsimp only at hSw)
      (first | (go_simp; done) | (go_simp; with_reducible rfl))
    (try simp only [Act.put, List.getElem_toArray, List.getElem_cons_succ, List.getElem_cons_zero, List.setIfInBounds_toArray, List.set_cons_zero, List.set_cons_succ])
    refine wpAnyF_take (i := 3) (oi := _) (v := ?_) rfl (by kernel_rfl) (by kernel_rfl) (by kernel_rfl) (by kernel_rfl) (fun _ _ _ h => h) (Or.inl ⟨by rfl, ?_⟩) (by assumption) ?_
    rotate_left 1
    · intro w hSw
      (try dsimp only at hSw)
      (first | (go_simp; done) | (go_simp; with_reducible rfl))
    (try simp only [Act.put, List.getElem_toArray, List.getElem_cons_succ, List.getElem_cons_zero, List.setIfInBounds_toArray, List.set_cons_zero, List.set_cons_succ])
    refine wpAnyF_take (i := 4) (oi := _) (v := ?_) rfl (by kernel_rfl) (by kernel_rfl) (by kernel_rfl) (by kernel_rfl) (fun _ _ _ h => h) (Or.inl ⟨by rfl, ?_⟩) (by assumption) ?_
    rotate_left 1
    · intro w hSw
      (try dsimp only at hSw)
      (first | (go_simp; done) | (go_simp; with_reducible rfl))
    (try simp only [Act.put, List.getElem_toArray, List.getElem_cons_succ, List.getElem_cons_zero, List.setIfInBounds_toArray, List.set_cons_zero, List.set_cons_succ])
    refine wpAnyF_take (i := 5) (oi := _) (v := .agg xl) rfl (by kernel_rfl) (by kernel_rfl) (by kernel_rfl) (by kernel_rfl) (fun _ _ _ h => h) (Or.inl ⟨by rfl, ?_⟩) (by assumption) ?_
    · intro w hSw
      (try dsimp only at hSw)
      exact exec_rowA TH (.tmp 5) (by rfl) _ 0 (by rfl) xl _ hSw.2.2.2 Try.underlying87 (by rfl) HIX.out
    (try simp only [Act.put, List.getElem_toArray, List.getElem_cons_succ, List.getElem_cons_zero, List.setIfInBounds_toArray, List.set_cons_zero, List.set_cons_succ])
    refine wpAnyF_ready (rs := [6]) (by kernel_rfl) (by simp) ?_
    refine AllReadyF.cons (o := _) rfl (fun K hK => ?_) AllReadyF.nil
    obtain ⟨w6, hr6, hm6, hg6⟩ := HPUT.out W2.drew (HS2.out.map.keep rfl)
    have HM6 := Lib.hid hm6
    have HG6 := Lib.hid hg6
    rw [if_pos (by kernel_rfl)]
    refine step_put _ TM (.tmp 23) (.tmp 24) (.tmp 25) (by rfl) _ _ _ w6 (by rfl) (by rfl) (by rfl) hr6 ?_
    clear hr6 hm6 hg6
    refine hK.out _ _ (HKT.out _ (HG6.out.block g HS2.out.lt (fun q => HS2.out.ne (Option.some.inj q))) (HG6.out.block w.heap.size (blk_lt HXN.out) (fun q => map_far HXN.out (by rw [Option.some.inj q]; exact HS2.out.map))) (HG6.out.block (w.heap.size + 1) (blk_lt HXL.out) (fun q => map_far HXL.out (by rw [Option.some.inj q]; exact HS2.out.map)))) (fun hHeld6 => ?_)
    clear hK K
    (try simp only [Act.put, List.getElem_toArray, List.getElem_cons_succ, List.getElem_cons_zero, List.setIfInBounds_toArray, List.set_cons_zero, List.set_cons_succ])
    refine wpAnyF_done (by kernel_rfl) ?_ _
    go_wp2
    go_end0
    have hlt := HS2.out.lt
    refine ⟨rfl, (Turns.of_below HBW.out.drew).trans (Turns.of_grown HG6.out (S := fun k => k = g ∨ k = bm) fun j hj => by obtain rfl := Option.some.inj hj; exact Or.inr rfl) fun j _ hj => hj, ?_⟩
    have e1 : unlF f e b l u = false := by unfold unlF; rw [HNO.out]
    have e2 : seenF f e b l = fun e2 b2 => if e2 = e ∧ b2 = b then some l else f e2 b2 := by unfold seenF; rw [HNO.out]; rfl
    rw [e1, e2, if_neg (by decide), if_neg (by decide), Bool.or_false]
    exact (SlR.keep HS2.out (w' := W2.drew) rfl rfl).turned HG6.out HM6.out
  · obtain ⟨l0, hl0⟩ : ∃ l0, f e b = some l0 := by have := HIS.out; cases hfe : f e b with
      | none => rw [hfe] at this; cases this
      | some x => exact ⟨x, rfl⟩
    have hq := HNEQ.out l0 hl0
    obtain ⟨x, hx⟩ : ∃ x, x = !decide (l0 = l) := ⟨_, rfl⟩
    rw [← hx] at hq
    have HUF : Hid (unlF f e b l u = (x && !u)) := Lib.hid (by unfold unlF; rw [hl0, hx])
    have HSF : Hid (seenF f e b l = f) := Lib.hid (by unfold seenF; rw [hl0]; rfl)
    have HSM := Lib.hid HS2.out.more
    have HTB : Hid (Turns (fun k => k = g ∨ k = bm) w W2) := Lib.hid (Turns.of_below HBW.out)
    obtain ⟨_, q1, q2, q3, q4⟩ := HS2.out.cells
    have n0 : W2.cell? ⟨w.heap.size, 0, none⟩ = some (.int .u64 (e : Int)) := blk_cell HXN.out 0
    have n1 : W2.cell? ⟨w.heap.size, 1, none⟩ = some (.int .i64 (b : Int)) := blk_cell HXN.out 1
    clear hx hl0
    cases x
    · go_wp2_with (first
        | (with_reducible refine wpList_load_row rfl TH (.tmp 6) rfl _ rfl TH _ _ _ HX2.out Try.underlying87 rfl HIO.out ?_)
        | (with_reducible refine wpList_load_row rfl TH (.tmp 5) rfl _ rfl TH _ _ _ HXL.out Try.underlying87 rfl HIX.out ?_))
      go_end0
      refine ⟨rfl, HTB.out, ?_⟩
      have e1 := HUF.out
      rw [Bool.false_and] at e1
      rw [e1, HSF.out, if_neg (by decide), if_neg (by decide), Bool.or_false]
      exact HSM.out
    · cases u
      · go_wp2_with (first
          | (with_reducible refine wpList_load_row rfl TH (.tmp 6) rfl _ rfl TH _ _ _ HX2.out Try.underlying87 rfl HIO.out ?_)
          | (with_reducible refine wpList_load_row rfl TH (.tmp 5) rfl _ rfl TH _ _ _ HXL.out Try.underlying87 rfl HIX.out ?_))
        go_end0
        have e1 := HUF.out
        simp only [Bool.not_false, Bool.and_self] at e1
        refine ⟨rfl, ?_, ?_⟩
        · exact ((HTB.out.trans (Turns.set ⟨g, 754, none⟩ _ (S := fun k => k = g ∨ k = bm) (Or.inl rfl)) fun j _ hj => hj).trans (Turns.set ⟨g, 755, none⟩ _ (S := fun k => k = g ∨ k = bm) (Or.inl rfl)) fun j _ hj => hj).trans (Turns.set ⟨g, 756, none⟩ _ (S := fun k => k = g ∨ k = bm) (Or.inl rfl)) fun j _ hj => hj
        · rw [e1, HSF.out, if_pos rfl, if_pos rfl]
          exact HSM.out.mark e b
      · go_wp2_with (first
          | (with_reducible refine wpList_load_row rfl TH (.tmp 6) rfl _ rfl TH _ _ _ HX2.out Try.underlying87 rfl HIO.out ?_)
          | (with_reducible refine wpList_load_row rfl TH (.tmp 5) rfl _ rfl TH _ _ _ HXL.out Try.underlying87 rfl HIX.out ?_))
        go_end0
        refine ⟨rfl, HTB.out, ?_⟩
        have e1 := HUF.out
        simp only [Bool.not_true, Bool.and_false] at e1
        rw [e1, HSF.out, if_neg (by decide), if_neg (by decide), Bool.or_false]
        exact HSM.out
end
section
open Go.RowKit Go
set_option linter.unusedVariables false
set_option linter.unusedSimpArgs false
set_option maxRecDepth 100000
attribute [local irreducible] Gf.inv Gf.tm Gf.pw Gf.spread Gf.sub Gf.boxAt Gf.bk Gf.rm Gf.bit
set_option maxHeartbeats 1000000 in
theorem sealNo (e b : Int) (A : Option Addr) (n c : Nat) (er : Int) (p : Value) (hne : ¬ er = 0) (hT : ∀ W, Calls Try.prog 27 #[p, .agg #[.int .u64 e, .int .i64 b], .slice A n c] W fun r w' => r = .returned (.tuple #[.slice none 0 0, .int .i64 er]) ∧ Below W.heap.size W w') (w : World) :
    Calls Try.prog 14 #[p, .int .u64 e, .int .i64 b, .slice A n c] w fun r w' => r = .returned (.tuple #[.slice none 0 0, .int .i64 er]) ∧ Below w.heap.size w w' := by
  have HT := Lib.hid (hT (w.alloc (.cells #[.int .u64 e, .int .i64 b] TN)))
  have HB := Lib.hid (al w (.cells #[.int .u64 e, .int .i64 b] TN))
  clear hT
  go_enter Try.func14, Try.ntmps14
  go_wp2_with fail
  refine HT.out.mono ?_
  rintro r w1 ⟨rfl, hb1⟩
  have HB1 := Lib.hid (HB.out.trans (hb1.mono HB.out.size))
  clear hb1
  go_wp2
  go_ret2
  exact ⟨rfl, HB1.out⟩
theorem sealNil (e b : Int) (A : Option Addr) (n c : Nat) (w : World) :
    Calls Try.prog 14 #[.pointer none, .int .u64 e, .int .i64 b, .slice A n c] w fun r w' => r = .returned (.tuple #[.slice none 0 0, .int .i64 2]) ∧ Below w.heap.size w w' :=
  sealNo e b A n c 2 (.pointer none) (by decide) (fun W => turn_nil e b A n c W) w
theorem openTo (e b : Int) (A : Option Addr) (n c : Nat) (p x y : Value) (R : World → Prop) (w : World) (hT : Calls Try.prog 27 #[p, .agg #[.int .u64 e, .int .i64 b], .slice A n c] w fun r w' => r = .returned (.tuple #[x, y]) ∧ R w') :
    Calls Try.prog 16 #[p, .int .u64 e, .int .i64 b, .slice A n c] w fun r w' => r = .returned (.tuple #[x, y]) ∧ R w' := by
  have HT := Lib.hid hT
  clear hT
  go_enter Try.func16, Try.ntmps16
  go_wp2_with fail
  refine HT.out.mono ?_
  rintro r w1 ⟨rfl, hr⟩
  have HR := Lib.hid hr
  clear hr
  go_wp2
  go_ret2
  exact ⟨rfl, HR.out⟩
theorem openNil (e b : Int) (A : Option Addr) (n c : Nat) (w : World) :
    Calls Try.prog 16 #[.pointer none, .int .u64 e, .int .i64 b, .slice A n c] w fun r w' => r = .returned (.tuple #[.slice none 0 0, .int .i64 2]) ∧ Below w.heap.size w w' :=
  openTo e b A n c (.pointer none) _ _ _ w (turn_nil e b A n c w)
theorem TurnTo.ex {w w' : World} {l : List Nat} {e : Ending} (h : TurnTo w l e w') : ∃ A c, e = .returned (.tuple #[.slice A 256 c, .int .i64 0]) := by
  obtain ⟨A, c, he, _⟩ := h; exact ⟨A, c, he⟩
theorem open_ok (g N : Nat) (ks : List Nat) (bm m te tb : Nat) (f : Seen) (u : Bool) (e b : Nat) (he : e < 2 ^ 64) (hbr : b < 65536) (A : Option Addr) (c : Nat) (l : List Nat) (w : World) (hs : SlR w g N ks bm m f te tb u)
    (hks : ∀ j, ks.getD j 0 < 256) (hN : 1 ≤ N ∧ N ≤ 14) (hbs : BS w w.heap.size A 256 c l) :
    Calls Try.prog 16 #[.pointer (some ⟨g, 0, none⟩), .int .u64 (e : Int), .int .i64 (b : Int), .slice A 256 c] w (TurnTo w (xorL l (stmL ks N e b 256))) := by
  have HT := Lib.hid (turn_ok g N ks bm m te tb f u e b he hbr A c l w hs hks hN hbs)
  clear hs hbs hks he
  go_enter Try.func16, Try.ntmps16
  go_wp2_with fail
  refine HT.out.mono ?_
  rintro r w1 ⟨A1, c1, rfl, h1, h2, h3⟩
  have HR : Hid (TurnTo w (xorL l (stmL ks N e b 256)) (.returned (.tuple #[.slice A1 256 c1, .int .i64 0])) w1) := Lib.hid ⟨A1, c1, rfl, h1, h2, h3⟩
  clear h1 h2 h3
  go_wp2
  go_ret2
  exact HR.out
theorem twiceNil (w : World) : Calls Try.prog 12 #[.pointer none] w fun r w' => r = .returned (.tuple #[.agg #[.int .u64 0, .int .i64 0], .bool false]) ∧ Below w.heap.size w w' := by
  go_enter Try.func12, Try.ntmps12
  go_wp2
  exact bodyPost_ret (v := .tuple #[.agg #[.int .u64 0, .int .i64 0], .bool false]) (rts_row rfl _ _ _ TN _ (0, 0) _ _ rfl rfl (heap_alloc_new _ _) Try.underlying42 rfl (by kernel_rfl)) rfl ⟨rfl, al _ _⟩
theorem usedNil (w : World) : Calls Try.prog 11 #[.pointer none] w fun r w' => r = .returned (.slice none 0 0) ∧ w = w' := by
  go_enter Try.func11, Try.ntmps11
  go_wp2
  go_ret
  exact ⟨rfl, rfl⟩
set_option maxHeartbeats 1000000 in
theorem sTwice_any (g N : Nat) (ks : List Nat) (bm m te tb : Nat) (f : Seen) (u : Bool) (w : World) (hs : SlR w g N ks bm m f te tb u) :
    Calls Try.prog 12 #[.pointer (some ⟨g, 0, none⟩)] w fun r w' => r = .returned (.tuple #[.agg #[.int .u64 (te : Int), .int .i64 (tb : Int)], .bool u]) ∧ Below w.heap.size w w' := by
  have hb0 := al w (.cells #[.int .u64 0, .int .i64 0] TN)
  have hx0 := heap_alloc_new w (.cells #[.int .u64 0, .int .i64 0] TN)
  have hsz : (w.alloc (.cells #[.int .u64 0, .int .i64 0] TN)).heap.size = w.heap.size + 1 := by simp
  obtain ⟨_, q1, q2, q3, _⟩ := (hs.next hb0).cells
  have HB0 := Lib.hid hb0
  have HX0 := Lib.hid hx0
  have hgl := hs.lt
  have HGN : Hid (g ≠ w.heap.size) := Lib.hid (by omega)
  clear hs hb0 hx0 hgl
  go_enter Try.func12, Try.ntmps12
  go_wp2_with fail
  generalize w.alloc (.cells #[.int .u64 0, .int .i64 0] TN) = W0 at *
  have k0 : W0.cell? ⟨w.heap.size, 0, none⟩ = some (.int .u64 0) := blk_cell HX0.out 0
  have k1 : W0.cell? ⟨w.heap.size, 1, none⟩ = some (.int .i64 0) := blk_cell HX0.out 1
  have f0 := blk_free HX0.out 0
  have f1 := blk_free HX0.out 1
  go_region
  go_wp2
  have hx1 := blk_set (blk_set HX0.out 0 (.int .u64 (te : Int))) 1 (.int .i64 (tb : Int))
  exact bodyPost_ret (v := .tuple #[.agg #[.int .u64 (te : Int), .int .i64 (tb : Int)], .bool u]) (rts_row rfl _ _ _ TN _ (0, 0) _ _ rfl rfl hx1 Try.underlying42 rfl (by kernel_rfl)) rfl ⟨rfl, ((HB0.out.drew.setCell (p := ⟨w.heap.size, 0, none⟩) (Nat.le_refl _) _).setCell (p := ⟨w.heap.size, 1, none⟩) (Nat.le_refl _) _)⟩
theorem BS.keepA {w w' : World} {B n c : Nat} {A : Option Addr} {l : List Nat} (h : BS w B A n c l) (hk : ∀ b o, A = some ⟨b, o, none⟩ → 0 < n → w'.heap[b]? = w.heap[b]?) : BS w' B A n c l :=
  ⟨h.1, h.2.1, h.2.2.1, h.2.2.2.1, fun hn => by
    obtain ⟨b, o, e, hB, hc⟩ := h.at_ hn
    exact ⟨b, o, e, hB, fun i hi => (World.cell?_of_block (a := ⟨b, o + i, none⟩) (hk b o e hn)).trans (hc i hi)⟩⟩
/-- what Seal leaves -/
def SealTo (w : World) (g N : Nat) (ks : List Nat) (bm m te tb : Nat) (f : Seen) (u : Bool) (e b : Nat) (x : List Nat) (r : Ending) (w' : World) : Prop :=
  ∃ A c, r = .returned (.tuple #[.slice A 256 c, .int .i64 0]) ∧ BS w' w'.heap.size A 256 c x ∧ (∀ ad, A = some ad → w.heap.size ≤ ad.block) ∧ Turns (fun k => k = g ∨ k = bm) w w' ∧
    SlR w' g N ks bm (m + 1) (seenF f e b x) (if unlF f e b x u then e else te) (if unlF f e b x u then b else tb) (u || unlF f e b x u)
theorem bs_range {w : World} {B n c b o : Nat} {l : List Nat} (h : BS w B (some ⟨b, o, none⟩) n c l) (hn : 0 < n) : w.rangeAt b o (rowV (bF l) n).toList := fun j v hv => by
  obtain ⟨b', o', he, hb, hc⟩ := h.at_ hn
  obtain ⟨rfl, rfl⟩ : b = b' ∧ o = o' := by have := Option.some.inj he; exact ⟨congrArg Addr.block this, congrArg Addr.off this⟩
  have hj : j < n := by
    rcases Nat.lt_or_ge j n with h | h
    · exact h
    · rw [List.getElem?_eq_none (by rw [Array.length_toList, rowV_size]; exact h)] at hv; cases hv
  rw [hc j hj, ← hv, Array.getElem?_toList, rowV_at _ hj]; rfl
set_option maxHeartbeats 4000000 in
theorem seal_ok (g N : Nat) (ks : List Nat) (bm m te tb : Nat) (f : Seen) (u : Bool) (e b : Nat) (he : e < 2 ^ 64) (hbr : b < 65536) (A : Option Addr) (c : Nat) (l : List Nat) (w : World) (hs : SlR w g N ks bm m f te tb u)
    (hks : ∀ j, ks.getD j 0 < 256) (hN : 1 ≤ N ∧ N ≤ 14) (hf : FW f) (hm : m < 1000000) (hbs : BS w w.heap.size A 256 c l) :
    Calls Try.prog 14 #[.pointer (some ⟨g, 0, none⟩), .int .u64 (e : Int), .int .i64 (b : Int), .slice A 256 c] w (SealTo w g N ks bm m te tb f u e b (xorL l (stmL ks N e b 256))) := by
  have hb0 := al w (.cells #[.int .u64 (e : Int), .int .i64 (b : Int)] TN)
  have hx0 := heap_alloc_new w (.cells #[.int .u64 (e : Int), .int .i64 (b : Int)] TN)
  have hxl : (xorL l (stmL ks N e b 256)).length = 256 := by rw [xorL_len, hbs.len, stmL_len]; rfl
  have HT := Lib.hid (turn_ok g N ks bm m te tb f u e b he hbr A c l _ (hs.next hb0) hks hN ((hbs.below hb0).more hb0.size))
  have HB0 := Lib.hid hb0
  have HX0 := Lib.hid hx0
  have HS := Lib.hid hs
  have hz : (w.alloc (.cells #[.int .u64 (e : Int), .int .i64 (b : Int)] TN)).heap.size = w.heap.size + 1 := by simp
  have HZ := Lib.hid hz
  have HNO : Hid (∀ W, SlR W g N ks bm m f te tb u → Calls Try.prog 28 #[.pointer (some ⟨g, 0, none⟩), .agg #[.int .u64 (e : Int), .int .i64 (b : Int)], .agg (rowV (bF (xorL l (stmL ks N e b 256))) 256)] W (NoteTo W g N ks bm m te tb f u e b (xorL l (stmL ks N e b 256)))) := Lib.hid (fun W h => note_any g N ks bm m te tb f u e b ⟨he, hbr⟩ _ hxl hf hm W h)
  clear hb0 hx0 hz hbs hs hks hN hf he hbr hm
  generalize xorL l (stmL ks N e b 256) = x at *
  obtain ⟨xs, hxs⟩ : ∃ z, z = rowV (bF x) 256 := ⟨_, rfl⟩
  rw [← hxs] at HNO
  have HIX : Hid ((Try.prog.info? TH).map (·.size) = some xs.size) := Lib.hid (by rw [hxs]; exact hid_info _)
  have HXS := Lib.hid hxs
  clear hxs hxl
  go_enter Try.func14, Try.ntmps14
  go_wp2_with fail
  generalize w.alloc (.cells #[.int .u64 (e : Int), .int .i64 (b : Int)] TN) = W0 at *
  refine HT.out.mono ?_
  rintro r w1 ⟨A1, c1, rfl, hb1, hbs1, hnew⟩
  obtain ⟨b9, o9, rfl, hb9, _⟩ := hbs1.at_ (by omega)
  have HB1 := Lib.hid (HB0.out.trans (hb1.mono HB0.out.size))
  have HBS1 := Lib.hid hbs1
  have HNB : Hid (w.heap.size + 1 ≤ b9) := Lib.hid (by have := hnew _ rfl; rw [HZ.out] at this; exact this)
  have HX1 := Lib.hid ((hb1.block w.heap.size (by rw [HZ.out]; omega)).trans HX0.out)
  have HS1 := Lib.hid ((HS.out.next HB0.out).next hb1)
  have hcap1 := hbs1.cap
  have HBL : Hid (b9 < w1.heap.size) := Lib.hid hb9
  clear hb1 hbs1 hnew hb9 HT HZ HX0
  have HK : Hid (∀ W : World, W.heap[w.heap.size]? = w1.heap[w.heap.size]? → W.heap[b9]? = w1.heap[b9]? → W.cell? ⟨w.heap.size, 0, none⟩ = some (.int .u64 (e : Int)) ∧ W.cell? ⟨w.heap.size, 1, none⟩ = some (.int .i64 (b : Int)) ∧ W.rangeAt b9 o9 xs.toList) := Lib.hid (fun W h1 h2 => by
    have hx := h1.trans HX1.out
    refine ⟨blk_cell hx 0, blk_cell hx 1, ?_⟩
    rw [HXS.out]
    have := bs_range HBS1.out (by omega)
    exact fun j v hv => (World.cell?_of_block (a := ⟨b9, o9 + j, none⟩) h2).trans (this j v hv))
  have harr : ∀ W : World, (Instr.arrayAt TH (.slice (some ⟨b9, o9, none⟩) 256 c1)).run Try.prog W = .ok (.pointer (some ⟨b9, o9, none⟩)) W := fun W => run_arrayAt W TH 5 256 _ 256 c1 Try.underlying87 (Nat.le_refl _)
  go_wp2_with fail
  refine wp_region_F (S := fun (W : World) => W.cell? ⟨w.heap.size, 0, none⟩ = some (.int .u64 (e : Int)) ∧ W.cell? ⟨w.heap.size, 1, none⟩ = some (.int .i64 (b : Int)) ∧ W.rangeAt b9 o9 xs.toList) [] (by kernel_rfl) (HK.out _ rfl rfl) (fun hHeld => ?_)
  refine wpAnyF_take (i := 0) (oi := _) (v := ?_) rfl (by kernel_rfl) (by kernel_rfl) (by kernel_rfl) (by kernel_rfl) (fun _ _ _ h => h) (Or.inl ⟨by rfl, ?_⟩) (by assumption) ?_
  rotate_left 1
  · intro w hSw
    (try dsimp only at hSw)
    (first | (go_simp; done) | (go_simp; with_reducible rfl))
  (try simp only [Act.put, List.getElem_toArray, List.getElem_cons_succ, List.getElem_cons_zero, List.setIfInBounds_toArray, List.set_cons_zero, List.set_cons_succ])
  refine wpAnyF_take (i := 1) (oi := _) (v := ?_) rfl (by kernel_rfl) (by kernel_rfl) (by kernel_rfl) (by kernel_rfl) (fun _ _ _ h => h) (Or.inl ⟨by rfl, ?_⟩) (by assumption) ?_
  rotate_left 1
  · intro w hSw
    (try dsimp only at hSw)
    (first | (go_simp; done) | (go_simp; with_reducible rfl))
  (try simp only [Act.put, List.getElem_toArray, List.getElem_cons_succ, List.getElem_cons_zero, List.setIfInBounds_toArray, List.set_cons_zero, List.set_cons_succ])
  refine wpAnyF_take (i := 2) (oi := _) (v := ?_) rfl (by kernel_rfl) (by kernel_rfl) (by kernel_rfl) (by kernel_rfl) (fun _ _ _ h => h) (Or.inl ⟨by rfl, ?_⟩) (by assumption) ?_
  rotate_left 1
  · intro w hSw
    (try dsimp only at hSw)
    (first | (go_simp; done) | (go_simp; with_reducible rfl))
  (try simp only [Act.put, List.getElem_toArray, List.getElem_cons_succ, List.getElem_cons_zero, List.setIfInBounds_toArray, List.set_cons_zero, List.set_cons_succ])
  refine wpAnyF_take (i := 3) (oi := _) (v := ?_) rfl (by kernel_rfl) (by kernel_rfl) (by kernel_rfl) (by kernel_rfl) (fun _ _ _ h => h) (Or.inl ⟨by rfl, ?_⟩) (by assumption) ?_
  rotate_left 1
  · intro w hSw
    (try dsimp only at hSw)
    (first | (go_simp; done) | (go_simp; with_reducible rfl))
  (try simp only [Act.put, List.getElem_toArray, List.getElem_cons_succ, List.getElem_cons_zero, List.setIfInBounds_toArray, List.set_cons_zero, List.set_cons_succ])
  refine wpAnyF_take (i := 4) (oi := _) (v := .agg xs) rfl (by kernel_rfl) (by kernel_rfl) (by kernel_rfl) (by kernel_rfl) (fun _ _ _ h => h) (Or.inl ⟨by rfl, ?_⟩) (by assumption) ?_
  · intro w hSw
    (try dsimp only at hSw)
    exact exec_rowA TH (.tmp 28) (by rfl) b9 o9 (by rfl) xs _ hSw.2.2 Try.underlying87 (by rfl) HIX.out
  (try simp only [Act.put, List.getElem_toArray, List.getElem_cons_succ, List.getElem_cons_zero, List.setIfInBounds_toArray, List.set_cons_zero, List.set_cons_succ])
  refine wpAnyF_ready (rs := [5]) (by kernel_rfl) (by simp) ?_
  refine AllReadyF.cons (o := _) rfl (fun K hK => ?_) AllReadyF.nil
  go_simp
  (go_at_call 28)
  refine (HNO.out _ (HS1.out.keep (w' := w1.drew) rfl rfl)).mono ?_
  rintro r w9 ⟨rfl, ht9, hs9⟩
  have HT9 := Lib.hid ht9
  have HS9 := Lib.hid hs9
  clear ht9 hs9
  refine hK.out _ _ (HK.out _ (HT9.out.block _ (blk_lt HX1.out) (by have := HS.out.lt; have := HS.out.ltm; omega)) (HT9.out.block _ (HBL.out) (by have := HS.out.lt; have := HS.out.ltm; have := HNB.out; omega))) (fun hHeld5 => ?_)
  clear hK K
  (try simp only [Act.put, List.getElem_toArray, List.getElem_cons_succ, List.getElem_cons_zero, List.setIfInBounds_toArray, List.set_cons_zero, List.set_cons_succ])
  refine wpAnyF_done (by kernel_rfl) ?_ _
  have HBF : Hid (BS w9 w9.heap.size (some ⟨b9, o9, none⟩) 256 c1 x) := Lib.hid (((HBS1.out.keepA (w' := w9) (fun b o q _ => by
    injection q with q
    injection q with q _ _
    subst q
    exact HT9.out.block _ HBL.out (by have := HS.out.lt; have := HS.out.ltm; have := HNB.out; omega))).more HT9.out.size))
  go_wp2
  go_ret2
  exact ⟨_, _, rfl, HBF.out, fun ad q => by injection q with q; subst q; have := HNB.out; show w.heap.size ≤ b9; omega, (Turns.of_below HB1.out.drew).trans HT9.out fun j _ hj => hj, HS9.out⟩
end
end Go.Proofs.Ythjpaligpojlnaa
