/-
  Joined: OpenF, Str, ScA.
-/
import Derived.WalkKit
import Derived.ProofKit
import Derived.OpenShut
import Derived.Deep.Slices
import Derived.Deep.Fields
import Derived.ChangeSame
import Derived.Test.YtcaogiaoabdkdaaDoorZSl
import Derived.Test.YtcaogiaoabdkdaaDoorZScM
import Derived.Test.YtcaogiaoabdkdaaDoorZRowB
import Derived.Test.YtcaogiaoabdkdaaDoorZOwnW
import Derived.Deep.AppendLies
namespace Go.Proofs.YtcaogiaoabdkdaaDoor
set_option maxRecDepth 100000
section
open Go.RowKit Go Go.WideShapes Go.ChangeShapes Go.Deep
set_option linter.unusedVariables false
section
variable {H : Type} {enc : TypeId × Value → H} {P : Program} {w : World}
/-- field j of element i lies in a cell of its own, and reads as its type does -/
def FieldsAt (enc : TypeId × Value → H) (P : Program) (w : World) (A : Option Addr) (n : Nat) (fs : Array Field) : Prop :=
  0 < n → ∃ b o, A = some ⟨b, o, none⟩ ∧ b < w.heap.size ∧ ∀ i, i < n → ∀ j f, fs[j]? = some f → ∃ v fuel y, w.cell? ⟨b, o + (i * fs.size + j), none⟩ = some v ∧ DataW.trod enc P w 0 (fun _ => true) true fuel f.type [v] = some y
theorem fields_open {t e : TypeId} {fs : Array Field} (ht : P.underlying t = some (.slice e)) (he : P.underlying e = some (.struct fs)) (hone : oneCellFields P fs = true) (hC : P.cellsOf e = fs.size) (h0 : 0 < fs.size)
    {A : Option Addr} {n c : Nat} {d : DataW H} {p : List MemPlace} (h : DataW.Trod enc P w 0 (fun _ => true) true t (.slice A n c) d p) :
    FieldsAt enc P w A n fs ∧ n ≤ c ∧ c ≤ maxLen ∧ (A = none → c = 0) := by
  obtain ⟨fuel, hfu⟩ := h
  rcases open_slice ht hfu with ⟨hcs, _⟩ | ⟨a, len, cap, m, k, D, Pl, hcs, _, hl, hm, hmm, _, hi⟩
  · simp [Value.cells] at hcs
    obtain ⟨rfl, rfl, rfl⟩ := hcs
    exact ⟨fun h => absurd h (by omega), by omega, by unfold maxLen; omega, fun _ => rfl⟩
  · simp [Value.cells] at hcs
    obtain ⟨rfl, rfl, rfl⟩ := hcs
    have hm2 : m = c := by simpa using hmm
    have key : ∀ i, i < n → ∀ j f, fs[j]? = some f → ∃ v fuel y, w.cell? ((a.add (i * fs.size)).add j) = some v ∧ DataW.trod enc P w 0 (fun _ => true) true fuel f.type [v] = some y := fun i hin j f hj => by
      obtain ⟨cs', hc, ht'⟩ := hi i (by omega)
      rw [hC] at hc
      obtain ⟨ys, n', _, _, _, hyl, hf⟩ := DataW.trod_struct he ht'
      obtain ⟨_, hcl, hat⟩ := World.cells?_some hc
      obtain ⟨ho, hk⟩ := hone_of hone j f hj
      have hjl : j < fs.size := (Array.getElem?_eq_some_iff.1 hj).1
      have h1 := hf j f hj
      rw [ho, hk] at h1
      have h2 : (cs'.drop j).take 1 = [cs'[j]'(by omega)] := by
        rw [List.drop_eq_getElem_cons (by omega)]
        rfl
      rw [h2] at h1
      have h3 : ys[j]? = some (ys[j]'(by omega)) := List.getElem?_eq_getElem (by omega)
      have h4 : cs'[j]? = some (cs'[j]'(by omega)) := List.getElem?_eq_getElem (by omega)
      exact ⟨cs'[j]'(by omega), n', _, (hat j hjl).trans h4, h1.trans h3⟩
    refine ⟨fun hn0 => ?_, hl, hm, fun h => by cases h⟩
    obtain ⟨b, off, spot⟩ := a
    obtain ⟨v0, _, _, hc0, _⟩ := key 0 hn0 0 _ (Array.getElem?_eq_getElem h0)
    have hspot : spot = none := by simpa [Addr.add] using World.cell?_spot hc0
    subst hspot
    refine ⟨b, off, rfl, by simpa [Go.WideShapes.add_plain] using block_lt_of_cell hc0, fun i hin j f hj => ?_⟩
    obtain ⟨v, fu, y, h1, h2⟩ := key i hin j f hj
    refine ⟨v, fu, y, ?_, h2⟩
    rw [← h1, Go.WideShapes.add_plain, Go.WideShapes.add_plain, Nat.add_assoc]
end
end
section
open Go.RowKit Go
set_option linter.unusedVariables false
theorem loop_eq (s : ByteArray) : ∀ n i r, s.size - i = n → ByteArray.toList.loop s i r = r.reverse ++ s.data.toList.drop i := by
  intro n
  induction n with
  | zero =>
    intro i r h
    unfold ByteArray.toList.loop
    have hs : s.data.toList.length = s.size := Array.length_toList
    rw [if_neg (by omega), List.drop_eq_nil_of_le (by omega), List.append_nil]
  | succ n ih =>
    intro i r h
    unfold ByteArray.toList.loop
    have hs : s.data.toList.length = s.size := Array.length_toList
    rw [if_pos (by omega), ih (i + 1) _ (by omega), List.reverse_cons, List.append_assoc, List.singleton_append]
    congr 1
    rw [List.drop_eq_getElem_cons (by omega : i < s.data.toList.length)]
    congr 1
    have hlt : i < s.data.size := by have : s.data.size = s.size := rfl; omega
    show s.data[i]! = s.data.toList[i]
    rw [getElem!_pos s.data i hlt, Array.getElem_toList]
theorem toList_data (s : ByteArray) : s.toList = s.data.toList := by
  unfold ByteArray.toList
  rw [loop_eq s _ 0 [] rfl]
  simp
theorem str_toList {l m : List Nat} (hl : ∀ i, l.getD i 0 < 256) (hm : ∀ i, m.getD i 0 < 256) : ((str l).toList == (str m).toList) = decide (l = m) := by
  rw [toList_data, toList_data]
  by_cases h : l = m
  · subst h; simp
  · rw [decide_eq_false h, beq_eq_false_iff_ne]
    intro e
    exact h (str_inj hl hm (Go.WideShapes.bytes_inj e))
theorem str_ne {l m : List Nat} (hl : ∀ i, l.getD i 0 < 256) (hm : ∀ i, m.getD i 0 < 256) (h : ¬ l = m) : ((str l).toList == (str m).toList) = false := by
  rw [str_toList hl hm, decide_eq_false h]
end
section
open Go.RowKit Go Go.WideShapes Go.ChangeShapes Go.Deep
set_option linter.unusedVariables false
set_option linter.unusedSimpArgs false
theorem sameB_dec {l l2 : List Nat} (h : ∀ i, l.getD i 0 < 256) (h2 : ∀ i, l2.getD i 0 < 256) : sameB l l2 = decide (l = l2) := by
  unfold sameB
  exact str_toList h h2
/-- an act's seven cells -/
def acL (a : Ac) (A : Option Addr) (n c : Nat) : List Value := [.int .i64 a.kind, .bool a.yes, .int .i64 a.which, .int .i64 a.k, .int .i64 a.n, .int .i64 a.pos, .slice A n c]
/-- from place o of block b on there are acts -/
def AcB (w : World) (b o : Nat) (l : List Ac) : Prop :=
  b < w.heap.size ∧ ∀ i, i < l.length → ∃ A c, (∀ j v, (acL (aAt l i) A (aAt l i).b.length c)[j]? = some v → w.cell? ⟨b, o + i * 7 + j, none⟩ = some v) ∧ BS w w.heap.size A (aAt l i).b.length c (aAt l i).b ∧ (A = none → c = 0)
theorem AcB.below {w w' : World} {b o : Nat} {l : List Ac} (h : AcB w b o l) (hb : Below w.heap.size w w') : AcB w' b o l :=
  ⟨Nat.lt_of_lt_of_le h.1 hb.size, fun i hi => by
    obtain ⟨A, c, h1, h3, h4⟩ := h.2 i hi
    exact ⟨A, c, fun j v hj => (hb.cell (p := ⟨b, o + i * 7 + j, none⟩) h.1).trans (h1 j v hj), (h3.below hb).more hb.size, h4⟩⟩
/-- a slice of acts, nil or not -/
def AcV (w : World) (A : Option Addr) (n : Nat) (l : List Ac) : Prop := l.length = n ∧ (0 < n → ∃ b o, A = some ⟨b, o, none⟩ ∧ AcB w b o l)
theorem AcV.below {w w' : World} {A : Option Addr} {n : Nat} {l : List Ac} (h : AcV w A n l) (hb : Below w.heap.size w w') : AcV w' A n l :=
  ⟨h.1, fun hn => by obtain ⟨b, o, e, h1⟩ := h.2 hn; exact ⟨b, o, e, h1.below hb⟩⟩
theorem AcV.nil (w : World) : AcV w none 0 [] := ⟨rfl, fun h => absurd h (by omega)⟩
theorem AcV.byte {w : World} {A : Option Addr} {n : Nat} {l : List Ac} (h : AcV w A n l) (i : Nat) : byteL (aAt l i).b := by
  by_cases hi : i < l.length
  · obtain ⟨b, o, _, h1⟩ := h.2 (by have := h.1; omega)
    obtain ⟨A1, c, _, h3, _⟩ := h1.2 i hi
    exact h3.byte
  · have e : aAt l i = acZ := by simp [aAt, List.getD, List.getElem?_eq_none (Nat.le_of_not_lt hi)]
    rw [e]; intro j; simp
theorem AcV.take {w : World} {A : Option Addr} {n : Nat} {l : List Ac} (h : AcV w A n l) {k : Nat} (hk : k ≤ n) : AcV w A k (l.take k) := by
  refine ⟨by rw [List.length_take, h.1]; omega, fun h0 => ?_⟩
  obtain ⟨b, o, e, h1⟩ := h.2 (by omega)
  refine ⟨b, o, e, h1.1, fun i hi => ?_⟩
  have hik : i < k := by rw [List.length_take] at hi; omega
  have e2 : aAt (l.take k) i = aAt l i := by simp [aAt, List.getD, List.getElem?_take_of_lt hik]
  rw [e2]
  exact h1.2 i (by rw [List.length_take] at hi; omega)
/-- the cells of one of them, at a later world -/
theorem AcV.at_ {w : World} {A : Option Addr} {n : Nat} {l : List Ac} (h : AcV w A n l) {i : Nat} (hi : i < n) : ∃ b o A1 c1, A = some ⟨b, o, none⟩ ∧ b < w.heap.size ∧
    w.cell? ⟨b, o + i * 7, none⟩ = some (.int .i64 (aAt l i).kind) ∧ w.cell? ⟨b, o + i * 7 + 1, none⟩ = some (.bool (aAt l i).yes) ∧ w.cell? ⟨b, o + i * 7 + 2, none⟩ = some (.int .i64 (aAt l i).which) ∧
    w.cell? ⟨b, o + i * 7 + 3, none⟩ = some (.int .i64 (aAt l i).k) ∧ w.cell? ⟨b, o + i * 7 + 4, none⟩ = some (.int .i64 (aAt l i).n) ∧ w.cell? ⟨b, o + i * 7 + 5, none⟩ = some (.int .i64 (aAt l i).pos) ∧
    w.cell? ⟨b, o + i * 7 + 6, none⟩ = some (.slice A1 (aAt l i).b.length c1) ∧ BS w w.heap.size A1 (aAt l i).b.length c1 (aAt l i).b ∧ (A1 = none → c1 = 0) := by
  obtain ⟨b, o, e, h1⟩ := h.2 (by omega)
  obtain ⟨A1, c1, h2, h3, h4⟩ := h1.2 i (by have := h.1; omega)
  exact ⟨b, o, A1, c1, e, h1.1, h2 0 _ rfl, h2 1 _ rfl, h2 2 _ rfl, h2 3 _ rfl, h2 4 _ rfl, h2 5 _ rfl, h2 6 _ rfl, h3, h4⟩
theorem Own.base {w : World} {B B' : Nat} {v : Value} {l : List Nat} (h : Own w B v l) (hB : B' ≤ B) : Own w B' v l := by
  obtain ⟨h1, h2⟩ := h
  refine ⟨h1, ?_⟩
  rcases h2 with h2 | ⟨g, cap, cur, hv, hg, hr⟩
  · exact .inl h2
  · exact .inr ⟨g, cap, cur, hv, Nat.le_trans hB hg, hr⟩
theorem own_zero {w : World} {B n c : Nat} {A : Option Addr} {l : List Nat} (h : Own w B (.slice A n c) l) : A = none → c = 0 := by
  rintro rfl
  obtain ⟨_, k⟩ := h
  rcases k with ⟨e, _⟩ | ⟨g, cap, cur, e, _⟩
  · injection e
  · injection e with e1 _ _
    cases e1
/-- an act's bytes: below the base, or a slice of its own -/
def EnI (w : World) (B0 B : Nat) (A : Option Addr) (c : Nat) (l : List Nat) : Prop := (BS w B0 A l.length c l ∨ (Own w B (.slice A l.length c) l ∧ ∀ i, l.getD i 0 < 256)) ∧ (A = none → c = 0)
theorem EnI.bs {w : World} {B0 B : Nat} {A : Option Addr} {c : Nat} {l : List Nat} (h : EnI w B0 B A c l) (h0 : B0 ≤ B) (hB : B ≤ w.heap.size) : BS w w.heap.size A l.length c l := by
  rcases h.1 with h | ⟨h, h2⟩
  · exact h.more (Nat.le_trans h0 hB)
  · obtain ⟨A2, c2, e, h3⟩ := h.bs h2
    injection e with e1 e2 e3
    subst e1 e3
    exact h3
theorem EnI.below {w w' : World} {B0 B : Nat} {A : Option Addr} {c : Nat} {l : List Nat} (h : EnI w B0 B A c l) (h0 : B0 ≤ B) (hB : B ≤ w.heap.size) (hb : Below w.heap.size w w') : EnI w' B0 B A c l := by
  obtain ⟨h, hz⟩ := h
  rcases h with h | ⟨h, h2⟩
  · exact ⟨.inl (h.keep fun p hp => hb.cell (Nat.lt_of_lt_of_le hp (Nat.le_trans h0 hB))), hz⟩
  · exact ⟨.inr ⟨h.below hb, h2⟩, hz⟩
theorem own_rows {w : World} {B s n : Nat} {v : Value} {e : TypeId} {vs : List Value} (h : w.ownsRow B e s v n vs) : ∀ g, v.ownBlock = some g → ∃ cs, w.heap[g]? = some (.cells cs e (0, 0)) := by
  intro g hg
  obtain ⟨_, k⟩ := h
  rcases k with ⟨rfl, _⟩ | ⟨g2, cap, cur, rfl, _, hh, _⟩
  · cases hg
  · have e2 : g2 = g := Option.some.inj (show (some g2 : Option Nat) = some g from hg)
    subst e2
    exact ⟨cur, hh⟩
theorem EnI.grown {w w' : World} {B0 B : Nat} {A : Option Addr} {c : Nat} {l : List Nat} (h : EnI w B0 B A c l) (h0 : B0 ≤ B) (hB : B ≤ w.heap.size) {row : Option Nat} (hg : w.grownBy w' row) {t : TypeId} (hr : ∀ g, row = some g → B ≤ g ∧ ∃ cs, w.heap[g]? = some (.cells cs t (0, 0))) (ht : t ≠ 5) : EnI w' B0 B A c l := by
  obtain ⟨h, hz⟩ := h
  refine ⟨?_, hz⟩
  rcases h with h | ⟨h, h2⟩
  · refine .inl (h.keep fun p hp => hg.cell_far p (Nat.lt_of_lt_of_le hp (Nat.le_trans h0 hB)) fun e => ?_)
    have := (hr _ e.symm).1
    omega
  · refine .inr ⟨h.keep fun g e => hg.block g (h.lt e).2 fun e2 => ?_, h2⟩
    obtain ⟨cs, h3⟩ := own_rows h g e
    obtain ⟨_, cs2, h4⟩ := hr g e2.symm
    rw [h3] at h4
    have h5 := Option.some.inj h4
    injection h5 with _ h6 _
    exact ht h6.symm
/-- a row of acts that the call itself made -/
def AcO (t : TypeId) (w : World) (B0 B : Nat) (v : Value) (l : List Ac) : Prop :=
  ∃ vs : List Value, w.ownsRow B t 7 v l.length vs ∧ ∀ i, i < l.length → ∃ A c, (∀ j x, (acL (aAt l i) A (aAt l i).b.length c)[j]? = some x → vs[i * 7 + j]? = some x) ∧ EnI w B0 B A c (aAt l i).b
theorem AcO.nil (t : TypeId) (w : World) (B0 B : Nat) : AcO t w B0 B (.slice none 0 0) [] := ⟨[], World.ownsRow_nil _ _ _ _, fun i hi => by simp at hi⟩
theorem AcO.below {t : TypeId} {w w' : World} {B0 B : Nat} {v : Value} {l : List Ac} (h : AcO t w B0 B v l) (h0 : B0 ≤ B) (hB : B ≤ w.heap.size) (hb : Below w.heap.size w w') : AcO t w' B0 B v l := by
  obtain ⟨vs, h1, h2⟩ := h
  refine ⟨vs, h1.kept (row := none) ⟨hb.os, hb.tape, hb.output, hb.size, fun k hk _ => hb.block k hk⟩ (by cases hv : v.ownBlock <;> simp), fun i hi => ?_⟩
  obtain ⟨A, c, h3, h5⟩ := h2 i hi
  exact ⟨A, c, h3, h5.below h0 hB hb⟩
/-- a block between the two bases turns -/
theorem AcO.mid {t : TypeId} {w w' : World} {B0 B : Nat} {v : Value} {l : List Ac} (h : AcO t w B0 B v l) (h0 : B0 ≤ B) (hB : B ≤ w.heap.size) (hb0 : ∀ g, g < B0 → w'.heap[g]? = w.heap[g]?) (hb1 : ∀ g, B ≤ g → g < w.heap.size → w'.heap[g]? = w.heap[g]?) (hsz : w.heap.size ≤ w'.heap.size) : AcO t w' B0 B v l := by
  obtain ⟨vs, ⟨h1, h2⟩, h3⟩ := h
  refine ⟨vs, ⟨h1, ?_⟩, fun i hi => ?_⟩
  · rcases h2 with h2 | ⟨g, cap, cur, e1, e2, e3, e4⟩
    · exact .inl h2
    · exact .inr ⟨g, cap, cur, e1, e2, (hb1 g e2 (blk_lt e3)).trans e3, e4⟩
  · obtain ⟨A, c, k1, k3, hz⟩ := h3 i hi
    refine ⟨A, c, k1, ?_, hz⟩
    rcases k3 with k3 | ⟨k3, k4⟩
    · exact .inl (k3.keep fun q hq => World.cell?_of_block (hb0 q.block hq))
    · exact .inr ⟨k3.keep fun g e => hb1 g (k3.lt e).1 (k3.lt e).2, k4⟩
theorem AcO.set {t : TypeId} {w : World} {B0 B : Nat} {v : Value} {l : List Ac} (h : AcO t w B0 B v l) (p : Addr) (h0 : B0 ≤ p.block) (hB : p.block < B) (hw : B ≤ w.heap.size) (x : Value) : AcO t (w.setCell p x) B0 B v l :=
  h.mid (by omega) hw (fun g hg => Below.heap_setCell _ _ _ g (by omega)) (fun g hg _ => Below.heap_setCell _ _ _ g (by omega)) (by rw [size_set]; exact Nat.le_refl _)
/-- .. as a slice of acts -/
theorem AcO.acV {t : TypeId} {w : World} {B0 B : Nat} {v : Value} {l : List Ac} (h : AcO t w B0 B v l) (h0 : B0 ≤ B) (hB : B ≤ w.heap.size) : ∃ A c, v = .slice A l.length c ∧ AcV w A l.length l ∧ l.length ≤ c ∧ c ≤ maxLen ∧ (A = none → c = 0) := by
  obtain ⟨vs, ⟨h1, h0'⟩, h2⟩ := h
  rcases h0' with ⟨rfl, h3⟩ | ⟨g, cap, cur, rfl, hg, hh, hn, hm, hs, ht⟩
  · exact ⟨none, 0, by rw [h3], ⟨rfl, fun h => absurd h (by omega)⟩, by omega, by unfold maxLen; omega, fun _ => rfl⟩
  · refine ⟨_, cap, rfl, ⟨rfl, fun _ => ⟨g, 0, rfl, blk_lt hh, fun i hi => ?_⟩⟩, hn, hm, fun e => by cases e⟩
    obtain ⟨A, c, h3, h5⟩ := h2 i hi
    have hcell : ∀ k x, vs[k]? = some x → w.cell? ⟨g, k, none⟩ = some x := by
      intro k x hx
      rw [blk_cell hh k]
      rw [← ht] at hx
      have hk : k < l.length * 7 := by
        have := (List.getElem?_eq_some_iff.mp hx).1
        rw [List.length_take] at this; omega
      rw [List.getElem?_take_of_lt hk] at hx
      simpa using hx
    exact ⟨A, c, fun j x hj => by rw [Nat.zero_add]; exact hcell _ _ (h3 j x hj), h5.bs h0 hB, h5.2⟩
/-- an act is appended -/
theorem step_appA {K0 : Act → World → Prop} {o : Oper} {a : Act} {Q : Exit → Act → World → Prop} (te ts : TypeId) (hts : Tryd.prog.underlying ts = some (.slice te))
    (hte : (Tryd.prog.info? te).map (fun i => (i.zero, i.size, i.bytes)) = some (some (.agg #[.int .i64 0, .bool false, .int .i64 0, .int .i64 0, .int .i64 0, .int .i64 0, .slice none 0 0]), 7, 72)) (hne : te ≠ 5) (W : World) (s x : Operand)
    (ho : o.op = .call { callee := .builtin .append, args := #[s, x], argTypes := #[ts, ts] })
    (B0 B : Nat) (h0 : B0 ≤ B) (v : Value) (l : List Ac) (p : Ac) (A : Option Addr) (c n : Nat) (hln : p.b.length = n) (hs : a.eval s = v) (hown : AcO te W B0 B v l) (hl : l.length < 100000)
    (hx : a.eval x = .slice (some ⟨W.heap.size, 0, none⟩) 1 1) (hy : EnI W B0 B A c p.b) (hB : B ≤ W.heap.size)
    (h : ∀ v' w', AcO te w' B0 B v' (l ++ [p]) → Below B W w' → (∀ g, g < W.heap.size → v.ownBlock ≠ some g → w'.heap[g]? = W.heap[g]?) → K0 (a.put o.dst v') w') :
    Oper.wp Tryd.prog o a (W.alloc (.cells #[.int .i64 p.kind, .bool p.yes, .int .i64 p.which, .int .i64 p.k, .int .i64 p.n, .int .i64 p.pos, .slice A n c] te)) K0 Q := by
  subst hln
  obtain ⟨vs, hr, hit⟩ := hown
  obtain ⟨i0, hi, hz0, hz1, hz2⟩ := info_parts hte
  have hba : Below W.heap.size W (W.alloc (.cells #[.int .i64 p.kind, .bool p.yes, .int .i64 p.which, .int .i64 p.k, .int .i64 p.n, .int .i64 p.pos, .slice A p.b.length c] te)) := (Below.refl _ _).alloc (Nat.le_refl _) _
  have hra := World.ownsRow.alloc hr (.cells #[.int .i64 p.kind, .bool p.yes, .int .i64 p.which, .int .i64 p.k, .int .i64 p.n, .int .i64 p.pos, .slice A p.b.length c] te)
  have hBa : B ≤ (W.alloc (.cells #[.int .i64 p.kind, .bool p.yes, .int .i64 p.which, .int .i64 p.k, .int .i64 p.n, .int .i64 p.pos, .slice A p.b.length c] te)).heap.size := by simp; omega
  refine wp_append_own _ s x ts ho B te i0 (.agg #[.int .i64 0, .bool false, .int .i64 0, .int .i64 0, .int .i64 0, .int .i64 0, .slice none 0 0]) 7 72 hts hi hz0 hz1 hz2 rfl (by decide) v l.length vs hs hra ⟨W.heap.size, 0, none⟩ 1 1
    (acL p A p.b.length c) hx rfl ?_ ?_ (by unfold maxLen; omega) (by omega) hBa ?_
  · intro j u hj
    match j, hj with
    | 0, hj => simp [acL] at hj; subst hj; simp [Addr.add]
    | 1, hj => simp [acL] at hj; subst hj; simp [Addr.add]
    | 2, hj => simp [acL] at hj; subst hj; simp [Addr.add]
    | 3, hj => simp [acL] at hj; subst hj; simp [Addr.add]
    | 4, hj => simp [acL] at hj; subst hj; simp [Addr.add]
    | 5, hj => simp [acL] at hj; subst hj; simp [Addr.add]
    | 6, hj => simp [acL] at hj; subst hj; simp [Addr.add]
    | j + 7, hj => simp [acL] at hj
  · intro u hu
    simp [acL] at hu
    rcases hu with rfl | rfl | rfl | rfl | rfl | rfl | rfl <;> rfl
  · intro v' w1 hown' hg _
    have hrow : ∀ g, v.ownBlock = some g → B ≤ g ∧ ∃ cs, (W.alloc (.cells #[.int .i64 p.kind, .bool p.yes, .int .i64 p.which, .int .i64 p.k, .int .i64 p.n, .int .i64 p.pos, .slice A p.b.length c] te)).heap[g]? = some (.cells cs te (0, 0)) := fun g e => ⟨(World.ownsRow.lt hra g e).1, own_rows hra g e⟩
    have hkeep : ∀ A2 c2 l2, EnI W B0 B A2 c2 l2 → EnI w1 B0 B A2 c2 l2 := fun A2 c2 l2 h2 => (h2.below h0 hB hba).grown h0 hBa hg hrow hne
    refine h v' w1 ⟨vs ++ acL p A p.b.length c, by rw [List.length_append]; exact hown', fun i hi2 => ?_⟩ (((Below.refl B W).alloc hB _).grown hg hBa (fun k hk => (hrow k hk).1)) (fun g hlt hne2 => (hg.block g (by simp; omega) fun e => hne2 e.symm).trans (hba.block g hlt))
    have hvl : vs.length = l.length * 7 := hr.1
    by_cases hlt : i < l.length
    · obtain ⟨A2, c2, k1, k3⟩ := hit i hlt
      rw [aAt_app_lt hlt]
      refine ⟨A2, c2, fun j u hj => ?_, hkeep _ _ _ k3⟩
      have := k1 j u hj
      have hj7 : i * 7 + j < vs.length := (List.getElem?_eq_some_iff.mp this).1
      rw [List.getElem?_append_left hj7]; exact this
    · have e0 : i = l.length := by rw [List.length_append] at hi2; simp at hi2; omega
      subst e0
      rw [aAt_app_last]
      refine ⟨A, c, fun j u hj => ?_, hkeep _ _ _ hy⟩
      rw [← hvl, List.getElem?_append_right (by omega), Nat.add_sub_cancel_left]
      exact hj
theorem wp_appA {ops : Array Oper} {rest : List Oper} {o : Oper} {a : Act} {Q : Exit → Act → World → Prop} (te ts : TypeId) (hts : Tryd.prog.underlying ts = some (.slice te))
    (hte : (Tryd.prog.info? te).map (fun i => (i.zero, i.size, i.bytes)) = some (some (.agg #[.int .i64 0, .bool false, .int .i64 0, .int .i64 0, .int .i64 0, .int .i64 0, .slice none 0 0]), 7, 72)) (hne : te ≠ 5) (W : World) (hgd : o.guard = none) (s x : Operand)
    (ho : o.op = .call { callee := .builtin .append, args := #[s, x], argTypes := #[ts, ts] })
    (B0 B : Nat) (h0 : B0 ≤ B) (v : Value) (l : List Ac) (K z1 z2 z3 z4 : Int) (y : Bool) (bs : List Nat) (A : Option Addr) (c n : Nat) (hln : bs.length = n) (hs : a.eval s = v) (hown : AcO te W B0 B v l) (hl : l.length < 100000)
    (hx : a.eval x = .slice (some ⟨W.heap.size, 0, none⟩) 1 1) (hy : EnI W B0 B A c bs) (hB : B ≤ W.heap.size)
    (h : ∀ v' w', AcO te w' B0 B v' (l ++ [⟨K, y, z1, z2, z3, z4, bs⟩]) → Below B W w' → (∀ g, g < W.heap.size → v.ownBlock ≠ some g → w'.heap[g]? = W.heap[g]?) → wpList Tryd.prog ops Q rest (a.put o.dst v') w') :
    wpList Tryd.prog ops Q (o :: rest) a (W.alloc (.cells #[.int .i64 K, .bool y, .int .i64 z1, .int .i64 z2, .int .i64 z3, .int .i64 z4, .slice A n c] te)) :=
  wpList_plain hgd fun _ hK => step_appA te ts hts hte hne W s x ho B0 B h0 v l ⟨K, y, z1, z2, z3, z4, bs⟩ A c n hln hs hown hl hx hy hB fun v' w' h1 h2 h3 => hK _ _ (h v' w' h1 h2 h3)
section
variable {H : Type} {enc : TypeId × Value → H} {w : World}
theorem bs_of_cell {v : Value} {fuel : Nat} {y : DataW H × List MemPlace} (h : DataW.trod enc Tryd.prog w 0 (fun _ => true) true fuel 24 [v] = some y) : ∃ A n c l, v = .slice A n c ∧ BS w w.heap.size A n c l ∧ (A = none → c = 0) := by
  rcases open_ints Tryd.underlying24 Tryd.underlying5 (by kernel_rfl) h with ⟨hcs, _⟩ | ⟨x, l, c, zs, hcs, _, hl, hm, hz, _, hcell, hwz⟩
  · injection hcs with hcs
    subst hcs
    exact ⟨none, 0, 0, [], rfl, BS.nil _ _, fun _ => rfl⟩
  · injection hcs with hcs
    subst hcs
    obtain ⟨q, hq⟩ := BS.of_row (.inr ⟨x, rfl, hl, hm, by simpa using hz, hcell, hwz⟩)
    exact ⟨some x, l, c, q, rfl, hq, fun e => by cases e⟩
set_option maxRecDepth 100000 in
theorem acts_open {A : Option Addr} {n c : Nat} {d : DataW H} {p : List MemPlace} (h : DataW.Trod enc Tryd.prog w 0 (fun _ => true) true 22 (.slice A n c) d p) : ∃ l, AcV w A n l ∧ n ≤ c ∧ c ≤ 9223372036854775807 := by
  obtain ⟨h1, h2, h3, _⟩ := fields_open Tryd.underlying22 Tryd.underlying26 (by kernel_rfl) (by kernel_rfl) (by decide) h
  have hn9 : c ≤ 9223372036854775807 := by unfold maxLen at h3; omega
  rcases Nat.eq_zero_or_pos n with h0 | h0
  · exact ⟨[], ⟨h0.symm, fun h => absurd h (by omega)⟩, h2, hn9⟩
  obtain ⟨b, o, hA, hb, hf⟩ := h1 h0
  have key : ∀ i, ∃ r : Ac, i < n → ∃ A' c', (∀ j v, (acL r A' r.b.length c')[j]? = some v → w.cell? ⟨b, o + i * 7 + j, none⟩ = some v) ∧ BS w w.heap.size A' r.b.length c' r.b ∧ (A' = none → c' = 0) := fun i => by
    by_cases hi : i < n
    · obtain ⟨v0, _, y0, c0, t0⟩ := hf i hi 0 _ rfl
      obtain ⟨v1, _, y1, c1, t1⟩ := hf i hi 1 _ rfl
      obtain ⟨v2, _, y2, c2, t2⟩ := hf i hi 2 _ rfl
      obtain ⟨v3, _, y3, c3, t3⟩ := hf i hi 3 _ rfl
      obtain ⟨v4, _, y4, c4, t4⟩ := hf i hi 4 _ rfl
      obtain ⟨v5, _, y5, c5, t5⟩ := hf i hi 5 _ rfl
      obtain ⟨v6, _, y6, c6, t6⟩ := hf i hi 6 _ rfl
      obtain ⟨z0, e0, _, _⟩ := DataW.trod_int Tryd.underlying3 t0
      obtain ⟨q1, e1, _⟩ := DataW.trod_bool Tryd.underlying4 t1
      injection e1 with e1
      obtain ⟨z2, e2, _, _⟩ := DataW.trod_int Tryd.underlying3 t2
      obtain ⟨z3, e3, _, _⟩ := DataW.trod_int Tryd.underlying3 t3
      obtain ⟨z4, e4, _, _⟩ := DataW.trod_int Tryd.underlying3 t4
      obtain ⟨z5, e5, _, _⟩ := DataW.trod_int Tryd.underlying3 t5
      injection e0 with e0
      injection e2 with e2
      injection e3 with e3
      injection e4 with e4
      injection e5 with e5
      obtain ⟨A1, n1, c1', l1, rfl, b1, z1⟩ := bs_of_cell t6
      have hl := b1.len
      subst hl
      subst e0 e1 e2 e3 e4 e5
      refine ⟨⟨z0, q1, z2, z3, z4, z5, l1⟩, fun _ => ⟨A1, c1', fun j v hj => ?_, b1, z1⟩⟩
      rw [Nat.add_assoc]
      match j, hj with
      | 0, hj => have := Option.some.inj hj; subst this; exact c0
      | 1, hj => have := Option.some.inj hj; subst this; exact c1
      | 2, hj => have := Option.some.inj hj; subst this; exact c2
      | 3, hj => have := Option.some.inj hj; subst this; exact c3
      | 4, hj => have := Option.some.inj hj; subst this; exact c4
      | 5, hj => have := Option.some.inj hj; subst this; exact c5
      | 6, hj => have := Option.some.inj hj; subst this; exact c6
      | j + 7, hj => simp [acL] at hj
    · exact ⟨acZ, fun h => absurd h hi⟩
  obtain ⟨R, hR⟩ := Classical.axiomOfChoice key
  have hget : ∀ i, i < n → aAt ((List.range n).map R) i = R i := fun i hi => by
    unfold aAt
    rw [List.getD_eq_getElem?_getD, List.getElem?_map, List.getElem?_range hi]; rfl
  refine ⟨(List.range n).map R, ⟨by simp, fun _ => ⟨b, o, hA, hb, fun i hi => ?_⟩⟩, h2, hn9⟩
  have hi2 : i < n := by simpa using hi
  rw [hget i hi2]
  exact hR i hi2
end
end
end Go.Proofs.YtcaogiaoabdkdaaDoor
