/-
  Joined: RowA, RowB.
-/
import Derived.Test.YtcaogiaoabdkdaaDoorZWordC
namespace Go.Proofs.YtcaogiaoabdkdaaDoor
set_option maxRecDepth 100000
section
open Go.RowKit
set_option linter.unusedVariables false
theorem eval_one {l : List Nat} : ∀ u ∈ bvals l, u.oneCell' = true := by
  intro v hv
  obtain ⟨x, _, rfl⟩ := List.mem_map.mp hv
  rfl
set_option maxRecDepth 100000 in
theorem wp_app_all {ops : Array Oper} {rest : List Oper} {o : Oper} {a : Act} {Q : Exit → Act → World → Prop} (W : World) (hgd : o.guard = none) (s x : Operand)
    (ho : o.op = .call { callee := .builtin .append, args := #[s, x], argTypes := #[24, 24] })
    (ad : Addr) (n c : Nat) (l : List Nat) (hs : a.eval s = .slice (some ⟨W.heap.size, 0, none⟩) 0 0) (hx : a.eval x = .slice (some ad) n c)
    (hbs : BS W W.heap.size (some ad) n c l) (hn : n < 1000000000)
    (h : ∀ v' w', Own w' W.heap.size v' l → Below W.heap.size W w' → wpList Tryd.prog ops Q rest (a.put o.dst v') w') :
    wpList Tryd.prog ops Q (o :: rest) a (W.alloc (.cells #[] 5)) := by
  obtain ⟨i0, hi, hz0, hz1, hz2⟩ := info_parts info_u8
  have hown : (W.alloc (.cells #[] 5)).ownsRow W.heap.size 5 1 (.slice (some ⟨W.heap.size, 0, none⟩) 0 0) 0 [] := World.ownsRow_made W #[] 0 (Nat.le_refl _) (by unfold maxLen; omega) rfl
  have hl := hbs.len
  refine wpList_append_own _ hgd s x 24 ho W.heap.size 5 i0 (.int .u8 0) 1 1 Tryd.underlying24 hi hz0 hz1 hz2 rfl (by decide) _ 0 [] hs hown ad n c (bvals l) hx (by simp [bvals, hl]) ?_ eval_one (by unfold maxLen; omega) (by omega) (by simp) ?_
  · intro j u hj
    have hjl : j < l.length := by
      rcases Nat.lt_or_ge j l.length with h1 | h1
      · exact h1
      · rw [List.getElem?_eq_none (by simp [bvals]; omega)] at hj; cases hj
    obtain ⟨b, off, e, hb, hc⟩ := hbs.at_ (by omega)
    obtain rfl := Option.some.inj e
    have e2 : (bvals l)[j]? = some (.int .u8 ((l.getD j 0 : Nat) : Int)) := by simp [bvals, List.getElem?_map, List.getElem?_eq_getElem hjl, List.getD]
    rw [e2] at hj
    rw [Go.WideShapes.add_plain, World.cell?_alloc_lt _ _ _ hb, hc j (by omega), hj]
  · intro v' w1 hown' hg _
    refine h v' w1 ?_ ?_
    · unfold Own
      rw [hl]
      simpa using hown'
    · exact ((Below.refl W.heap.size W).alloc (Nat.le_refl _) _).grown hg (by simp) (fun k hk => by simp [Value.ownBlock] at hk; omega)
theorem eql_nil (W : World) (a : Option Addr) (n c : Nat) : (binOp .eql 24 (.slice a n c) (.slice none 0 0)).run Tryd.prog W = .ok (.bool a.isNone) W := by
  simp [binOp, run_equal_slice_nil W 24 5 a n c Tryd.underlying24]
/-- block g is a row of which l is left, and what was wrong first is e -/
def RowSt (W : World) (g : Nat) (t : TypeId) (l : List Nat) (e : Int) : Prop :=
  ∃ A c, W.heap[g]? = some (.cells #[.slice A l.length c, .int .i64 e] t (0, 0)) ∧ BS W g A l.length c l
theorem RowSt.lt {W : World} {g : Nat} {t : TypeId} {l : List Nat} {e : Int} (h : RowSt W g t l e) : g < W.heap.size := by
  obtain ⟨A, c, h1, _⟩ := h
  exact blk_lt h1
theorem set2 (x0 x1 a b : Value) : (#[x0, x1].setIfInBounds 0 a).setIfInBounds 1 b = #[a, b] := by simp
theorem fail_close {g : Nat} (e : Int) {x0 x1 : Value} {t : TypeId} {W : World} (hg : W.heap[g]? = some (.cells #[x0, x1] t (0, 0))) :
    ((W.setCell ⟨g, 0, none⟩ (.slice none 0 0)).setCell ⟨g, 1, none⟩ (.int .i64 e)).heap[g]? = some (.cells #[.slice none 0 0, .int .i64 e] t (0, 0)) ∧
      W.grownBy ((W.setCell ⟨g, 0, none⟩ (.slice none 0 0)).setCell ⟨g, 1, none⟩ (.int .i64 e)) (some g) := by
  have h1 := blk_set hg 0 (Value.slice none 0 0)
  have h2 := blk_set h1 1 (Value.int IntKind.i64 e)
  rw [set2] at h2
  have k1 : W.grownBy (W.setCell ⟨g, 0, none⟩ (Value.slice none 0 0)) (some g) := only_set (p := ⟨g, 0, none⟩) (World.grownBy.refl W (some g)) (.inl rfl) _
  exact ⟨h2, only_set (p := ⟨g, 1, none⟩) k1 (.inl rfl) _⟩
end
section
open Go.RowKit
set_option linter.unusedVariables false
theorem BS.drop {w : World} {B n c k : Nat} {A : Option Addr} {l : List Nat} (h : BS w B A n c l) (hk : k ≤ n) :
    BS w B (if c = k then A else A.map (·.add k)) (n - k) (c - k) (l.drop k) := by
  obtain ⟨h1, h2, h3, h4, h5⟩ := h
  refine ⟨by rw [List.length_drop, h1], by omega, by omega, fun i => ?_, fun hn => ?_⟩
  · have := h4 (k + i)
    simpa [List.getD, List.getElem?_drop] using this
  · obtain ⟨b, o, e, hb, hc⟩ := h5 (by omega)
    rw [if_neg (by omega), e]
    refine ⟨b, o + k, by simp [Go.WideShapes.add_plain], hb, fun i hi => ?_⟩
    rw [Nat.add_assoc, hc (k + i) (by omega)]
    simp [List.getD, List.getElem?_drop]
/-- what take gives, what is left, and what was wrong first -/
def takeS (l : List Nat) (e : Int) (n : Int) (may : Bool) : List Nat × List Nat × Int :=
  if e ≠ 0 then ([], l, e) else if may = false then ([], [], 1) else if (l.length : Int) < n then ([], [], 3) else (l.take n.toNat, l.drop n.toNat, 0)
theorem set0 (x0 x1 a : Value) : #[x0, x1].setIfInBounds 0 a = #[a, x1] := by simp
/-! Num, Bytes, Err, Rest -/
theorem only_trans {a b c : World} {g : Nat} (h : a.grownBy b (some g)) (k : b.grownBy c (some g)) : a.grownBy c (some g) :=
  ⟨k.os.trans h.os, k.tape.trans h.tape, k.output.trans h.output, Nat.le_trans h.size k.size, fun i hi hne => (k.block i (Nat.lt_of_lt_of_le hi h.size) hne).trans (h.block i hi hne)⟩
theorem only_below {a b : World} {g : Nat} (h : Below a.heap.size a b) : a.grownBy b (some g) := ⟨h.os, h.tape, h.output, h.size, fun i hi _ => h.block i hi⟩
theorem RowSt.below {W W' : World} {g : Nat} {t : TypeId} {l : List Nat} {e : Int} (h : RowSt W g t l e) (hb : Below W.heap.size W W') : RowSt W' g t l e := by
  have hlt := h.lt
  obtain ⟨A, c, h1, h2⟩ := h
  exact ⟨A, c, (hb.block g hlt).trans h1, h2.below (hb.mono (Nat.le_of_lt hlt))⟩
theorem RowSt.only {W W' : World} {g g' : Nat} {t : TypeId} {l : List Nat} {e : Int} (h : RowSt W g t l e) (hb : W.grownBy W' (some g')) (hne : g ≠ g') (hlt' : g ≤ g') : RowSt W' g t l e := by
  have hlt := h.lt
  obtain ⟨A, c, h1, h2⟩ := h
  refine ⟨A, c, (hb.block g hlt (fun e => by injection e with e; exact hne e)).trans h1, h2.keep fun p hp => World.cell?_of_block (hb.block p.block (by omega) (fun e => by injection e with e; omega))⟩
theorem RowSt.dr {W : World} {g : Nat} {t : TypeId} {l : List Nat} {e : Int} (h : RowSt W g t l e) : RowSt W.drew g t l e := h
def mayN (n : Int) : Bool := decide (1 ≤ n ∧ n ≤ 8)
theorem mayN_pos {n : Int} (h : mayN n = true) : 0 ≤ n := by
  have := of_decide_eq_true h
  omega
theorem takeS_len (l : List Nat) (e n : Int) (may : Bool) : (takeS l e n may).1.length ≤ l.length := by
  unfold takeS
  split
  · simp
  · split
    · simp
    · split
      · simp
      · rw [List.length_take]; omega
end
end Go.Proofs.YtcaogiaoabdkdaaDoor
