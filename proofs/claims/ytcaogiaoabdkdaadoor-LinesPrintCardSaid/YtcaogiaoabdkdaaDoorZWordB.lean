/-
  What the document's own Put, Turned and Get answer, and word's Get; the example; bytes that are not too many.
-/
import Derived.Test.YtcaogiaoabdkdaaDoorZWordA
import Derived.OwnWalk
namespace Go.Proofs.YtcaogiaoabdkdaaDoor
open Go.RowKit
set_option linter.unusedVariables false
def bvals (l : List Nat) : List Value := l.map fun x => Value.int .u8 ((x : Nat) : Int)
/-- a slice of the call's own, from block B on, that reads as l -/
def Own (w : World) (B : Nat) (v : Value) (l : List Nat) : Prop := w.ownsRow B 5 1 v l.length (bvals l)
theorem Own.nil (w : World) (B : Nat) : Own w B (.slice none 0 0) [] := World.ownsRow_nil _ _ _ _
theorem Own.bs {w : World} {B : Nat} {v : Value} {l : List Nat} (h : Own w B v l) (h2 : ∀ i, l.getD i 0 < 256) : ∃ A c, v = .slice A l.length c ∧ BS w w.heap.size A l.length c l := BS.of_own h h2
theorem wp_app {ops : Array Oper} {rest : List Oper} {o : Oper} {a : Act} {Q : Exit → Act → World → Prop} (W : World) (hgd : o.guard = none) (s x : Operand)
    (ho : o.op = .call { callee := .builtin .append, args := #[s, x], argTypes := #[24, 24] })
    (B : Nat) (v : Value) (l : List Nat) (z : Int) (b : Nat) (hs : a.eval s = v) (hown : Own W B v l)
    (hx : a.eval x = .slice (some ⟨W.heap.size, 0, none⟩) 1 1) (hz : z = (b : Int)) (hn : l.length < 1000000000) (hB : B ≤ W.heap.size)
    (h : ∀ v' w', Own w' B v' (l ++ [b]) → Below B W w' → wpList Tryd.prog ops Q rest (a.put o.dst v') w') :
    wpList Tryd.prog ops Q (o :: rest) a (W.alloc (.cells #[.int .u8 z] 5)) := by
  obtain ⟨i0, hi, hz0, hz1, hz2⟩ := info_parts info_u8
  subst hz
  refine wpList_append_own _ hgd s x 24 ho B 5 i0 (.int .u8 0) 1 1 Tryd.underlying24 hi hz0 hz1 hz2 rfl (by decide) v l.length (bvals l) hs (World.ownsRow.alloc hown _) ⟨W.heap.size, 0, none⟩ 1 1
    [.int .u8 (b : Int)] hx rfl ?_ ?_ (by unfold maxLen; omega) (by omega) (by simp; omega) ?_
  · intro j u hj
    match j, hj with
    | 0, hj => simp at hj; subst hj; simp [Addr.add]
  · intro u hu; simp at hu; subst hu; rfl
  · intro v' w1 hown' hg _
    refine h v' w1 ?_ ?_
    · have e : bvals (l ++ [b]) = bvals l ++ [.int .u8 (b : Int)] := by simp [bvals]
      unfold Own
      rw [e, List.length_append]
      exact hown'
    · exact ((Below.refl B W).alloc hB _).grown hg (by simp; omega) (fun k hk => (World.ownsRow.lt hown k hk).1)
def RefPutRel (w : World) (V n : Nat) (v i x : Value) (wr : World) : Prop :=
  ∃ k : Nat, i = .int .i64 (k : Int) ∧ x = .int .u64 ((V / 256 ^ k : Nat) : Int) ∧ k ≤ n ∧ Own wr w.heap.size v (putL k V) ∧ Below w.heap.size w wr
/-- the last ones first: so many from the end -/
theorem turned_step {l : List Nat} {k : Nat} (hk : k < l.length) : (l.drop (l.length - k)).reverse ++ [l.getD (l.length - 1 - k) 0] = (l.drop (l.length - (k + 1))).reverse := by
  have e : l.length - (k + 1) = l.length - 1 - k := by omega
  rw [e, drop_getD l (l.length - 1 - k) (by omega), List.reverse_cons]
  have e2 : l.length - 1 - k + 1 = l.length - k := by omega
  rw [e2]
def TurnedRel (w : World) (l : List Nat) (v i : Value) (wr : World) : Prop :=
  ∃ k : Nat, i = .int .i64 ((l.length : Int) - 1 - (k : Int)) ∧ k ≤ l.length ∧ Own wr w.heap.size v (l.drop (l.length - k)).reverse ∧ Below w.heap.size w wr
theorem or_byte {m x j : Nat} (hm : m < 2 ^ 64) (hx : x < 256) (hj : j < 8) :
    bits BinOp.or IntKind.u64 (m : Int) (IntKind.u64.wrap ((x : Int) * 2 ^ (8 * j))) = ((m ||| x * 2 ^ (8 * j) : Nat) : Int) := by
  have h1 : 2 ^ (8 * j) ≤ 2 ^ 56 := Nat.pow_le_pow_right (by omega) (by omega)
  have h2 : x * 2 ^ (8 * j) ≤ 255 * 2 ^ 56 := Nat.mul_le_mul (by omega) h1
  have h3 : ((x * 2 ^ (8 * j) : Nat) : Int) = (x : Int) * 2 ^ (8 * j) := by rw [Int.natCast_mul]; simp
  rw [← h3]
  generalize x * 2 ^ (8 * j) = y at *
  rw [wraps_u64 _ (by omega) (by omega), or64 hm (by omega)]
theorem get_bel {w w' : World} {o : Obj} (hb : (w.alloc o).grownBy w' (some w.heap.size)) : Below w.heap.size w w' :=
  below_only ((Below.refl _ _).alloc (Nat.le_refl _) o) (Nat.le_refl _) (by simp) hb
theorem num_step {l : List Nat} (h : ∀ i, l.getD i 0 < 256) (hl : l.length ≤ 8) {k : Nat} (hk : k < l.length) :
    num (l.drop (l.length - k)) * 256 + l.getD (l.length - 1 - k) 0 = num (l.drop (l.length - (k + 1))) ∧ num (l.drop (l.length - k)) * 256 + l.getD (l.length - 1 - k) 0 < 2 ^ 64 := by
  have e : l.length - (k + 1) = l.length - 1 - k := by omega
  have e2 : l.length - 1 - k + 1 = l.length - k := by omega
  have h1 : num (l.drop (l.length - 1 - k)) = num (l.drop (l.length - k)) * 256 + l.getD (l.length - 1 - k) 0 := by
    rw [drop_getD l (l.length - 1 - k) (by omega), num, e2]
  refine ⟨by rw [e, h1], ?_⟩
  rw [← h1]
  have hd : ∀ i, (l.drop (l.length - 1 - k)).getD i 0 < 256 := fun i => by
    have := h (l.length - 1 - k + i)
    simpa [List.getD, List.getElem?_drop] using this
  have k1 := num_lt hd
  have k2 : (l.drop (l.length - 1 - k)).length ≤ 8 := by rw [List.length_drop]; omega
  have k3 : 256 ^ (l.drop (l.length - 1 - k)).length ≤ 256 ^ 8 := Nat.pow_le_pow_right (by omega) k2
  omega
def RefGetRel (l : List Nat) (v i : Value) : Prop :=
  ∃ k : Nat, v = .int .u64 ((num (l.drop (l.length - k)) : Nat) : Int) ∧ i = .int .i64 ((l.length : Int) - 1 - (k : Int)) ∧ k ≤ l.length
def ShortTo (w : World) (A : Option Addr) (c : Nat) (l : List Nat) (e : Ending) (w' : World) : Prop :=
  e = .returned (.slice A (l.take 80).length c) ∧ BS w w.heap.size A (l.take 80).length c (l.take 80) ∧ w = w'
theorem conv_at {w : World} {B n c : Nat} {A : Option Addr} {l : List Nat} (h : BS w B A n c l) : (convert 24 9 (.slice A n c)).run Tryd.prog w = .ok (.string (str l)) w :=
  h.conv _ 5 _ Tryd.underlying24 Tryd.underlying5 Tryd.underlying9
def GivesStr (w : World) (n : Nat) (s : ByteArray) (e : Ending) (w' : World) : Prop :=
  ∃ A c, e = .returned (.slice A n c) ∧ Below w.heap.size w w' ∧ (convert 24 9 (.slice A n c)).run Tryd.prog w' = .ok (.string s) w'
theorem Gives.str {w w' : World} {l : List Nat} {e : Ending} (h : Gives w l e w') {n : Nat} {s : ByteArray} (hn : l.length = n) (hs : str l = s) : GivesStr w n s e w' := by
  obtain ⟨A, c, rfl, hb, hx⟩ := h
  subst hn hs
  exact ⟨A, c, rfl, hb, conv_at hx⟩
end Go.Proofs.YtcaogiaoabdkdaaDoor
