/-
  A sum that grows: what is known of a hash's cells.
-/
import Derived.Test.YtoclelpmampikaaGreatShaG
import Derived.Test.YtoclelpmampikaaGreatCut
import Derived.Test.YtoclelpmampikaaGreatQTail
import Derived.Test.YtoclelpmampikaaGreatOwn
namespace Go.Proofs.YtoclelpmampikaaGreat
open Go.RowKit
set_option linter.unusedVariables false
/-- bytes q laid over t, from a on -/
def spl (t : List Nat) (a : Nat) (q : List Nat) : List Nat := t.take a ++ (q ++ t.drop (a + q.length))
theorem spl_len {t q : List Nat} {a : Nat} (h : a + q.length ≤ t.length) : (spl t a q).length = t.length := by simp [spl]; omega
theorem spl_at {t q : List Nat} {a : Nat} (h : a + q.length ≤ t.length) (j : Nat) : (spl t a q).getD j 0 = if j < a then t.getD j 0 else if j < a + q.length then q.getD (j - a) 0 else t.getD j 0 := by
  have hl : (t.take a).length = a := by rw [List.length_take]; omega
  unfold spl
  simp only [List.getD]
  by_cases h1 : j < a
  · rw [if_pos h1, List.getElem?_append_left (by omega), List.getElem?_take_of_lt h1]
  · rw [if_neg h1, List.getElem?_append_right (by omega), hl]
    by_cases h2 : j < a + q.length
    · rw [if_pos h2, List.getElem?_append_left (by omega)]
    · rw [if_neg h2, List.getElem?_append_right (by omega), List.getElem?_drop, show a + q.length + (j - a - q.length) = j by omega]
theorem spl_byte {t q : List Nat} {a : Nat} (h : a + q.length ≤ t.length) (ht : ∀ i, t.getD i 0 < 256) (hq : ∀ i, q.getD i 0 < 256) (j : Nat) : (spl t a q).getD j 0 < 256 := by
  rw [spl_at h]
  split
  · exact ht _
  · split
    · exact hq _
    · exact ht _
theorem getD_app (a b : List Nat) (j : Nat) : (a ++ b).getD j 0 = if j < a.length then a.getD j 0 else b.getD (j - a.length) 0 := by
  simp only [List.getD]
  by_cases h : j < a.length
  · rw [if_pos h, List.getElem?_append_left h]
  · rw [if_neg h, List.getElem?_append_right (by omega)]
theorem byte_app {a b : List Nat} (ha : ∀ i, a.getD i 0 < 256) (hb : ∀ i, b.getD i 0 < 256) (j : Nat) : (a ++ b).getD j 0 < 256 := by
  rw [getD_app]; split
  · exact ha _
  · exact hb _
theorem byte_take {l : List Nat} (h : ∀ i, l.getD i 0 < 256) (k i : Nat) : (l.take k).getD i 0 < 256 := take_byte h k i
theorem byte_drop {l : List Nat} (h : ∀ i, l.getD i 0 < 256) (k i : Nat) : (l.drop k).getD i 0 < 256 := by
  have e : (l.drop k).getD i 0 = l.getD (k + i) 0 := by simp [List.getD]
  rw [e]; exact h _
theorem blocks_prefix (s : Sha.St) (m p : List Nat) : ∀ k, 64 * k ≤ m.length → Sha.blocks s (m ++ p) k = Sha.blocks s m k := by
  intro k
  induction k with
  | zero => intro _; rfl
  | succ k ih =>
    intro h
    unfold Sha.blocks
    rw [ih (by omega)]
    congr 1
    rw [List.drop_append_of_le_length (by omega), List.take_append_of_le_length (by rw [List.length_drop]; omega)]
/-- what the tail of a hash that has summed m is -/
structure TailOk (m tail : List Nat) : Prop where
  len : tail.length = 64
  byte : ∀ i, tail.getD i 0 < 256
  head : tail.take (m.length % 64) = m.drop (64 * (m.length / 64))
/-- block hb is a hash, over the table in block g, that has summed m -/
def IsSum (w : World) (hb g : Nat) (m : List Nat) : Prop :=
  ∃ tail, TailOk m tail ∧ IsHash w hb g (Sha.blocks Sha.first m (m.length / 64)) tail m.length ∧ IsTab w g
/-- .. amid a Write: q chunks of m are summed, m's length is told -/
structure Mid (w : World) (hb g : Nat) (m : List Nat) (q : Nat) (tail : List Nat) : Prop where
  len : tail.length = 64
  byte : ∀ i, tail.getD i 0 < 256
  hash : IsHash w hb g (Sha.blocks Sha.first m q) tail m.length
  tab : IsTab w g
theorem tab_ne {w : World} {hb g : Nat} {s : Sha.St} {tail : List Nat} {n : Nat} (h : IsHash w hb g s tail n) (t : IsTab w g) : g ≠ hb := by
  rintro rfl
  unfold IsHash Row at h
  unfold IsTab Row at t
  rw [h] at t
  injection t with t
  injection t with _ t2
  exact absurd t2 (by decide)
theorem Mid.ne {w : World} {hb g q : Nat} {m tail : List Nat} (h : Mid w hb g m q tail) : g ≠ hb := tab_ne h.hash h.tab
theorem IsTab.only {w w' : World} {hb g : Nat} (t : IsTab w g) (hg : w.grownBy w' (some hb)) (hne : g ≠ hb) : IsTab w' g := Row.only t hg (fun e => by injection e with e; exact hne e)
/-- the hash's cells, the tail's from a on laid anew -/
theorem hash_splice (g : Nat) (s : Sha.St) {tail q : List Nat} (n : Nat) {a : Nat} (ht : tail.length = 64) (hq : a + q.length ≤ 64) :
    (splice (rowV (hashF g s tail n) 74).toList (9 + a) (bvals q)).toArray = rowV (hashF g s (spl tail a q) n) 74 := by
  have hz := rowV_size (hashF g s tail n) 74
  have hlq := bvals_len q
  have hz2 : (rowV (hashF g s tail n) 74).toList.length = 74 := by simpa using hz
  apply rowV_ext
  · rw [List.size_toArray, length_splice _ _ _ (by omega)]; exact hz2
  · intro i hi
    have hr : (rowV (hashF g s tail n) 74).toList[i]? = some (hashF g s tail n i) := by
      have := rowV_at (hashF g s tail n) hi
      simpa using this
    have hl : ((rowV (hashF g s tail n) 74).toList.take (9 + a)).length = 9 + a := by rw [List.length_take]; omega
    rw [List.getElem?_toArray]
    unfold splice
    have hsame : ∀ x, (spl tail a q).getD (i - 9) 0 = x → (i < 73 → 9 ≤ i → tail.getD (i - 9) 0 = x) → hashF g s tail n i = hashF g s (spl tail a q) n i := by
      intro x e1 e2
      unfold hashF
      by_cases h0 : i = 0
      · rw [if_pos h0, if_pos h0]
      · rw [if_neg h0, if_neg h0]
        by_cases h9 : i < 9
        · rw [if_pos h9, if_pos h9]
        · rw [if_neg h9, if_neg h9]
          by_cases h73 : i < 73
          · rw [if_pos h73, if_pos h73, e1, e2 h73 (by omega)]
          · rw [if_neg h73, if_neg h73]
    by_cases h1 : i < 9 + a
    · rw [List.getElem?_append_left (by omega), List.getElem?_take_of_lt h1, hr]
      congr 1
      refine hsame _ rfl fun _ h9 => ?_
      rw [spl_at (by omega), if_pos (by omega)]
    · rw [List.getElem?_append_right (by omega), hl]
      by_cases h2 : i < 9 + a + q.length
      · rw [List.getElem?_append_left (by omega)]
        have hlt : i - (9 + a) < q.length := by omega
        have e : (bvals q)[i - (9 + a)]? = some (u8 (q.getD (i - (9 + a)) 0)) := by
          simp [bvals, List.getElem?_map, List.getElem?_eq_getElem hlt, List.getD, u8]
        rw [e]
        congr 1
        unfold hashF
        rw [if_neg (by omega), if_neg (by omega), if_pos (by omega), spl_at (by omega), if_neg (by omega), if_pos (by omega), show i - 9 - a = i - (9 + a) by omega]
      · rw [List.getElem?_append_right (by omega), List.getElem?_drop, hlq, show 9 + a + q.length + (i - (9 + a) - q.length) = i by omega, hr]
        congr 1
        refine hsame _ rfl fun _ h9 => ?_
        rw [spl_at (by omega), if_neg (by omega), if_neg (by omega)]
theorem hash_n (g : Nat) (s : Sha.St) (tail : List Nat) (n N : Nat) : ∀ i, i < 74 → (fun i => if i = 73 then Value.int .i64 (N : Int) else hashF g s tail n i) i = hashF g s tail N i := by
  intro i hi
  show (if i = 73 then Value.int .i64 (N : Int) else hashF g s tail n i) = _
  unfold hashF
  by_cases h : i = 73
  · subst h; rw [if_pos rfl, if_neg (by omega), if_neg (by omega), if_neg (by omega)]
  · rw [if_neg h]
    by_cases h0 : i = 0
    · rw [if_pos h0, if_pos h0]
    · rw [if_neg h0, if_neg h0]
      by_cases h9 : i < 9
      · rw [if_pos h9, if_pos h9]
      · rw [if_neg h9, if_neg h9, if_pos (by omega), if_pos (by omega)]
/-- the tail as a slice -/
theorem tail_bs {w : World} {hb g n : Nat} {s : Sha.St} {tail : List Nat} (h : IsHash w hb g s tail n) (hl : tail.length = 64) (hy : ∀ i, tail.getD i 0 < 256) : BS w w.heap.size (some ⟨hb, 9, none⟩) 64 64 tail := by
  refine ⟨hl, by omega, by omega, hy, fun _ => ⟨hb, 9, rfl, Row.lt h, fun i hi => ?_⟩⟩
  rw [Row.cell h (i := 9 + i) (by omega)]
  unfold hashF
  rw [if_neg (by omega), if_neg (by omega), if_pos (by omega), show 9 + i - 9 = i by omega]
  rfl
theorem hash_end {g : Nat} {s : Sha.St} {tail : List Nat} {n : Nat} : hashF g s tail n 73 = .int .i64 (n : Int) := by
  unfold hashF; rw [if_neg (by omega), if_neg (by omega), if_neg (by omega)]
theorem hash_zero {g : Nat} {s : Sha.St} {tail : List Nat} {n : Nat} : hashF g s tail n 0 = .func (Fn.func 68) #[.pointer (some ⟨g, 0, none⟩)] #[] := by
  unfold hashF; rw [if_pos rfl]
/-! lists -/
theorem tail_short {m p tail : List Nat} (h : TailOk m tail) (hp : ∀ i, p.getD i 0 < 256) (hs : m.length % 64 + p.length < 64) :
    (m ++ p).length / 64 = m.length / 64 ∧ TailOk (m ++ p) (spl tail (m.length % 64) p) := by
  have hl := h.len
  have e1 : (m ++ p).length / 64 = m.length / 64 := by rw [List.length_append]; omega
  have e2 : (m ++ p).length % 64 = m.length % 64 + p.length := by rw [List.length_append]; omega
  refine ⟨e1, by rw [spl_len (by omega)]; exact hl, spl_byte (by omega) h.byte hp, ?_⟩
  rw [e1, e2, List.drop_append_of_le_length (by omega), ← h.head]
  unfold spl
  rw [List.take_append, List.take_of_length_le (by rw [List.length_take]; omega), List.length_take, Nat.min_eq_left (by omega), Nat.add_sub_cancel_left, List.take_append, List.take_of_length_le (Nat.le_refl _), Nat.sub_self, List.take_zero, List.append_nil]
theorem tail_first {m p tail : List Nat} (h : TailOk m tail) (hp : ∀ i, p.getD i 0 < 256) (hs : 64 ≤ m.length % 64 + p.length) :
    spl tail (m.length % 64) (p.take (64 - m.length % 64)) = ((m ++ p).drop (64 * (m.length / 64))).take 64 := by
  have hl := h.len
  have hq : (p.take (64 - m.length % 64)).length = 64 - m.length % 64 := by rw [List.length_take]; omega
  unfold spl
  rw [h.head, hq, show m.length % 64 + (64 - m.length % 64) = 64 by omega, List.drop_of_length_le (l := tail) (by omega), List.append_nil, List.drop_append_of_le_length (by omega), List.take_append,
    List.take_of_length_le (l := m.drop (64 * (m.length / 64))) (by rw [List.length_drop]; omega), List.length_drop, show 64 - (m.length - 64 * (m.length / 64)) = 64 - m.length % 64 by omega]
theorem mid_chunk {m p : List Nat} {k q : Nat} (hk : m.length + k = 64 * q) : (p.drop k).take 64 = ((m ++ p).drop (64 * q)).take 64 := by
  rw [← hk, List.drop_append, List.drop_of_length_le (l := m) (by omega), List.nil_append, Nat.add_sub_cancel_left]
theorem tail_last {m p tail : List Nat} {k q : Nat} (ht : tail.length = 64) (hb : ∀ i, tail.getD i 0 < 256) (hp : ∀ i, p.getD i 0 < 256) (hk : m.length + k = 64 * q) (hkp : k ≤ p.length) (hs : p.length - k < 64) :
    (m ++ p).length / 64 = q ∧ TailOk (m ++ p) (spl tail 0 (p.drop k)) := by
  have e1 : (m ++ p).length / 64 = q := by rw [List.length_append]; omega
  have e2 : (m ++ p).length % 64 = p.length - k := by rw [List.length_append]; omega
  refine ⟨e1, by rw [spl_len (by rw [List.length_drop]; omega)]; exact ht, spl_byte (by rw [List.length_drop]; omega) hb (byte_drop hp k), ?_⟩
  rw [e1, e2, ← hk, List.drop_append, List.drop_of_length_le (l := m) (by omega), List.nil_append, Nat.add_sub_cancel_left]
  unfold spl
  rw [List.take_zero, List.nil_append, List.take_append, List.take_of_length_le (by rw [List.length_drop]; omega), List.length_drop, Nat.sub_self, List.take_zero, List.append_nil]
end Go.Proofs.YtoclelpmampikaaGreat
