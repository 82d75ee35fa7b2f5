/-
  Layer 18 as lists of numbers: objects, their slots, a page. No program is named here.
-/
import Derived.Test.YtflgcddgocojpaaDoorWordMath
namespace Go.Proofs.YtflgcddgocojpaaDoor
set_option linter.unusedVariables false

abbrev Ob := Nat × List Nat
def zr (l : List Nat) : Bool := l.all (· == 0)
theorem zr_iff (l : List Nat) : zr l = true ↔ ∀ i, l.getD i 0 = 0 := by
  constructor
  · intro h i
    by_cases hi : i < l.length
    · simp only [zr, List.all_eq_true, beq_iff_eq] at h
      rw [List.getD_eq_getElem?_getD, List.getElem?_eq_getElem hi]
      exact h _ (List.getElem_mem hi)
    · rw [List.getD_eq_getElem?_getD, List.getElem?_eq_none (by omega)]; rfl
  · intro h
    simp only [zr, List.all_eq_true, beq_iff_eq]
    intro x hx
    obtain ⟨i, hi, rfl⟩ := List.mem_iff_getElem.1 hx
    have := h i
    rwa [List.getD_eq_getElem?_getD, List.getElem?_eq_getElem hi] at this
theorem take_at (l : List Nat) (k i : Nat) : (l.take k).getD i 0 = if i < k then l.getD i 0 else 0 := by
  simp only [List.getD_eq_getElem?_getD, List.getElem?_take]; split <;> rfl
theorem drop_at (l : List Nat) (k i : Nat) : (l.drop k).getD i 0 = l.getD (k + i) 0 := by
  simp only [List.getD_eq_getElem?_getD, List.getElem?_drop]
theorem app_at (a b : List Nat) (i : Nat) : (a ++ b).getD i 0 = if i < a.length then a.getD i 0 else b.getD (i - a.length) 0 := by
  simp only [List.getD_eq_getElem?_getD, List.getElem?_append]; split <;> rfl
theorem out_at (l : List Nat) {i : Nat} (h : l.length ≤ i) : l.getD i 0 = 0 := by
  rw [List.getD_eq_getElem?_getD, List.getElem?_eq_none h]; rfl
theorem list_pt {a b : List Nat} (hl : a.length = b.length) (h : ∀ i, i < a.length → a.getD i 0 = b.getD i 0) : a = b := by
  refine List.ext_getElem hl fun i h1 h2 => ?_
  have := h i h1
  rwa [List.getD_eq_getElem?_getD, List.getElem?_eq_getElem h1, List.getD_eq_getElem?_getD, List.getElem?_eq_getElem h2] at this
theorem putL_num (l : List Nat) (h : ∀ i, l.getD i 0 < 256) : putL l.length (num l) = l := by
  induction l with
  | nil => rfl
  | cons x l ih =>
    have hx : x < 256 := h 0
    have hl : ∀ i, l.getD i 0 < 256 := fun i => h (i + 1)
    have e := ih hl
    refine list_pt (by simp [putL_len]) fun i hi => ?_
    rw [putL_len] at hi
    rw [putL_at, if_pos hi]
    cases i with
    | zero => simp only [num, Nat.pow_zero, Nat.div_one, List.getD_cons_zero]; omega
    | succ j =>
      have hj : j < l.length := by simpa using hi
      have := congrArg (fun q => q.getD j 0) e
      simp only [putL_at, if_pos hj] at this
      rw [List.getD_cons_succ, ← this]
      simp only [num]
      rw [Nat.pow_succ, Nat.mul_comm (256 ^ j) 256, ← Nat.div_div_eq_div_mul]
      congr 2; omega
theorem num_zr (l : List Nat) : num l = 0 ↔ zr l = true := by
  induction l with
  | nil => simp [num, zr]
  | cons x l ih =>
    have : zr (x :: l) = ((x == 0) && zr l) := rfl
    rw [this, Bool.and_eq_true, beq_iff_eq, ← ih]
    simp only [num]; omega

/-- an object's bytes in its slot -/
def rowO (o : Ob) : List Nat := if o.1 = 0 then [] else putL 2 o.2.length ++ (putL 6 o.1 ++ o.2)
def encO (z : Nat) (o : Ob) : List Nat := padL (rowO o) z
def decO (u : List Nat) : Ob := (num ((u.drop 2).take 6), (u.drop 8).take (num (u.take 2)))
structure OkO (z : Nat) (o : Ob) : Prop where
  byte : ∀ i, o.2.getD i 0 < 256
  which : (o.1 = 0 ∧ o.2 = []) ∨ (1 ≤ o.1 ∧ o.1 < 2 ^ 48 ∧ 1 ≤ o.2.length ∧ o.2.length ≤ z - 8)
/-- may a slot not be? as the program tells -/
def brk (z : Nat) (u : List Nat) : Bool :=
  if zr (u.take 8) then !zr u else !(decide (1 ≤ num (u.take 2) ∧ num (u.take 2) ≤ z - 8)) || (!(decide (1 ≤ num ((u.drop 2).take 6))) || !zr (u.drop (8 + num (u.take 2))))
def docBad (z : Nat) (u : List Nat) : Prop := z - 8 < num (u.take 2) ∨ ¬ (num (u.take 2) = 0 ↔ num ((u.drop 2).take 6) = 0)

theorem OkO.free (z : Nat) : OkO z (0, []) := ⟨by simp, .inl ⟨rfl, rfl⟩⟩
theorem encO_len (z : Nat) (o : Ob) : (encO z o).length = z := padL_len _ _
theorem encO_at (z : Nat) (o : Ob) (i : Nat) : (encO z o).getD i 0 = if i < z then (rowO o).getD i 0 else 0 := padL_at _ _ _
theorem encO_free (z : Nat) (l : List Nat) (i : Nat) : (encO z (0, l)).getD i 0 = 0 := by
  rw [encO_at]; simp [rowO]
theorem rowO_byte {o : Ob} (h : ∀ i, o.2.getD i 0 < 256) (i : Nat) : (rowO o).getD i 0 < 256 := by
  unfold rowO; split
  · simp
  · rw [app_at]; split
    · exact putL_byte _ _ _
    · rw [app_at]; split
      · exact putL_byte _ _ _
      · exact h _
theorem encO_byte {z : Nat} {o : Ob} (h : ∀ i, o.2.getD i 0 < 256) (i : Nat) : (encO z o).getD i 0 < 256 := padL_byte (rowO_byte h) _ _
theorem rowO_len {z : Nat} {o : Ob} (h : OkO z o) (hz : 8 ≤ z) : (rowO o).length ≤ z := by
  unfold rowO; split
  · simp
  · rcases h.which with ⟨h0, _⟩ | ⟨_, _, _, h4⟩
    · contradiction
    · simp [putL_len]; omega
theorem encO_eq {z : Nat} {o : Ob} (h : OkO z o) (h0 : 1 ≤ o.1) (hz : 8 ≤ z) : encO z o = putL 2 o.2.length ++ (putL 6 o.1 ++ (o.2 ++ List.replicate (z - 8 - o.2.length) 0)) := by
  have hl := rowO_len h hz
  have hr : rowO o = putL 2 o.2.length ++ (putL 6 o.1 ++ o.2) := if_neg (by omega)
  have hn : (rowO o).length = 8 + o.2.length := by rw [hr]; simp [putL_len]; omega
  refine list_pt ?_ fun i hi => ?_
  · rw [encO_len]; simp [putL_len]; omega
  · rw [encO_len] at hi
    rw [encO_at, if_pos hi, hr, ← List.append_assoc, ← List.append_assoc, ← List.append_assoc, app_at _ (List.replicate _ _), List.append_assoc, ← hr, hn]
    split
    · rfl
    · rw [out_at _ (by omega)]
      by_cases hj : i - (8 + o.2.length) < z - 8 - o.2.length
      · rw [List.getD_eq_getElem?_getD, List.getElem?_replicate, if_pos hj]; rfl
      · rw [out_at _ (by simp; omega)]
theorem dec_enc {z : Nat} {o : Ob} (h : OkO z o) (hz : 8 ≤ z) (h128 : z ≤ 128) : decO (encO z o) = o := by
  by_cases h0 : o.1 = 0
  · have hb : o.2 = [] := by rcases h.which with ⟨_, h2⟩ | ⟨h1, _⟩; exact h2; omega
    obtain ⟨s, b⟩ := o
    simp only at h0 hb; subst h0; subst hb
    have hz0 : ∀ i, (encO z (0, [])).getD i 0 = 0 := encO_free z []
    have a1 : num ((encO z (0, [])).take 2) = 0 := (num_zr _).2 ((zr_iff _).2 fun i => by rw [take_at]; split; exact hz0 _; rfl)
    have a2 : num (((encO z (0, [])).drop 2).take 6) = 0 := (num_zr _).2 ((zr_iff _).2 fun i => by rw [take_at]; split; rw [drop_at]; exact hz0 _; rfl)
    unfold decO; rw [a1, a2]; rfl
  · have h1 : 1 ≤ o.1 := by omega
    obtain ⟨hs, hl1, hl2⟩ : o.1 < 2 ^ 48 ∧ 1 ≤ o.2.length ∧ o.2.length ≤ z - 8 := by rcases h.which with ⟨e, _⟩ | ⟨_, a, b, c⟩; contradiction; exact ⟨a, b, c⟩
    rw [encO_eq h h1 hz]
    unfold decO
    have t2 : (putL 2 o.2.length ++ (putL 6 o.1 ++ (o.2 ++ List.replicate (z - 8 - o.2.length) 0))).take 2 = putL 2 o.2.length := by
      rw [List.take_append_of_le_length (by simp [putL_len]), List.take_of_length_le (by simp [putL_len])]
    have d2 : (putL 2 o.2.length ++ (putL 6 o.1 ++ (o.2 ++ List.replicate (z - 8 - o.2.length) 0))).drop 2 = putL 6 o.1 ++ (o.2 ++ List.replicate (z - 8 - o.2.length) 0) := List.drop_left' (putL_len _ _)
    have d8 : (putL 2 o.2.length ++ (putL 6 o.1 ++ (o.2 ++ List.replicate (z - 8 - o.2.length) 0))).drop 8 = o.2 ++ List.replicate (z - 8 - o.2.length) 0 := by
      rw [← List.append_assoc]; exact List.drop_left' (by simp [putL_len])
    have t6 : (putL 6 o.1 ++ (o.2 ++ List.replicate (z - 8 - o.2.length) 0)).take 6 = putL 6 o.1 := by
      rw [List.take_append_of_le_length (by simp [putL_len]), List.take_of_length_le (by simp [putL_len])]
    have n2 : num (putL 2 o.2.length) = o.2.length := by rw [num_putL]; exact Nat.mod_eq_of_lt (by omega)
    have n6 : num (putL 6 o.1) = o.1 := by rw [num_putL]; exact Nat.mod_eq_of_lt (by rw [show (256 : Nat) ^ 6 = 2 ^ 48 by decide]; exact hs)
    rw [t2, d2, d8, t6, n2, n6, List.take_append_of_le_length (Nat.le_refl _), List.take_of_length_le (Nat.le_refl _)]
/-- the bytes of a slot that may be are those of its object -/
theorem zr_take8 {u : List Nat} (h2 : zr (u.take 2) = true) (h6 : zr ((u.drop 2).take 6) = true) : zr (u.take 8) = true := by
  rw [zr_iff] at *
  intro i; rw [take_at]; split
  · have a := h2 i; rw [take_at] at a
    have b := h6 (i - 2); rw [take_at, drop_at] at b
    by_cases hi : i < 2
    · rwa [if_pos hi] at a
    · rw [if_pos (by omega)] at b; rwa [show 2 + (i - 2) = i by omega] at b
  · rfl
theorem zr_of8 {u : List Nat} (h : zr (u.take 8) = true) : num (u.take 2) = 0 ∧ num ((u.drop 2).take 6) = 0 := by
  rw [zr_iff] at h
  constructor
  · refine (num_zr _).2 ((zr_iff _).2 fun i => ?_)
    rw [take_at]; split
    · have := h i; rwa [take_at, if_pos (by omega)] at this
    · rfl
  · refine (num_zr _).2 ((zr_iff _).2 fun i => ?_)
    rw [take_at]; split
    · rw [drop_at]; have := h (2 + i); rwa [take_at, if_pos (by omega)] at this
    · rfl
theorem free_iff (u : List Nat) : zr (u.take 8) = true ↔ num (u.take 2) = 0 ∧ num ((u.drop 2).take 6) = 0 :=
  ⟨zr_of8, fun ⟨a, b⟩ => zr_take8 ((num_zr _).1 a) ((num_zr _).1 b)⟩
theorem decO_len {z : Nat} {u : List Nat} (hu : u.length = z) (hz : 8 ≤ z) (h : num (u.take 2) ≤ z - 8) : (decO u).2.length = num (u.take 2) := by
  simp only [decO, List.length_take, List.length_drop]; omega
theorem encO_dec {z : Nat} {u : List Nat} (hu : u.length = z) (hb : ∀ i, u.getD i 0 < 256) (hz : 8 ≤ z) (h1 : num (u.take 2) ≤ z - 8) (h2 : 1 ≤ num ((u.drop 2).take 6)) (i : Nat) (hi : i < z) :
    (encO z (decO u)).getD i 0 = if i < 8 + num (u.take 2) then u.getD i 0 else 0 := by
  have hl := decO_len hu hz h1
  have hr : rowO (decO u) = putL 2 (decO u).2.length ++ (putL 6 (decO u).1 ++ (decO u).2) := if_neg (by simp only [decO]; omega)
  have p2 : putL 2 (num (u.take 2)) = u.take 2 := by
    have := putL_num (u.take 2) (take_byte hb 2)
    rwa [List.length_take, show min 2 u.length = 2 by omega] at this
  have p6 : putL 6 (num ((u.drop 2).take 6)) = (u.drop 2).take 6 := by
    have := putL_num ((u.drop 2).take 6) (take_byte (fun i => by rw [drop_at]; exact hb _) 6)
    rwa [List.length_take, List.length_drop, show min 6 (u.length - 2) = 6 by omega] at this
  rw [encO_at, if_pos hi, hr, hl, p2, show (decO u).1 = num ((u.drop 2).take 6) from rfl, p6, show (decO u).2 = (u.drop 8).take (num (u.take 2)) from rfl]
  rw [app_at, List.length_take, show min 2 u.length = 2 by omega, app_at, List.length_take, List.length_drop, show min 6 (u.length - 2) = 6 by omega, take_at, take_at, drop_at, take_at, drop_at]
  by_cases a : i < 2
  · rw [if_pos a, if_pos a, if_pos (by omega)]
  · rw [if_neg a]
    by_cases b : i - 2 < 6
    · rw [if_pos b, if_pos b, if_pos (by omega), show 2 + (i - 2) = i by omega]
    · rw [if_neg b, show 8 + (i - 2 - 6) = i by omega]
      by_cases d : i < 8 + num (u.take 2)
      · rw [if_pos d, if_pos (by omega)]
      · rw [if_neg d, if_neg (by omega)]
theorem brk_doc {z : Nat} {u : List Nat} (hu : u.length = z) (hb : ∀ i, u.getD i 0 < 256) (hz : 8 ≤ z) : brk z u = false ↔ ¬ docBad z u ∧ encO z (decO u) = u := by
  unfold brk docBad
  by_cases hf : zr (u.take 8) = true
  · obtain ⟨a, b⟩ := zr_of8 hf
    rw [if_pos hf, a, b]
    have e : encO z (decO u) = padL [] z := by simp [encO, rowO, decO, b]
    rw [e]
    rw [Bool.not_eq_false']
    constructor
    · intro h; rw [zr_iff] at h
      refine ⟨by omega, list_pt ((padL_len _ _).trans hu.symm) fun i hi => ?_⟩
      rw [padL_at, h]; split <;> simp
    · intro ⟨_, h⟩; rw [zr_iff]; intro i; rw [← h, padL_at]; split <;> simp
  · rw [if_neg hf]
    have hn : ¬ (num (u.take 2) = 0 ∧ num ((u.drop 2).take 6) = 0) := fun h => hf ((free_iff u).2 h)
    simp only [Bool.or_eq_false_iff, Bool.not_eq_false', decide_eq_true_eq]
    constructor
    · intro ⟨⟨h1, h2⟩, h3, h4⟩
      refine ⟨by omega, list_pt (by rw [encO_len, hu]) fun i hi => ?_⟩
      rw [encO_len] at hi
      rw [encO_dec hu hb hz h2 h3 i hi]
      split
      · rfl
      · rw [zr_iff] at h4
        have := h4 (i - (8 + num (u.take 2)))
        rw [drop_at, show 8 + num (u.take 2) + (i - (8 + num (u.take 2))) = i by omega] at this
        exact this.symm
    · intro ⟨h1, h2⟩
      have h5 : num (u.take 2) ≤ z - 8 ∧ 1 ≤ num (u.take 2) ∧ 1 ≤ num ((u.drop 2).take 6) := by omega
      refine ⟨⟨h5.2.1, h5.1⟩, h5.2.2, ?_⟩
      rw [zr_iff]; intro i; rw [drop_at]
      by_cases hi : 8 + num (u.take 2) + i < z
      · have := encO_dec hu hb hz h5.1 h5.2.2 _ hi
        rw [h2, if_neg (by omega)] at this; exact this
      · exact out_at _ (by omega)
theorem brk_ok {z : Nat} {u : List Nat} (hu : u.length = z) (hb : ∀ i, u.getD i 0 < 256) (hz : 8 ≤ z) (h : brk z u = false) : OkO z (decO u) := by
  refine ⟨fun i => by simp only [decO]; rw [take_at]; split; rw [drop_at]; exact hb _; omega, ?_⟩
  unfold brk at h
  by_cases hf : zr (u.take 8) = true
  · obtain ⟨a, b⟩ := zr_of8 hf
    left; simp [decO, a, b]
  · rw [if_neg hf] at h
    simp only [Bool.or_eq_false_iff, Bool.not_eq_false', decide_eq_true_eq] at h
    obtain ⟨⟨h1, h2⟩, h3, _⟩ := h
    right
    have hl := decO_len hu hz h2
    refine ⟨h3, ?_, by omega, by omega⟩
    have := num_lt (l := (u.drop 2).take 6) (take_byte (fun i => by rw [drop_at]; exact hb _) 6)
    refine Nat.lt_of_lt_of_le this ?_
    rw [show (2 : Nat) ^ 48 = 256 ^ 6 by decide]
    exact Nat.pow_le_pow_right (by decide) (by simp; omega)
theorem brk_enc {z : Nat} {o : Ob} (h : OkO z o) (hz : 8 ≤ z) (h128 : z ≤ 128) : brk z (encO z o) = false := by
  refine (brk_doc (encO_len z o) (encO_byte h.byte) hz).2 ⟨?_, by rw [dec_enc h hz h128]⟩
  have e := dec_enc h hz h128
  have e1 : num (((encO z o).drop 2).take 6) = o.1 := congrArg Prod.fst e
  intro hd
  by_cases h0 : o.1 = 0
  · have hb : o.2 = [] := by rcases h.which with ⟨_, h2⟩ | ⟨h1, _⟩; exact h2; omega
    have a1 : num ((encO z o).take 2) = 0 := (num_zr _).2 ((zr_iff _).2 fun i => by
      rw [take_at]; split
      · rw [encO_at]; simp [rowO, h0]
      · rfl)
    unfold docBad at hd; rw [a1, e1, h0] at hd; omega
  · obtain ⟨hs, hl1, hl2⟩ : o.1 < 2 ^ 48 ∧ 1 ≤ o.2.length ∧ o.2.length ≤ z - 8 := by rcases h.which with ⟨e, _⟩ | ⟨_, a, b, c⟩; contradiction; exact ⟨a, b, c⟩
    have a1 : num ((encO z o).take 2) = o.2.length := by
      rw [encO_eq h (by omega) hz, List.take_append_of_le_length (by simp [putL_len]), List.take_of_length_le (by simp [putL_len]), num_putL]
      exact Nat.mod_eq_of_lt (by omega)
    unfold docBad at hd; rw [a1, e1] at hd; omega

/-- a page -/
def pageO (z : Nat) (l : List Ob) : List Nat := padL (l.flatMap (encO z)) 256
def winL (t : List Nat) (z k : Nat) : List Nat := (t.drop (k * z)).take z
theorem flat_at (z : Nat) (hz : 0 < z) (l : List Ob) : ∀ i, (l.flatMap (encO z)).getD i 0 = if i / z < l.length then (encO z (l.getD (i / z) (0, []))).getD (i % z) 0 else 0 := by
  induction l with
  | nil => intro i; simp
  | cons o l ih =>
    intro i
    rw [List.flatMap_cons, app_at, encO_len, ih]
    by_cases hi : i < z
    · rw [if_pos hi, Nat.div_eq_of_lt hi, Nat.mod_eq_of_lt hi]; simp
    · rw [if_neg hi]
      have e : i / z = (i - z) / z + 1 := by rw [Nat.div_eq i z, if_pos ⟨hz, by omega⟩]
      have e2 : i % z = (i - z) % z := Nat.mod_eq_sub_mod (by omega)
      rw [e, e2]; simp
theorem page_len (z : Nat) (l : List Ob) : (pageO z l).length = 256 := padL_len _ _
theorem page_at (z : Nat) (hz : 0 < z) (l : List Ob) (i : Nat) : (pageO z l).getD i 0 = if i < 256 then (if i / z < l.length then (encO z (l.getD (i / z) (0, []))).getD (i % z) 0 else 0) else 0 := by
  unfold pageO; rw [padL_at, flat_at z hz]
theorem page_byte {z : Nat} (hz : 0 < z) {l : List Ob} (h : ∀ k, ∀ i, (l.getD k (0, [])).2.getD i 0 < 256) (i : Nat) : (pageO z l).getD i 0 < 256 := by
  rw [page_at z hz]; split
  · split
    · exact encO_byte (h _) _
    · omega
  · omega
theorem winL_at (t : List Nat) (z k i : Nat) : (winL t z k).getD i 0 = if i < z then t.getD (k * z + i) 0 else 0 := by
  unfold winL; rw [take_at, drop_at]
theorem winL_len {t : List Nat} {z k : Nat} (h : k * z + z ≤ t.length) : (winL t z k).length = z := by
  simp only [winL, List.length_take, List.length_drop]; omega
theorem slot_le {z S k : Nat} (hS : S * z ≤ 256) (hk : k < S) : k * z + z ≤ 256 := by
  have := Nat.mul_le_mul_right z (show k + 1 ≤ S from hk)
  rw [Nat.add_mul, Nat.one_mul] at this; omega
theorem win_page {z : Nat} (hz : 0 < z) {l : List Ob} (hl : l.length * z ≤ 256) {k : Nat} (hk : k < l.length) : winL (pageO z l) z k = encO z (l.getD k (0, [])) := by
  have h := slot_le hl hk
  refine list_pt (by rw [winL_len (by rw [page_len]; exact h), encO_len]) fun i hi => ?_
  rw [winL_len (by rw [page_len]; exact h)] at hi
  have e : (k * z + i) / z = k := by rw [Nat.mul_comm, Nat.mul_add_div hz, Nat.div_eq_of_lt hi, Nat.add_zero]
  have e2 : (k * z + i) % z = i := by rw [Nat.mul_comm, Nat.mul_add_mod, Nat.mod_eq_of_lt hi]
  rw [winL_at, if_pos hi, page_at z hz, if_pos (by omega), e, e2, if_pos hk]
theorem rest_page {z : Nat} (hz : 0 < z) {l : List Ob} : zr ((pageO z l).drop (l.length * z)) = true := by
  rw [zr_iff]; intro i
  rw [drop_at, page_at z hz]; split
  · rw [if_neg]
    have : l.length ≤ (l.length * z + i) / z := (Nat.le_div_iff_mul_le hz).2 (by omega)
    omega
  · rfl
theorem page_eq {z : Nat} (hz : 0 < z) {l : List Ob} {t : List Nat} (ht : t.length = 256) (hw : ∀ k, k < l.length → winL t z k = encO z (l.getD k (0, []))) (hr : zr (t.drop (l.length * z)) = true) : t = pageO z l := by
  refine list_pt (by rw [ht, page_len]) fun i hi => ?_
  rw [ht] at hi
  rw [page_at z hz, if_pos hi]
  split
  · rename_i hk
    have := congrArg (fun q => q.getD (i % z) 0) (hw _ hk)
    rw [winL_at, if_pos (Nat.mod_lt _ hz), show i / z * z + i % z = i from Nat.div_add_mod' i z] at this
    exact this
  · rename_i hk
    have h1 : l.length * z ≤ i := (Nat.le_div_iff_mul_le hz).1 (by omega)
    have := (zr_iff _).1 hr (i - l.length * z)
    rwa [drop_at, show l.length * z + (i - l.length * z) = i by omega] at this
/-- may a page be? -/
def mayP (z S : Nat) (t : List Nat) : Bool := (List.range S).all (fun k => !brk z (winL t z k)) && zr (t.drop (S * z))
def objs (z S : Nat) (t : List Nat) : List Ob := (List.range S).map fun k => decO (winL t z k)
theorem objs_len (z S : Nat) (t : List Nat) : (objs z S t).length = S := by simp [objs]
theorem objs_at {z S : Nat} {t : List Nat} {k : Nat} (hk : k < S) : (objs z S t).getD k (0, []) = decO (winL t z k) := by
  unfold objs
  rw [List.getD_eq_getElem?_getD, List.getElem?_map, List.getElem?_range hk]; rfl
theorem winL_byte {t : List Nat} (h : ∀ i, t.getD i 0 < 256) (z k i : Nat) : (winL t z k).getD i 0 < 256 := by
  rw [winL_at]; split
  · exact h _
  · omega
structure OkL (z S : Nat) (l : List Ob) : Prop where
  len : l.length = S
  ok : ∀ k, k < S → OkO z (l.getD k (0, []))
theorem mayP_page {z S : Nat} {l : List Ob} (hz : 8 ≤ z) (h128 : z ≤ 128) (hS : S * z ≤ 256) (h : OkL z S l) : mayP z S (pageO z l) = true := by
  unfold mayP
  rw [Bool.and_eq_true]
  obtain ⟨hl, ho⟩ := h
  subst hl
  refine ⟨?_, rest_page (by omega)⟩
  rw [List.all_eq_true]; intro k hk
  have hk := List.mem_range.1 hk
  rw [win_page (by omega) hS hk, brk_enc (ho k hk) hz h128]; rfl
theorem mayP_objs {z S : Nat} {t : List Nat} (hz : 8 ≤ z) (hS : S * z ≤ 256) (ht : t.length = 256) (hb : ∀ i, t.getD i 0 < 256) (h : mayP z S t = true) : OkL z S (objs z S t) ∧ t = pageO z (objs z S t) := by
  unfold mayP at h
  rw [Bool.and_eq_true, List.all_eq_true] at h
  obtain ⟨h1, h2⟩ := h
  have hk1 : ∀ k, k < S → brk z (winL t z k) = false := fun k hk => by
    have := h1 k (List.mem_range.2 hk); simpa using this
  have hln : ∀ k, k < S → (winL t z k).length = z := fun k hk => winL_len (by rw [ht]; exact slot_le hS hk)
  refine ⟨⟨objs_len _ _ _, fun k hk => ?_⟩, page_eq (by omega) ht (fun k hk => ?_) (by rw [objs_len]; exact h2)⟩
  · rw [objs_at hk]; exact brk_ok (hln k hk) (winL_byte hb z k) hz (hk1 k hk)
  · rw [objs_len] at hk
    rw [objs_at hk]
    exact (((brk_doc (hln k hk) (winL_byte hb z k) hz).1 (hk1 k hk)).2).symm
theorem objs_page {z S : Nat} {l : List Ob} (hz : 8 ≤ z) (h128 : z ≤ 128) (hS : S * z ≤ 256) (h : OkL z S l) : objs z S (pageO z l) = l := by
  obtain ⟨hl, ho⟩ := h
  subst hl
  refine List.ext_getElem (objs_len _ _ _) fun k h1 h2 => ?_
  have e := objs_at (z := z) (t := pageO z l) h2
  rw [win_page (by omega) hS h2, dec_enc (ho k h2) hz h128] at e
  simp only [List.getD_eq_getElem?_getD, List.getElem?_eq_getElem h1, List.getElem?_eq_getElem h2] at e
  exact e
theorem mayP_doc {z S : Nat} {t : List Nat} (hz : 8 ≤ z) (h128 : z ≤ 128) (hS : S * z ≤ 256) (ht : t.length = 256) (hb : ∀ i, t.getD i 0 < 256) : mayP z S t = true ↔ (∀ k, k < S → ¬ docBad z (winL t z k)) ∧ pageO z (objs z S t) = t := by
  have hln : ∀ k, k < S → (winL t z k).length = z := fun k hk => winL_len (by rw [ht]; exact slot_le hS hk)
  constructor
  · intro h
    obtain ⟨h1, h2⟩ := mayP_objs hz hS ht hb h
    refine ⟨fun k hk => ?_, h2.symm⟩
    unfold mayP at h
    rw [Bool.and_eq_true, List.all_eq_true] at h
    have hk1 : brk z (winL t z k) = false := by have := h.1 k (List.mem_range.2 hk); simpa using this
    exact ((brk_doc (hln k hk) (winL_byte hb z k) hz).1 hk1).1
  · intro ⟨h1, h2⟩
    unfold mayP
    rw [Bool.and_eq_true, List.all_eq_true]
    have hlz : (objs z S t).length * z ≤ 256 := by rw [objs_len]; exact hS
    refine ⟨fun k hk => ?_, ?_⟩
    · have hk := List.mem_range.1 hk
      have e := win_page (z := z) (by omega) hlz (show k < (objs z S t).length by rw [objs_len]; exact hk)
      rw [h2, objs_at hk] at e
      have := (brk_doc (hln k hk) (winL_byte hb z k) hz).2 ⟨h1 k hk, e.symm⟩
      rw [this]; rfl
    · have := rest_page (z := z) (l := objs z S t) (by omega)
      rwa [h2, objs_len] at this
end Go.Proofs.YtflgcddgocojpaaDoor
