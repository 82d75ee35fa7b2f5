/-
  Plain facts about numbers and their bytes: no program is named here.
-/
import Derived.KernelRfl
namespace Go.Proofs.YtcaogiaoabdkdaaDoor
set_option linter.unusedVariables false

theorem getD_map_range (n : Nat) (f : Nat → Nat) (i : Nat) : ((List.range n).map f).getD i 0 = if i < n then f i else 0 := by
  by_cases h : i < n
  · rw [if_pos h]; simp [List.getD, List.getElem?_map, List.getElem?_range h]
  · rw [if_neg h]
    have : ((List.range n).map f)[i]? = none := by rw [List.getElem?_eq_none]; simp; omega
    rw [List.getD_eq_getElem?_getD, this]; rfl
theorem map_range_succ (n : Nat) (f : Nat → Nat) : (List.range (n + 1)).map f = (List.range n).map f ++ [f n] := by
  rw [List.range_succ, List.map_append]; rfl
theorem list_eq_map_range (l : List Nat) : l = (List.range l.length).map fun i => l.getD i 0 := by
  apply List.ext_getElem?
  intro i
  by_cases h : i < l.length
  · simp [List.getElem?_map, List.getElem?_range h, List.getElem?_eq_getElem h]
  · rw [List.getElem?_eq_none (by omega), List.getElem?_eq_none (by simp; omega)]

/-- v's n lowest bytes, the lowest first -/
def putL (n v : Nat) : List Nat := (List.range n).map fun k => v / 256 ^ k % 256
theorem putL_len (n v : Nat) : (putL n v).length = n := by simp [putL]
theorem putL_at (n v i : Nat) : (putL n v).getD i 0 = if i < n then v / 256 ^ i % 256 else 0 := getD_map_range n _ i
theorem putL_byte (n v i : Nat) : (putL n v).getD i 0 < 256 := by
  rw [putL_at]; split
  · exact Nat.mod_lt _ (by omega)
  · omega
theorem putL_succ (n v : Nat) : putL (n + 1) v = putL n v ++ [v / 256 ^ n % 256] := map_range_succ n _
theorem reverse_at (l : List Nat) (i : Nat) (h : i < l.length) : l.reverse.getD i 0 = l.getD (l.length - 1 - i) 0 := by
  simp [List.getD, List.getElem?_reverse h]
theorem reverse_byte {l : List Nat} (h : ∀ i, l.getD i 0 < 256) (i : Nat) : l.reverse.getD i 0 < 256 := by
  by_cases hi : i < l.length
  · rw [reverse_at l i hi]; exact h _
  · have : l.reverse[i]? = none := by rw [List.getElem?_eq_none]; simp; omega
    rw [List.getD_eq_getElem?_getD, this]; simp
theorem pow256 (k : Nat) : 256 ^ k = 2 ^ (8 * k) := by rw [Nat.pow_mul]

/-- the number of bytes, the lowest first -/
def num : List Nat → Nat
  | [] => 0
  | c :: l => num l * 256 + c
theorem num_app (a b : List Nat) : num (a ++ b) = num a + 256 ^ a.length * num b := by
  induction a with
  | nil => simp [num]
  | cons c a ih =>
    rw [List.cons_append, num, num, ih, List.length_cons, Nat.pow_succ, Nat.add_mul]
    rw [Nat.mul_right_comm]
    omega
theorem num_lt {l : List Nat} (h : ∀ i, l.getD i 0 < 256) : num l < 256 ^ l.length := by
  induction l with
  | nil => simp [num]
  | cons c l ih =>
    have h0 := h 0
    have h1 := ih (fun i => by have := h (i + 1); simpa using this)
    simp at h0
    rw [num, List.length_cons, Nat.pow_succ]
    omega
theorem take_succ_getD (l : List Nat) (k : Nat) (h : k < l.length) : l.take (k + 1) = l.take k ++ [l.getD k 0] := by
  rw [List.take_succ_eq_append_getElem h]
  simp [List.getD, List.getElem?_eq_getElem h]
theorem drop_getD (l : List Nat) (k : Nat) (h : k < l.length) : l.drop k = l.getD k 0 :: l.drop (k + 1) := by
  rw [List.drop_eq_getElem_cons h]
  simp [List.getD, List.getElem?_eq_getElem h]
theorem take_byte {l : List Nat} (h : ∀ i, l.getD i 0 < 256) (k i : Nat) : (l.take k).getD i 0 < 256 := by
  by_cases hi : i < k
  · have : (l.take k).getD i 0 = l.getD i 0 := by simp [List.getD, List.getElem?_take_of_lt hi]
    rw [this]; exact h i
  · have : (l.take k)[i]? = none := by rw [List.getElem?_eq_none]; rw [List.length_take]; omega
    rw [List.getD_eq_getElem?_getD, this]; simp
/-- one byte more, by or -/
theorem num_or {l : List Nat} (h : ∀ i, l.getD i 0 < 256) {k : Nat} (hk : k < l.length) :
    num (l.take k) ||| (l.getD k 0 * 2 ^ (8 * k)) = num (l.take (k + 1)) := by
  have hlt := num_lt (l := l.take k) (take_byte h k)
  have hlen : (l.take k).length = k := by rw [List.length_take]; omega
  rw [hlen, pow256] at hlt
  rw [take_succ_getD l k hk, num_app, hlen, pow256]
  have e1 : num [l.getD k 0] = l.getD k 0 := by simp [num]
  rw [e1, Nat.or_comm, Nat.mul_comm (l.getD k 0), ← Nat.two_pow_add_eq_or_of_lt hlt]
  omega
theorem num_putL (n v : Nat) : num (putL n v) = v % 256 ^ n := by
  induction n with
  | zero => simp [putL, num, Nat.mod_one]
  | succ n ih =>
    rw [putL_succ, num_app, ih, putL_len, Nat.pow_succ, Nat.mod_mul]
    simp [num]
theorem num_take8_lt {l : List Nat} (h : ∀ i, l.getD i 0 < 256) : num (l.take 8) < 2 ^ 64 := by
  have h1 := num_lt (l := l.take 8) (take_byte h 8)
  have h2 : (l.take 8).length ≤ 8 := by rw [List.length_take]; omega
  have h3 : 256 ^ (l.take 8).length ≤ 256 ^ 8 := Nat.pow_le_pow_right (by omega) h2
  omega

def xorL (a b : List Nat) : List Nat := (List.range (min a.length b.length)).map fun i => a.getD i 0 ^^^ b.getD i 0
def padL (l : List Nat) (n : Nat) : List Nat := (List.range n).map fun i => l.getD i 0
theorem xorL_len (a b : List Nat) : (xorL a b).length = min a.length b.length := by simp [xorL]
theorem xorL_at (a b : List Nat) (i : Nat) : (xorL a b).getD i 0 = if i < min a.length b.length then a.getD i 0 ^^^ b.getD i 0 else 0 := getD_map_range _ _ i
theorem xorL_byte {a b : List Nat} (h : ∀ i, a.getD i 0 < 256) (h' : ∀ i, b.getD i 0 < 256) (i : Nat) : (xorL a b).getD i 0 < 256 := by
  rw [xorL_at]; split
  · exact Nat.xor_lt_two_pow (n := 8) (h i) (h' i)
  · omega
theorem xorL_twice (a b : List Nat) : xorL (xorL a b) b = a.take (min a.length b.length) := by
  rw [list_eq_map_range (a.take (min a.length b.length))]
  unfold xorL
  have h1 : ((List.range (min a.length b.length)).map fun i => a.getD i 0 ^^^ b.getD i 0).length = min a.length b.length := by simp
  have h2 : (a.take (min a.length b.length)).length = min a.length b.length := by rw [List.length_take]; omega
  rw [h1, h2]
  have h3 : min (min a.length b.length) b.length = min a.length b.length := by omega
  rw [h3]
  apply List.map_congr_left
  intro i hi
  have hi := List.mem_range.mp hi
  rw [getD_map_range, if_pos hi, Nat.xor_assoc, Nat.xor_self, Nat.xor_zero]
  simp [List.getD, List.getElem?_take_of_lt hi]
theorem padL_len (l : List Nat) (n : Nat) : (padL l n).length = n := by simp [padL]
theorem padL_at (l : List Nat) (n i : Nat) : (padL l n).getD i 0 = if i < n then l.getD i 0 else 0 := getD_map_range _ _ i
theorem padL_byte {l : List Nat} (h : ∀ i, l.getD i 0 < 256) (n i : Nat) : (padL l n).getD i 0 < 256 := by
  rw [padL_at]; split
  · exact h i
  · omega
theorem padL_succ (l : List Nat) (n : Nat) : padL l (n + 1) = padL l n ++ [l.getD n 0] := map_range_succ n _
theorem awake_put : putL 2 258 = [2, 1] := by decide
end Go.Proofs.YtcaogiaoabdkdaaDoor
