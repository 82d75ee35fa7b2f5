/-
  Layer 18: a page of the call's own is written into; Take.
-/
import Derived.Test.YtflgcddgocojpaaDoorSlF
import Derived.Laws.Tables
namespace Go.Proofs.YtflgcddgocojpaaDoor
open Go.RowKit Go
set_option linter.unusedVariables false
set_option linter.unusedSimpArgs false
set_option maxHeartbeats 1000000

/-- p in the place of t's bytes from a on -/
def splL (t : List Nat) (a : Nat) (p : List Nat) : List Nat := t.take a ++ (p ++ t.drop (a + p.length))
theorem splL_len {t p : List Nat} {a : Nat} (h : a + p.length ≤ t.length) : (splL t a p).length = t.length := by simp [splL]; omega
theorem splL_at {t p : List Nat} {a : Nat} (h : a + p.length ≤ t.length) (j : Nat) : (splL t a p).getD j 0 = if j < a then t.getD j 0 else if j < a + p.length then p.getD (j - a) 0 else t.getD j 0 := by
  unfold splL
  rw [app_at, List.length_take, Nat.min_eq_left (by omega), take_at, app_at, drop_at]
  by_cases h1 : j < a
  · rw [if_pos h1, if_pos h1, if_pos h1]
  · rw [if_neg h1, if_neg h1]
    by_cases h2 : j - a < p.length
    · rw [if_pos h2, if_pos (by omega)]
    · rw [if_neg h2, if_neg (by omega), show a + p.length + (j - a - p.length) = j by omega]
theorem splL_byte {t p : List Nat} {a : Nat} (h : a + p.length ≤ t.length) (ht : ∀ i, t.getD i 0 < 256) (hp : ∀ i, p.getD i 0 < 256) (i : Nat) : (splL t a p).getD i 0 < 256 := by
  rw [splL_at h]; split
  · exact ht _
  · split
    · exact hp _
    · exact ht _
theorem splice_at {cur vs : List Value} {a : Nat} (h : a + vs.length ≤ cur.length) (i : Nat) : (splice cur a vs)[i]? = if i < a then cur[i]? else if i < a + vs.length then vs[i - a]? else cur[i]? := by
  unfold splice
  rw [List.getElem?_append, List.length_take, Nat.min_eq_left (by omega), List.getElem?_append, List.getElem?_drop]
  by_cases h1 : i < a
  · rw [if_pos h1, if_pos h1, List.getElem?_take_of_lt h1]
  · rw [if_neg h1, if_neg h1]
    by_cases h2 : i - a < vs.length
    · rw [if_pos h2, if_pos (by omega)]
    · rw [if_neg h2, if_neg (by omega), show a + vs.length + (i - a - vs.length) = i by omega]
theorem bvals_at {p : List Nat} {j : Nat} (hj : j < p.length) : (bvals p)[j]? = some (.int .u8 ((p.getD j 0 : Nat) : Int)) := by
  simp [bvals, List.getElem?_map, List.getElem?_eq_getElem hj, List.getD]
theorem PgO.spl {w w' : World} {B h cc a : Nat} {t p : List Nat} {cur : List Value} (H : PgO w B h cc t) (h0 : w.heap[h]? = some (.cells cur.toArray 5 (0, 0))) (h1 : w'.heap[h]? = some (.cells (splice cur a (bvals p)).toArray 5 (0, 0)))
    (ha : a + p.length ≤ 256) (hp : ∀ i, p.getD i 0 < 256) : PgO w' B h cc (splL t a p) := by
  obtain ⟨a1, a2, a3, a4, a5, c2, b1, b2, b3⟩ := H
  rw [h0] at b1
  have hcc : cur.toArray = c2 := by injection b1 with b1; injection b1
  subst hcc
  have hl : cur.length = cc := by simpa using b2
  have hfit : a + (bvals p).length ≤ cur.length := by rw [bvals_len]; omega
  refine ⟨a1, a2, a3, by rw [splL_len (by omega), a4], splL_byte (by omega) a5 hp, _, h1, ?_, fun i hi => ?_⟩
  · have := length_splice cur a (bvals p) hfit
    simpa [hl] using this
  · have e := splice_at hfit i
    have b4 := b3 i hi
    simp only [List.getElem?_toArray] at b4 ⊢
    rw [e, bvals_len, splL_at (by omega)]
    by_cases h1 : i < a
    · rw [if_pos h1, if_pos h1]; exact b4
    · rw [if_neg h1, if_neg h1]
      by_cases h2 : i < a + p.length
      · rw [if_pos h2, if_pos h2, bvals_at (by omega)]
      · rw [if_neg h2, if_neg h2]; exact b4
/-- what stands ahead of an object of n bytes and a serial -/
def hdL (t : List Nat) (q n s : Nat) : List Nat := splL (splL t q (putL 2 n)) (q + 2) (putL 6 s)
theorem name_P (h q z n s B cc : Nat) (t : List Nat) (w : World) (hp : PgO w B h cc t) (hq : q + 8 ≤ 256) (hz : 16 ≤ z) (h128 : z ≤ 128) (hn : n < 256) (hs : s < 2 ^ 64) :
    Calls Tryd.prog 36 #[.slice (some ⟨h, q, none⟩) z z, .int .u64 (s : Int), .int .i64 (n : Int)] w fun e w' => e = .returned (.tuple #[]) ∧ PgO w' B h cc (hdL t q n s) ∧ w.grownBy w' (some h) := by
  obtain ⟨cur, b1, b2, b3⟩ := hp.blk
  have b1' : w.heap[h]? = some (.cells cur.toList.toArray 5 (0, 0)) := by rw [Array.toArray_toList]; exact b1
  have hcl : cur.toList.length = cc := by rw [Array.length_toList]; exact b2
  have hc1 := hp.c1
  refine (name_w h q z n s cur.toList w b1' (by omega) hz h128 hn hs).mono ?_
  rintro e w' ⟨rfl, h1, h2⟩
  refine ⟨rfl, ?_, h2⟩
  -- the block in two steps
  have m : ∃ w1 : World, w1.heap[h]? = some (.cells (splice cur.toList q (bvals (putL 2 n))).toArray 5 (0, 0)) :=
    ⟨w.setRow h (splice cur.toList q (bvals (putL 2 n))).toArray, setRow_heap w h _ _ _ _ b1⟩
  obtain ⟨w1, hw1⟩ := m
  have p1 := PgO.spl hp b1' hw1 (by rw [putL_len]; omega) (putL_byte _ _)
  unfold named at h1
  exact PgO.spl p1 hw1 h1 (by rw [putL_len]; omega) (putL_byte _ _)
end Go.Proofs.YtflgcddgocojpaaDoor
