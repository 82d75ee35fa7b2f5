/-
  Sixteen pages as a block: Bytes of the package.
-/
import Derived.Test.YtooahpfeamobcaaDoorPgW
import Derived.Test.YtooahpfeamobcaaDoorPgD
import Derived.Test.YtooahpfeamobcaaDoorWordC
namespace Go.Proofs.YtooahpfeamobcaaDoor
open Go.RowKit Go Go.Shelf
set_option linter.unusedVariables false
set_option linter.unusedSimpArgs false
set_option maxRecDepth 100000
theorem app_byte {a b : List Nat} (ha : ∀ i, a.getD i 0 < 256) (hb : ∀ i, b.getD i 0 < 256) (i : Nat) : (a ++ b).getD i 0 < 256 := by
  rw [List.getD_eq_getElem?_getD]
  rcases Nat.lt_or_ge i a.length with h | h
  · rw [List.getElem?_append_left h, ← List.getD_eq_getElem?_getD]; exact ha i
  · rw [List.getElem?_append_right h, ← List.getD_eq_getElem?_getD]; exact hb _
theorem putL_byte' (n v i : Nat) (h1 : 1 ≤ n) (h8 : n ≤ 8) : (putL n v).getD i 0 < 256 := by
  have := putI_byte (n : Int) v i
  unfold putI at this
  rw [if_pos (by omega)] at this
  exact this
def bL (p : Pg) : List Nat := byL p.k.toNat p.c.toNat p.r.toNat p.s.toNat p.n.toNat
theorem bL_len (p : Pg) : (bL p).length = 16 := byL_len _ _ _ _ _
theorem bL_byte (p : Pg) (i : Nat) : (bL p).getD i 0 < 256 :=
  app_byte (fun i => putL_byte' 1 _ i (by omega) (by omega)) (fun i => app_byte (fun i => putL_byte' 1 _ i (by omega) (by omega)) (fun i => app_byte (fun i => putL_byte' 2 _ i (by omega) (by omega)) (fun i => app_byte (fun i => putL_byte' 4 _ i (by omega) (by omega)) (fun i => putL_byte' 8 _ i (by omega) (by omega)) i) i) i) i
def flB (l : List Pg) : List Nat := l.flatMap bL
theorem flB_len : ∀ l : List Pg, (flB l).length = 16 * l.length
  | [] => rfl
  | p :: r => by
    have := flB_len r
    unfold flB at this ⊢
    rw [List.flatMap_cons, List.length_append, bL_len, this, List.length_cons]
    omega
theorem flB_byte : ∀ (l : List Pg) (i : Nat), (flB l).getD i 0 < 256
  | [], i => by simp [flB]
  | p :: r, i => by
    unfold flB
    rw [List.flatMap_cons]
    exact app_byte (bL_byte p) (fun i => flB_byte r i) i
theorem flB_step {l : List Pg} {k : Nat} (h : k < l.length) : flB (l.take (k + 1)) = flB (l.take k) ++ bL (pg l k) := by
  rw [take_one h]
  unfold flB
  rw [List.flatMap_append]
  simp
def blkP (l : List Pg) : List Nat := padL (flB l) 256
theorem blkP_pad (l : List Pg) : padI (flB l) 256 = blkP l := by
  unfold padI
  rw [if_pos (by omega)]
  rfl
theorem blkP_len (l : List Pg) : (blkP l).length = 256 := by simp [blkP, padL]
theorem one_nat {p : Pg} (h : oneP p = true) : 0 ≤ p.k ∧ p.k < 4294967296 ∧ 0 ≤ p.c ∧ p.c < 4294967296 ∧ 0 ≤ p.r ∧ p.r < 4294967296 ∧ 0 ≤ p.s ∧ p.s < 4294967296 ∧ 0 ≤ p.n ∧ p.n < 18446744073709551616 := by
  rcases oneP_iff.1 h with rfl | rfl | h | h
  · decide
  · decide
  · obtain ⟨h1, h2, h3, h4, h5, h6⟩ := h; omega
  · obtain ⟨h1, h2, h3, h4, h5, h6, h7⟩ := h; omega
def PgBytesTo (w : World) (l : List Pg) (e : Ending) (w' : World) : Prop := Below w.heap.size w w' ∧
  ((16 < l.length ∧ e = .returned (.tuple #[.slice none 0 0, .int .i64 1])) ∨ (l.length ≤ 16 ∧ l.all oneP = false ∧ e = .returned (.tuple #[.slice none 0 0, .int .i64 4])) ∨
   (l.length ≤ 16 ∧ l.all oneP = true ∧ ∃ A c, e = .returned (.tuple #[.slice A 256 c, .int .i64 0]) ∧ BS w' w'.heap.size A 256 c (blkP l)))
end Go.Proofs.YtooahpfeamobcaaDoor
