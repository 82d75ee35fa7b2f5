/-
  What is written is read back.
-/
import Derived.Test.YtooahpfeamobcaaDoorPhA
import Derived.Test.YtooahpfeamobcaaDoorPgY
namespace Go.Proofs.YtooahpfeamobcaaDoor
open Go.RowKit Go Go.Shelf
set_option linter.unusedVariables false
set_option linter.unusedSimpArgs false
theorem rdP_app (x r : List Nat) (hx : x.length = 16) : rdP (x ++ r) = rdP x := by
  have t : ∀ s n, s + n ≤ 16 → ((x ++ r).drop s).take n = (x.drop s).take n := fun s n h => by
    rw [List.drop_append_of_le_length (by omega), List.take_append_of_le_length (by rw [List.length_drop]; omega)]
  have t0 := t 0 1 (by omega)
  have t1 := t 1 1 (by omega)
  have t2 := t 2 2 (by omega)
  have t3 := t 4 4 (by omega)
  have t4 := t 8 8 (by omega)
  rw [List.drop_zero, List.drop_zero] at t0
  unfold rdP
  rw [t0, t1, t2, t3, t4]
theorem rd_bL {p : Pg} (h : oneP p = true) : rdP (bL p) = p := by
  obtain ⟨h0, k0, h1, k1, h2, k2, h3, k3, h4, k4⟩ := one_nat h
  obtain ⟨_, s0, _, s1⟩ := one_small h
  have s2 := (one_run h).2.1
  obtain ⟨x0, e0⟩ : ∃ x, x = putL 1 p.k.toNat := ⟨_, rfl⟩
  obtain ⟨x1, e1⟩ : ∃ x, x = putL 1 p.c.toNat := ⟨_, rfl⟩
  obtain ⟨x2, e2⟩ : ∃ x, x = putL 2 p.r.toNat := ⟨_, rfl⟩
  obtain ⟨x3, e3⟩ : ∃ x, x = putL 4 p.s.toNat := ⟨_, rfl⟩
  obtain ⟨x4, e4⟩ : ∃ x, x = putL 8 p.n.toNat := ⟨_, rfl⟩
  have l0 : x0.length = 1 := by rw [e0, putL_len]
  have l1 : x1.length = 1 := by rw [e1, putL_len]
  have l2 : x2.length = 2 := by rw [e2, putL_len]
  have l3 : x3.length = 4 := by rw [e3, putL_len]
  have l4 : x4.length = 8 := by rw [e4, putL_len]
  have n0 : num x0 = p.k.toNat := by rw [e0, num_putL, Nat.mod_eq_of_lt (by omega)]
  have n1 : num x1 = p.c.toNat := by rw [e1, num_putL, Nat.mod_eq_of_lt (by omega)]
  have n2 : num x2 = p.r.toNat := by rw [e2, num_putL, Nat.mod_eq_of_lt (by omega)]
  have n3 : num x3 = p.s.toNat := by rw [e3, num_putL, Nat.mod_eq_of_lt (by omega)]
  have n4 : num x4 = p.n.toNat := by rw [e4, num_putL, Nat.mod_eq_of_lt (by omega)]
  have hb : bL p = x0 ++ (x1 ++ (x2 ++ (x3 ++ x4))) := by rw [e0, e1, e2, e3, e4]; rfl
  rw [hb]
  have d1 : (x0 ++ (x1 ++ (x2 ++ (x3 ++ x4)))).drop 1 = x1 ++ (x2 ++ (x3 ++ x4)) := List.drop_left' l0
  have d2 : (x0 ++ (x1 ++ (x2 ++ (x3 ++ x4)))).drop 2 = x2 ++ (x3 ++ x4) := by
    rw [show 2 = 1 + 1 from rfl, ← List.drop_drop, d1]; exact List.drop_left' l1
  have d4 : (x0 ++ (x1 ++ (x2 ++ (x3 ++ x4)))).drop 4 = x3 ++ x4 := by
    rw [show 4 = 2 + 2 from rfl, ← List.drop_drop, d2]; exact List.drop_left' l2
  have d8 : (x0 ++ (x1 ++ (x2 ++ (x3 ++ x4)))).drop 8 = x4 := by
    rw [show 8 = 4 + 4 from rfl, ← List.drop_drop, d4]; exact List.drop_left' l3
  unfold rdP
  rw [d1, d2, d4, d8, List.take_left' l0, List.take_left' l1, List.take_left' l2, List.take_left' l3, List.take_of_length_le (by omega), n0, n1, n2, n3, n4]
  refine Pg.ext' ?_ ?_ ?_ ?_ ?_ <;> simp only [] <;> omega
theorem bL_pz : bL pz = List.replicate 16 0 := by decide
theorem flB_zeros : ∀ m, flB (List.replicate m pz) = List.replicate (16 * m) 0
  | 0 => rfl
  | m + 1 => by
    have h := flB_zeros m
    unfold flB at h ⊢
    rw [List.replicate_succ, List.flatMap_cons, h, bL_pz, List.replicate_append_replicate, show 16 + 16 * m = 16 * (m + 1) by omega]
theorem flB_append (a b : List Pg) : flB (a ++ b) = flB a ++ flB b := by unfold flB; rw [List.flatMap_append]
theorem flB_drop : ∀ (i : Nat) (l : List Pg), (flB l).drop (16 * i) = flB (l.drop i)
  | 0, l => by simp
  | i + 1, [] => by simp [flB]
  | i + 1, p :: r => by
    rw [List.drop_succ_cons, ← flB_drop i r]
    show (bL p ++ flB r).drop (16 * (i + 1)) = _
    rw [show 16 * (i + 1) = 16 + 16 * i by omega, ← List.drop_drop, List.drop_left' (bL_len p)]
theorem padL_eq {l : List Nat} {n : Nat} (h : l.length ≤ n) : padL l n = l ++ List.replicate (n - l.length) 0 := by
  unfold padL
  refine List.ext_getElem? fun i => ?_
  rw [List.getElem?_map]
  rcases Nat.lt_or_ge i n with hi | hi
  · rw [List.getElem?_range hi, Option.map_some, List.getD_eq_getElem?_getD]
    rcases Nat.lt_or_ge i l.length with hl | hl
    · rw [List.getElem?_append_left hl, List.getElem?_eq_getElem hl]; rfl
    · rw [List.getElem?_append_right hl, List.getElem?_eq_none hl, List.getElem?_replicate, if_pos (by omega)]; rfl
  · rw [List.getElem?_eq_none (by simpa using hi), List.getElem?_eq_none (by simp; omega)]; rfl
/-- sixteen pages: those of l, and free ones -/
def full16 (l : List Pg) : List Pg := l ++ List.replicate (16 - l.length) pz
theorem full16_len {l : List Pg} (h : l.length ≤ 16) : (full16 l).length = 16 := by unfold full16; rw [List.length_append, List.length_replicate]; omega
theorem full16_one {l : List Pg} (h : l.all oneP = true) : (full16 l).all oneP = true := by
  unfold full16
  rw [List.all_append, h, Bool.true_and, List.all_eq_true]
  intro x hx
  rw [(List.mem_replicate.1 hx).2]; rfl
theorem blkP_full {l : List Pg} (h : l.length ≤ 16) : blkP l = flB (full16 l) := by
  unfold blkP full16
  rw [padL_eq (by rw [flB_len]; omega), flB_append, flB_zeros, flB_len, show 256 - 16 * l.length = 16 * (16 - l.length) by omega]
theorem rd16_flB {L : List Pg} (h16 : L.length = 16) (h : L.all oneP = true) : rd16 (flB L) = L := by
  unfold rd16 mixP
  refine List.ext_getElem? fun i => ?_
  rw [List.getElem?_map]
  rcases Nat.lt_or_ge i 16 with hi | hi
  · rw [List.getElem?_range hi, Option.map_some, if_pos hi, flB_drop, drop_at (by omega), pg_some (by omega)]
    show some (rdP (bL (pg L i) ++ flB (L.drop (i + 1)))) = _
    rw [rdP_app _ _ (bL_len _), rd_bL (all_at h (by omega))]
  · rw [List.getElem?_eq_none (by simpa using hi), List.getElem?_eq_none (by omega)]; rfl
theorem rd16_blk {l : List Pg} (h : l.length ≤ 16) (h1 : l.all oneP = true) : rd16 (blkP l) = full16 l := by
  rw [blkP_full h]
  exact rd16_flB (full16_len h) (full16_one h1)
end Go.Proofs.YtooahpfeamobcaaDoor
