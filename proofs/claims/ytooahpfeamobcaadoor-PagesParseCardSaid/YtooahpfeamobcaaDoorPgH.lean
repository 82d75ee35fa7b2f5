/-
  The program's turn, give, take over a row of its own.
-/
import Derived.Test.YtooahpfeamobcaaDoorPgG
namespace Go.Proofs.YtooahpfeamobcaaDoor
open Go.RowKit Go
set_option linter.unusedVariables false
set_option linter.unusedSimpArgs false
set_option maxRecDepth 100000
theorem setCells_app (b : Nat) : ∀ (xs ys : List Value) (o : Nat) (w : World), w.setCells b o (xs ++ ys) = (w.setCells b o xs).setCells b (o + xs.length) ys
  | [], ys, o, w => rfl
  | v :: r, ys, o, w => by
    show (w.setCell ⟨b, o, none⟩ v).setCells b (o + 1) (r ++ ys) = ((w.setCell ⟨b, o, none⟩ v).setCells b (o + 1) r).setCells b (o + (r.length + 1)) ys
    rw [setCells_app b r ys, show o + 1 + r.length = o + (r.length + 1) by omega]
theorem OwnP.puts {B g n cap : Nat} {E : TypeId} : ∀ (ps : List Pg) (W : World) (xs : List Pg) (a : Nat), OwnP W B E (.slice (some ⟨g, 0, none⟩) n cap) xs → a + ps.length ≤ xs.length →
    OwnP (W.setCells g (a * 5) (flatP ps)) B E (.slice (some ⟨g, 0, none⟩) n cap) (xs.take a ++ ps ++ xs.drop (a + ps.length))
  | [], W, xs, a, h, ha => by
    show OwnP W _ _ _ _
    simpa using h
  | p :: r, W, xs, a, h, ha => by
    rw [List.length_cons] at ha
    have h1 := h.put (i := a) (by omega) p
    have h2 := OwnP.puts r _ _ (a + 1) h1 (by rw [List.length_set]; omega)
    have e : W.setCells g (a * 5) (flatP (p :: r)) = (W.setCells g (a * 5) p.cs).setCells g ((a + 1) * 5) (flatP r) := by
      have : flatP (p :: r) = p.cs ++ flatP r := rfl
      rw [this, setCells_app, show a * 5 + p.cs.length = (a + 1) * 5 by show a * 5 + 5 = _; omega]
    rw [e]
    have e2 : (xs.set a p).take (a + 1) ++ r ++ (xs.set a p).drop (a + 1 + r.length) = xs.take a ++ (p :: r) ++ xs.drop (a + (p :: r).length) := by
      rw [List.drop_set_of_lt (by omega), List.length_cons, show a + 1 + r.length = a + (r.length + 1) by omega, List.take_add_one, List.take_set_of_le (Nat.le_refl a)]
      simp [show a < xs.length by omega]
    rw [e2] at h2
    exact h2
theorem zero_o (w : World) : (zeroValue OT).run Tryd.prog w = .ok (Pg.val pz) w := by kernel_rfl
theorem rep_flat : ∀ n, (Builtin.zeroCells (Pg.val pz).cells n).toList = flatP (List.replicate n pz) := by
  intro n
  apply List.ext_getElem?
  intro j
  by_cases hj : j < n * 5
  · have h2 := flatP_get (List.replicate n pz) (j / 5) (j % 5) (by rw [List.length_replicate]; omega) (by omega)
    rw [show j / 5 * 5 + j % 5 = j by omega] at h2
    have e : pg (List.replicate n pz) (j / 5) = pz := by
      show (List.replicate n pz).getD (j / 5) pz = pz
      rw [List.getD_eq_getElem?_getD, List.getElem?_replicate, if_pos (by omega)]; rfl
    rw [h2, e]
    have h5 : j % 5 = 0 ∨ j % 5 = 1 ∨ j % 5 = 2 ∨ j % 5 = 3 ∨ j % 5 = 4 := by omega
    simp only [Builtin.zeroCells]
    have hz : j < n * (Pg.val pz).cells.size := hj
    rw [Array.toList_map, List.getElem?_map, Array.toList_range, List.getElem?_range hz]
    rcases h5 with h5 | h5 | h5 | h5 | h5 <;> rw [h5] <;> simp [Value.cells, h5, Pg.cs]
  · rw [List.getElem?_eq_none (by simp [Builtin.zeroCells, Value.cells]; omega), List.getElem?_eq_none (by rw [flatP_len, List.length_replicate]; omega)]
/-- 'clear(s)' of pages -/
theorem run_clearP (w : World) (ty : TypeId) (b o n c : Nat) (hn : 0 < n) (ht : w.there b o (n * 5)) :
    (Builtin.clear_ #[OS] ty #[.slice (some ⟨b, o, none⟩) n c]).run Tryd.prog w = .ok (.tuple #[]) (w.setCells b o (flatP (List.replicate n pz))) := by
  have hlen : (flatP (List.replicate n pz)).length = n * 5 := by rw [flatP_len, List.length_replicate]
  have hst := run_storeCells_cells (P := Tryd.prog) b o (flatP (List.replicate n pz)) 0 w (fun j hj => (ht j (by omega)).1) (fun j hj => (ht j (by omega)).2) (fun v hv => flatP_one _ v hv)
  simp only [Nat.add_zero] at hst
  have hz : (Builtin.zeroCells #[Value.int .i64 0, Value.int .i64 0, Value.int .i64 0, Value.int .i64 0, Value.int .u64 0] n).toList = flatP (List.replicate n pz) := rep_flat n
  obtain ⟨m, rfl⟩ : ∃ m, n = m + 1 := ⟨n - 1, by omega⟩
  have hu := kdO.under
  simp [Builtin.clear_, run_underlying hu, zero_o, Value.cells, hz, hst]
theorem OwnP.there_n {W : World} {B g n cap : Nat} {E : TypeId} {xs : List Pg} (h : OwnP W B E (.slice (some ⟨g, 0, none⟩) n cap) xs) {a m : Nat} (ha : a + m ≤ xs.length) : W.there g (a * 5) (m * 5) := by
  obtain ⟨h1, ⟨hv, h0⟩ | ⟨g', cap', cur, hv, hg, hh, hn, hm, hs, ht⟩⟩ := h
  · cases hv
  · cases hv
    intro j hj
    refine ⟨?_, blk_free hh _⟩
    rw [blk_cell hh, Array.getElem?_eq_getElem (by omega)]; rfl
/-- what a change of an own row leaves: an error, or the pages -/
def ChgTo (W : World) (B : Nat) (v : Value) (r : Nat × List Pg) (e : Ending) (w' : World) : Prop := e = .returned (.int .i64 (r.1 : Int)) ∧ Below B W w' ∧ (r.1 = 0 → OwnP w' B OT v r.2)
theorem isZ_k0 {p : Pg} (h : oneP p = true) : isZ p = decide (p.k = 0) := by
  rw [Bool.eq_iff_iff, isZ_iff, decide_eq_true_iff]
  rw [oneP_iff] at h
  constructor
  · rintro rfl; rfl
  · intro h0
    rcases h with rfl | rfl | h | h
    · rfl
    · exact absurd h0 (by decide)
    · omega
    · omega
theorem layF_one {l : List Pg} {a : Nat} {p q : Pg} (h : a < l.length) : l.set a p = layF l a 1 p q := by
  unfold layF
  rw [List.set_eq_take_append_cons_drop, if_pos h]
  simp
theorem turnF_is {l : List Pg} {a : Nat} {c : Int} (hm : mayL l = true) (ha : a < l.length) : turnF l (a : Int) c = (if (turnP (pg l a) c).2 = 0 then (0, layF l a 1 (turnP (pg l a) c).1 pz) else ((turnP (pg l a) c).2.toNat, [])) := by
  have ho := all_at (mayL_iff.1 hm).2.1 ha
  unfold turnF turnP
  rw [if_neg (by rw [hm]; decide), if_neg (fun q => q ⟨by omega, by omega⟩), Int.toNat_natCast]
  by_cases hc : c = -1
  · rw [if_pos hc, if_pos hc]
    by_cases h1 : (pg l a).k = 1
    · rw [if_neg (fun q => q h1), if_pos h1]; rfl
    · rw [if_pos h1, if_neg h1]; rfl
  · rw [if_neg hc, if_neg hc]
    by_cases h8 : 0 ≤ c ∧ c < 8
    · have n8 : ¬ ¬ (0 ≤ c ∧ c < 8) := fun q => q h8
      rw [if_neg n8, if_neg n8, isZ_k0 ho]
      by_cases h0 : (pg l a).k = 0
      · have n0 : ¬ ¬ (pg l a).k = 0 := fun q => q h0
        rw [if_neg n0, decide_eq_true h0]; rfl
      · rw [if_pos h0, decide_eq_false h0]; rfl
    · rw [if_pos h8, if_pos h8]; rfl
theorem turnP_nn (p : Pg) (c : Int) : 0 ≤ (turnP p c).2 := by
  unfold turnP; split
  · split <;> simp
  · split
    · simp
    · split <;> simp
end Go.Proofs.YtooahpfeamobcaaDoor
