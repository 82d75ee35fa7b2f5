/-
  The program's take, give, turn: what they do with a row of their own.
-/
import Derived.Test.YtajgbflmfopfoaaDoorPgF
import Derived.Lib.SliceRun
namespace Go.Proofs.YtajgbflmfopfoaaDoor
open Go.RowKit Go
set_option linter.unusedVariables false
set_option linter.unusedSimpArgs false
set_option maxRecDepth 100000
theorem there_any (A : Option Addr) (n c : Nat) (a : Int) (w : World) : Calls Tryd.prog 65 #[.slice A n c, .int .i64 a] w fun e w' => e = .returned (.bool (decide (0 ≤ a ∧ a < (n : Int)))) ∧ w = w' := by
  by_cases h : 0 ≤ a
  · go_enter Tryd.func65, Tryd.ntmps65
    go_wp2
    go_ret
    exact ⟨retb (by simp [h]), rfl⟩
  · go_enter Tryd.func65, Tryd.ntmps65
    go_wp2
    go_ret
    exact ⟨retb (by simp; omega), rfl⟩
/-- what a page becomes, and the error's number -/
def turnP (p : Pg) (c : Int) : Pg × Int :=
  if c = -1 then (if p.k = 1 then (pz, 0) else (pz, 6))
  else if ¬ (0 ≤ c ∧ c < 8) then (pz, 1)
  else if isZ p = false then (pz, 7)
  else (⟨1, c, 0, 0, 0⟩, 0)
theorem tupp {p q : Pg} {x y : Int} (h : p = q) (h2 : x = y) : Ending.returned (.tuple #[p.val, .int .i64 x]) = .returned (.tuple #[q.val, .int .i64 y]) := by rw [h, h2]
theorem fin5 {w w' : World} {g : Nat} {t : TypeId} {a b c d e : Value} (hg : w.heap.size ≤ g) (h : w'.heap[g]? = some (.cells #[a, b, c, d, e] t (0, 0))) (hb : Below w.heap.size w w') (v0 v1 v2 v3 v4 : Value) (o : Obj) :
    ((((((w'.setCell ⟨g, 0, none⟩ v0).setCell ⟨g, 1, none⟩ v1).setCell ⟨g, 2, none⟩ v2).setCell ⟨g, 3, none⟩ v3).setCell ⟨g, 4, none⟩ v4).alloc o).heap[g]? = some (.cells #[v0, v1, v2, v3, v4] t (0, 0)) ∧
    Below w.heap.size w ((((((w'.setCell ⟨g, 0, none⟩ v0).setCell ⟨g, 1, none⟩ v1).setCell ⟨g, 2, none⟩ v2).setCell ⟨g, 3, none⟩ v3).setCell ⟨g, 4, none⟩ v4).alloc o) := by
  refine ⟨blk_alloc (blk_set (blk_set (blk_set (blk_set (blk_set h 0 v0) 1 v1) 2 v2) 3 v3) 4 v4) o, ?_⟩
  have h5 : Below w.heap.size w (((((w'.setCell ⟨g, 0, none⟩ v0).setCell ⟨g, 1, none⟩ v1).setCell ⟨g, 2, none⟩ v2).setCell ⟨g, 3, none⟩ v3).setCell ⟨g, 4, none⟩ v4) := ((((hb.setCell (p := ⟨g, 0, none⟩) hg v0).setCell (p := ⟨g, 1, none⟩) hg v1).setCell (p := ⟨g, 2, none⟩) hg v2).setCell (p := ⟨g, 3, none⟩) hg v3).setCell (p := ⟨g, 4, none⟩) hg v4
  exact h5.trans ((bel_alloc _ _).mono h5.size)
theorem fin5' {w w' : World} {g : Nat} {t : TypeId} {a b c d e : Value} (hg : w.heap.size ≤ g) (h : w'.heap[g]? = some (.cells #[a, b, c, d, e] t (0, 0))) (hb : Below w.heap.size w w') (v0 v1 v2 v3 v4 : Value) :
    (((((w'.setCell ⟨g, 0, none⟩ v0).setCell ⟨g, 1, none⟩ v1).setCell ⟨g, 2, none⟩ v2).setCell ⟨g, 3, none⟩ v3).setCell ⟨g, 4, none⟩ v4).heap[g]? = some (.cells #[v0, v1, v2, v3, v4] t (0, 0)) ∧
    Below w.heap.size w (((((w'.setCell ⟨g, 0, none⟩ v0).setCell ⟨g, 1, none⟩ v1).setCell ⟨g, 2, none⟩ v2).setCell ⟨g, 3, none⟩ v3).setCell ⟨g, 4, none⟩ v4) :=
  ⟨blk_set (blk_set (blk_set (blk_set (blk_set h 0 v0) 1 v1) 2 v2) 3 v3) 4 v4, ((((hb.setCell (p := ⟨g, 0, none⟩) hg v0).setCell (p := ⟨g, 1, none⟩) hg v1).setCell (p := ⟨g, 2, none⟩) hg v2).setCell (p := ⟨g, 3, none⟩) hg v3).setCell (p := ⟨g, 4, none⟩) hg v4⟩
set_option maxHeartbeats 4000000 in
theorem turned_any (p : Pg) (c : Int) (w : World) (hS : SZ w) : Calls Tryd.prog 66 #[p.val, .int .i64 c] w fun e w' => e = .returned (.tuple #[(turnP p c).1.val, .int .i64 (turnP p c).2]) ∧ Below w.heap.size w w' := by
  obtain ⟨k, cl, r, s, n⟩ := p
  obtain ⟨W2, hW2⟩ : ∃ W2, W2 = (w.alloc (.cells #[.int .i64 k, .int .i64 cl, .int .i64 r, .int .i64 s, .int .u64 n] OT)).alloc (.cells #[.int .i64 0, .int .i64 0, .int .i64 0, .int .i64 0, .int .u64 0] OT) := ⟨_, rfl⟩
  have e1 : (w.alloc (.cells #[.int .i64 k, .int .i64 cl, .int .i64 r, .int .i64 s, .int .u64 n] OT)).heap.size = w.heap.size + 1 := by simp
  have e2 : W2.heap.size = w.heap.size + 2 := by rw [hW2]; simp
  have HB2 : Hid (Below w.heap.size w W2) := Lib.hid (by rw [hW2]; exact (bel_alloc _ _).trans ((bel_alloc _ _).mono (by omega)))
  have hbp : W2.heap[w.heap.size]? = some (.cells #[.int .i64 k, .int .i64 cl, .int .i64 r, .int .i64 s, .int .u64 n] OT (0, 0)) := by rw [hW2]; exact blk_alloc (heap_alloc_new _ _) _
  have hbq : W2.heap[w.heap.size + 1]? = some (.cells #[.int .i64 0, .int .i64 0, .int .i64 0, .int .i64 0, .int .u64 0] OT (0, 0)) := by rw [hW2, ← e1]; exact heap_alloc_new _ _
  have HOS := Lib.hid (ofSlots_any c W2 (hS.below HB2.out))
  have HK : Hid (∀ W, Below W2.heap.size W2 W → W.heap[w.heap.size]? = some (.cells #[.int .i64 k, .int .i64 cl, .int .i64 r, .int .i64 s, .int .u64 n] OT (0, 0)) ∧ W.heap[w.heap.size + 1]? = some (.cells #[.int .i64 0, .int .i64 0, .int .i64 0, .int .i64 0, .int .u64 0] OT (0, 0)) ∧ Below w.heap.size w W ∧ w.heap.size + 1 < W.heap.size) := Lib.hid (fun W hb => ⟨(hb.block _ (by omega)).trans hbp, (hb.block _ (by omega)).trans hbq, HB2.out.trans (hb.mono (by omega)), by have := hb.size; omega⟩)
  have hx : ∃ x, x = decide (0 ≤ c ∧ c < 8) := ⟨_, rfl⟩
  obtain ⟨x, hx⟩ := hx
  rw [← hx] at HOS
  have HX := Lib.hid hx
  have HS2 := Lib.hid (hS.below HB2.out)
  clear hx hbp hbq e1 e2 HB2 hS
  rw [hW2] at HOS HK
  clear hW2
  have HFR : Hid (∀ W, Calls Tryd.prog 45 #[Pg.val ⟨k, cl, r, s, n⟩] W fun e w' => e = .returned (.bool (isZ ⟨k, cl, r, s, n⟩)) ∧ Below W.heap.size W w') := Lib.hid (fun W => free_any ⟨k, cl, r, s, n⟩ W)
  obtain ⟨z, hz⟩ : ∃ z, z = isZ ⟨k, cl, r, s, n⟩ := ⟨_, rfl⟩
  rw [← hz] at HFR
  have HZ := Lib.hid hz
  clear hz
  go_enter Tryd.func66, Tryd.ntmps66
  go_wp2_with fail
  refine HOS.out.mono ?_
  rintro e w' ⟨rfl, hb⟩
  obtain ⟨q1, q2, q3, q4⟩ := HK.out w' hb
  have HQ3 := Lib.hid q3
  have HQ2 := Lib.hid q2
  have hl0 : w.heap.size < w'.heap.size := by omega
  obtain ⟨c0, c1, c2, c3, c4⟩ := five q1
  obtain ⟨d0, d1, d2, d3, d4⟩ := five q2
  have f0 := blk_free q2 0
  have f1 := blk_free q2 1
  have f2 := blk_free q2 2
  have f3 := blk_free q2 3
  have f4 := blk_free q2 4
  clear hb q1 q2 q3
  have HA := Lib.hid (bel_alloc w' (.cells #[.int .i64 1, .int .i64 c, .int .i64 0, .int .i64 0, .int .u64 0] OT))
  have HT6 := Lib.hid (heap_alloc_new w' (.cells #[.int .i64 1, .int .i64 c, .int .i64 0, .int .i64 0, .int .u64 0] OT))
  have HSE : Hid ((w'.alloc (.cells #[.int .i64 1, .int .i64 c, .int .i64 0, .int .i64 0, .int .u64 0] OT)).heap.size = w'.heap.size + 1) := Lib.hid (by simp)
  by_cases hc : c = -1
  · subst hc
    by_cases hk : k = 1
    · subst hk
      have HE : Hid (turnP ⟨1, cl, r, s, n⟩ (-1) = (pz, 0)) := Lib.hid rfl
      go_wp2
      exact bodyPost_ret (v := .tuple #[Pg.val pz, .int .i64 0]) (rts_row rfl _ _ _ OT _ (0, 0) _ _ rfl rfl (fin5 (by omega) HQ2.out HQ3.out _ _ _ _ _ _).1 Tryd.underlying69 rfl (by kernel_rfl)) rfl ⟨by rw [HE.out], (fin5 (by omega) HQ2.out HQ3.out _ _ _ _ _ _).2⟩
    · have HE : Hid (turnP ⟨k, cl, r, s, n⟩ (-1) = (pz, 6)) := Lib.hid (by unfold turnP; rw [if_pos rfl, if_neg hk])
      go_wp2
      exact bodyPost_ret (v := .tuple #[Pg.val pz, .int .i64 6]) (rts_row rfl _ _ _ OT _ (0, 0) _ _ rfl rfl (fin5 (by omega) HQ2.out HQ3.out _ _ _ _ _ _).1 Tryd.underlying69 rfl (by kernel_rfl)) rfl ⟨by rw [HE.out], (fin5 (by omega) HQ2.out HQ3.out _ _ _ _ _ _).2⟩
  · cases x
    · have HE : Hid (turnP ⟨k, cl, r, s, n⟩ c = (pz, 1)) := Lib.hid (by unfold turnP; rw [if_neg hc, if_pos (of_decide_eq_false HX.out.symm)])
      go_wp2
      exact bodyPost_ret (v := .tuple #[Pg.val pz, .int .i64 1]) (rts_row rfl _ _ _ OT _ (0, 0) _ _ rfl rfl (fin5 (by omega) HQ2.out HQ3.out _ _ _ _ _ _).1 Tryd.underlying69 rfl (by kernel_rfl)) rfl ⟨by rw [HE.out], (fin5 (by omega) HQ2.out HQ3.out _ _ _ _ _ _).2⟩
    · have HXX := Lib.hid (of_decide_eq_true HX.out.symm)
      cases z
      all_goals
        go_wp2_with fail
        refine (HFR.out _).mono ?_
        rintro e w3 ⟨rfl, hb3⟩
        have hb3' : Below (w'.heap.size + 1) (w'.alloc (.cells #[.int .i64 1, .int .i64 c, .int .i64 0, .int .i64 0, .int .u64 0] OT)) w3 := by rw [← HSE.out]; exact hb3
        have hb4 := HA.out.trans (hb3'.mono (Nat.le_succ _))
        have HQ5 := Lib.hid ((hb4.block _ (by omega)).trans HQ2.out)
        have HB5 := Lib.hid (HQ3.out.trans (hb4.mono HQ3.out.size))
        have HT5 := (hb3'.block w'.heap.size (Nat.lt_succ_self _)).trans HT6.out
        have hsz5 := hb3'.size
        rw [HSE.out] at hsz5
        obtain ⟨d0, d1, d2, d3, d4⟩ := five HQ5.out
        obtain ⟨g0, g1, g2, g3, g4⟩ := five HT5
        have f0 := blk_free HQ5.out 0
        have f1 := blk_free HQ5.out 1
        have f2 := blk_free HQ5.out 2
        have f3 := blk_free HQ5.out 3
        have f4 := blk_free HQ5.out 4
        have hl3 : w.heap.size + 1 < w3.heap.size := by omega
        clear hb3 hb3' hb4 HT5
      · have HE : Hid (turnP ⟨k, cl, r, s, n⟩ c = (pz, 7)) := Lib.hid (by unfold turnP; rw [if_neg hc, if_neg (fun q => q HXX.out), if_pos HZ.out.symm])
        go_wp2
        exact bodyPost_ret (v := .tuple #[Pg.val pz, .int .i64 7]) (rts_row rfl _ _ _ OT _ (0, 0) _ _ rfl rfl (fin5' (by omega) HQ5.out HB5.out _ _ _ _ _).1 Tryd.underlying69 rfl (by kernel_rfl)) rfl ⟨by rw [HE.out], (fin5' (by omega) HQ5.out HB5.out _ _ _ _ _).2⟩
      · have HE : Hid (turnP ⟨k, cl, r, s, n⟩ c = (⟨1, c, 0, 0, 0⟩, 0)) := Lib.hid (by unfold turnP; rw [if_neg hc, if_neg (fun q => q HXX.out), ← HZ.out]; rfl)
        go_wp2
        exact bodyPost_ret (v := .tuple #[Pg.val ⟨1, c, 0, 0, 0⟩, .int .i64 0]) (rts_row rfl _ _ _ OT _ (0, 0) _ _ rfl rfl (fin5' (by omega) HQ5.out HB5.out _ _ _ _ _).1 Tryd.underlying69 rfl (by kernel_rfl)) rfl ⟨by rw [HE.out], (fin5' (by omega) HQ5.out HB5.out _ _ _ _ _).2⟩
end Go.Proofs.YtajgbflmfopfoaaDoor
