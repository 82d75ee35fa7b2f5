/-
  The program's turn, give, take over a row of its own.
-/
import Derived.Test.YtajgbflmfopfoaaDoorPgG
namespace Go.Proofs.YtajgbflmfopfoaaDoor
open Go.RowKit Go
set_option linter.unusedVariables false
set_option linter.unusedSimpArgs false
set_option maxRecDepth 100000
theorem setCells_app (b : Nat) : ∀ (xs ys : List Value) (o : Nat) (w : World), w.setCells b o (xs ++ ys) = (w.setCells b o xs).setCells b (o + xs.length) ys
  | [], ys, o, w => rfl
  | v :: r, ys, o, w => by
    show (w.setCell ⟨b, o, none⟩ v).setCells b (o + 1) (r ++ ys) = ((w.setCell ⟨b, o, none⟩ v).setCells b (o + 1) r).setCells b (o + (r.length + 1)) ys
    rw [setCells_app b r ys, show o + 1 + r.length = o + (r.length + 1) by omega]
theorem OwnP.puts {B g n cap : Nat} {E : TypeId} : ∀ (ps : List Pg) (W : World) (xs : List Pg) (a : Nat), OwnP W B E (.slice (some ⟨g, 0, none⟩) n cap) xs → a + ps.length ≤ xs.length →
    OwnP (W.setCells g (a * 5) (flatP ps)) B E (.slice (some ⟨g, 0, none⟩) n cap) (xs.take a ++ ps ++ xs.drop (a + ps.length))
  | [], W, xs, a, h, ha => by
    show OwnP W _ _ _ _
    simpa using h
  | p :: r, W, xs, a, h, ha => by
    rw [List.length_cons] at ha
    have h1 := h.put (i := a) (by omega) p
    have h2 := OwnP.puts r _ _ (a + 1) h1 (by rw [List.length_set]; omega)
    have e : W.setCells g (a * 5) (flatP (p :: r)) = (W.setCells g (a * 5) p.cs).setCells g ((a + 1) * 5) (flatP r) := by
      have : flatP (p :: r) = p.cs ++ flatP r := rfl
      rw [this, setCells_app, show a * 5 + p.cs.length = (a + 1) * 5 by show a * 5 + 5 = _; omega]
    rw [e]
    have e2 : (xs.set a p).take (a + 1) ++ r ++ (xs.set a p).drop (a + 1 + r.length) = xs.take a ++ (p :: r) ++ xs.drop (a + (p :: r).length) := by
      rw [List.drop_set_of_lt (by omega), List.length_cons, show a + 1 + r.length = a + (r.length + 1) by omega, List.take_add_one, List.take_set_of_le (Nat.le_refl a)]
      simp [show a < xs.length by omega]
    rw [e2] at h2
    exact h2
theorem zero_o (w : World) : (zeroValue OT).run Tryd.prog w = .ok (Pg.val pz) w := by kernel_rfl
theorem rep_flat : ∀ n, (Builtin.zeroCells (Pg.val pz).cells n).toList = flatP (List.replicate n pz) := by
  intro n
  apply List.ext_getElem?
  intro j
  by_cases hj : j < n * 5
  · have h2 := flatP_get (List.replicate n pz) (j / 5) (j % 5) (by rw [List.length_replicate]; omega) (by omega)
    rw [show j / 5 * 5 + j % 5 = j by omega] at h2
    have e : pg (List.replicate n pz) (j / 5) = pz := by
      show (List.replicate n pz).getD (j / 5) pz = pz
      rw [List.getD_eq_getElem?_getD, List.getElem?_replicate, if_pos (by omega)]; rfl
    rw [h2, e]
    have h5 : j % 5 = 0 ∨ j % 5 = 1 ∨ j % 5 = 2 ∨ j % 5 = 3 ∨ j % 5 = 4 := by omega
    simp only [Builtin.zeroCells]
    have hz : j < n * (Pg.val pz).cells.size := hj
    rw [Array.toList_map, List.getElem?_map, Array.toList_range, List.getElem?_range hz]
    rcases h5 with h5 | h5 | h5 | h5 | h5 <;> rw [h5] <;> simp [Value.cells, h5, Pg.cs]
  · rw [List.getElem?_eq_none (by simp [Builtin.zeroCells, Value.cells]; omega), List.getElem?_eq_none (by rw [flatP_len, List.length_replicate]; omega)]
/-- 'clear(s)' of pages -/
theorem run_clearP (w : World) (ty : TypeId) (b o n c : Nat) (hn : 0 < n) (ht : w.there b o (n * 5)) :
    (Builtin.clear_ #[OS] ty #[.slice (some ⟨b, o, none⟩) n c]).run Tryd.prog w = .ok (.tuple #[]) (w.setCells b o (flatP (List.replicate n pz))) := by
  have hlen : (flatP (List.replicate n pz)).length = n * 5 := by rw [flatP_len, List.length_replicate]
  have hst := run_storeCells_cells (P := Tryd.prog) b o (flatP (List.replicate n pz)) 0 w (fun j hj => (ht j (by omega)).1) (fun j hj => (ht j (by omega)).2) (fun v hv => flatP_one _ v hv)
  simp only [Nat.add_zero] at hst
  have hz : (Builtin.zeroCells #[Value.int .i64 0, Value.int .i64 0, Value.int .i64 0, Value.int .i64 0, Value.int .u64 0] n).toList = flatP (List.replicate n pz) := rep_flat n
  obtain ⟨m, rfl⟩ : ∃ m, n = m + 1 := ⟨n - 1, by omega⟩
  have hu := kdO.under
  simp [Builtin.clear_, run_underlying hu, zero_o, Value.cells, hz, hst]
theorem OwnP.there_n {W : World} {B g n cap : Nat} {E : TypeId} {xs : List Pg} (h : OwnP W B E (.slice (some ⟨g, 0, none⟩) n cap) xs) {a m : Nat} (ha : a + m ≤ xs.length) : W.there g (a * 5) (m * 5) := by
  obtain ⟨h1, ⟨hv, h0⟩ | ⟨g', cap', cur, hv, hg, hh, hn, hm, hs, ht⟩⟩ := h
  · cases hv
  · cases hv
    intro j hj
    refine ⟨?_, blk_free hh _⟩
    rw [blk_cell hh, Array.getElem?_eq_getElem (by omega)]; rfl
/-- what a change of an own row leaves: an error, or the pages -/
def ChgTo (W : World) (B : Nat) (v : Value) (r : Nat × List Pg) (e : Ending) (w' : World) : Prop := e = .returned (.int .i64 (r.1 : Int)) ∧ Below B W w' ∧ (r.1 = 0 → OwnP w' B OT v r.2)
set_option maxHeartbeats 4000000 in
theorem give_any (B n : Nat) (v : Value) (l : List Pg) (a : Int) (W : World) (h : OwnP W B OT v l) (hm : mayL l = true) (hB : B ≤ W.heap.size) :
    Calls Tryd.prog 51 #[v, .int .i64 a] W (ChgTo W B v (giveF l a)) := by
  have hlen64 := (mayL_iff.1 hm).1
  by_cases ha : 0 ≤ a ∧ a < (l.length : Int)
  · have hl0 : 0 < l.length := by omega
    obtain ⟨g, cap, rfl, hg1, hg2, hcap, hcap2⟩ := h.blk hl0
    obtain ⟨A, c, hv, hps, hx1⟩ := h.ps
    cases hv
    clear hx1
    obtain ⟨k, rfl⟩ : ∃ k : Nat, a = (k : Int) := ⟨a.toNat, by omega⟩
    have hk : k < l.length := by omega
    have HTH := Lib.hid (there_any (some ⟨g, 0, none⟩) l.length cap (k : Int) W)
    rw [decide_eq_true ha] at HTH
    obtain ⟨b, o, e, hx2, hcell⟩ := hps.at_ hl0
    clear hx2
    cases e
    have hp := hcell k hk
    rw [Nat.zero_add] at hp
    obtain ⟨p, hpe⟩ : ∃ p, p = pg l k := ⟨_, rfl⟩
    rw [← hpe] at hp
    have HPE := Lib.hid hpe
    obtain ⟨c0, c1, c2, c3, c4⟩ := hp
    have HG : Hid (giveF l (k : Int) = if (pg l k).k ≠ 2 then (6, []) else (0, layF l k (pg l k).r.toNat pz pz)) := Lib.hid (by
      unfold giveF
      rw [if_neg (by rw [hm]; decide), Int.toNat_natCast]
      by_cases h2 : (pg l k).k = 2
      · rw [if_neg (fun q => q ⟨ha.1, ha.2, h2⟩), if_neg (fun q => q h2)]
      · rw [if_pos (fun q => h2 q.2.2), if_pos h2])
    have HHD : Hid ((pg l k).k = 2 → 1 ≤ (pg l k).r.toNat ∧ (((pg l k).r.toNat : Nat) : Int) = (pg l k).r ∧ k + (pg l k).r.toNat ≤ l.length) := Lib.hid (fun q => ⟨(head_part hm hk q).1, (head_part hm hk q).2.2.1, (head_part hm hk q).2.2.2.1⟩)
    rw [← hpe] at HG HHD
    have HOW := Lib.hid h
    obtain ⟨q, hq⟩ : ∃ q, q = l.length := ⟨_, rfl⟩
    rw [← hq] at HTH HHD hcap hlen64 ⊢
    rw [← hq] at hk
    have HQ := Lib.hid hq
    clear hpe hcell hps h hm ha hl0 hq
    by_cases hk2 : p.k = 2
    · obtain ⟨r1, r2, r3⟩ := HHD.out hk2
      obtain ⟨r, hr⟩ : ∃ r, r = p.r.toNat := ⟨_, rfl⟩
      rw [← hr] at r1 r2 r3
      rw [← r2] at c2
      have HCL : Hid (∀ ty, (Builtin.clear_ #[OS] ty #[.slice (some ⟨g, k * 5, none⟩) r (cap - k)]).run Tryd.prog W = .ok (.tuple #[]) (W.setCells g (k * 5) (flatP (List.replicate r pz)))) := Lib.hid (fun ty => run_clearP W ty g (k * 5) r (cap - k) (by omega) (HOW.out.there_n (by rw [← HQ.out]; exact r3)))
      have HE : Hid (ChgTo W B (.slice (some ⟨g, 0, none⟩) q cap) (giveF l (k : Int)) (.returned (.int .i64 0)) (W.setCells g (k * 5) (flatP (List.replicate r pz)))) := Lib.hid (by
        rw [HG.out, if_neg (fun z => z hk2), ← hr]
        refine ⟨rfl, below_setCells g _ _ (Below.refl _ _) hg1, fun _ => ?_⟩
        have h2 := HOW.out.puts (List.replicate r pz) W l k (by rw [List.length_replicate, ← HQ.out]; exact r3)
        rw [List.length_replicate, ← HQ.out] at h2
        have e : layF l k r pz pz = l.take k ++ List.replicate r pz ++ l.drop (k + r) := by
          unfold layF
          rw [show pz :: List.replicate (r - 1) pz = List.replicate (r - 1 + 1) pz from rfl, show r - 1 + 1 = r by omega]
        rw [e]
        exact h2)
      have hkr : k + r ≤ q := r3
      clear HG
      generalize giveF l (k : Int) = R at *
      have hcl := HCL.out
      clear r1 r2 r3 hr
      go_enter Tryd.func51, Tryd.ntmps51
      go_wp2_with fail
      refine HTH.out.mono ?_
      rintro e w' ⟨rfl, rfl⟩
      go_wp2
      go_ret
      exact HE.out
    · have HE : Hid (ChgTo W B (.slice (some ⟨g, 0, none⟩) q cap) (giveF l (k : Int)) (.returned (.int .i64 6)) W) := Lib.hid (by
        rw [HG.out, if_pos hk2]
        exact ⟨rfl, Below.refl _ _, fun z => by cases z⟩)
      clear HG
      generalize giveF l (k : Int) = R at *
      go_enter Tryd.func51, Tryd.ntmps51
      go_wp2_with fail
      refine HTH.out.mono ?_
      rintro e w' ⟨rfl, rfl⟩
      go_wp2
      go_ret
      exact HE.out
  · obtain ⟨A, c, hv, hps, hx1⟩ := h.ps
    subst hv
    clear hx1
    have HTH := Lib.hid (there_any A l.length c a W)
    rw [decide_eq_false ha] at HTH
    have HE : Hid (ChgTo W B (.slice A l.length c) (giveF l a) (.returned (.int .i64 6)) W) := Lib.hid (by
      unfold giveF
      rw [if_neg (by rw [hm]; decide), if_pos (fun q => ha ⟨q.1, q.2.1⟩)]
      exact ⟨rfl, Below.refl _ _, fun z => by cases z⟩)
    clear h hps ha hlen64 hm
    generalize giveF l a = R at *
    generalize l.length = q at *
    go_enter Tryd.func51, Tryd.ntmps51
    go_wp2_with fail
    refine HTH.out.mono ?_
    rintro e w' ⟨rfl, rfl⟩
    go_wp2
    go_ret
    exact HE.out
theorem isZ_k0 {p : Pg} (h : oneP p = true) : isZ p = decide (p.k = 0) := by
  rw [Bool.eq_iff_iff, isZ_iff, decide_eq_true_iff]
  rw [oneP_iff] at h
  constructor
  · rintro rfl; rfl
  · intro h0
    rcases h with rfl | rfl | h | h
    · rfl
    · exact absurd h0 (by decide)
    · omega
    · omega
theorem layF_one {l : List Pg} {a : Nat} {p q : Pg} (h : a < l.length) : l.set a p = layF l a 1 p q := by
  unfold layF
  rw [List.set_eq_take_append_cons_drop, if_pos h]
  simp
theorem turnF_is {l : List Pg} {a : Nat} {c : Int} (hm : mayL l = true) (ha : a < l.length) : turnF l (a : Int) c = (if (turnP (pg l a) c).2 = 0 then (0, layF l a 1 (turnP (pg l a) c).1 pz) else ((turnP (pg l a) c).2.toNat, [])) := by
  have ho := all_at (mayL_iff.1 hm).2.1 ha
  unfold turnF turnP
  rw [if_neg (by rw [hm]; decide), if_neg (fun q => q ⟨by omega, by omega⟩), Int.toNat_natCast]
  by_cases hc : c = -1
  · rw [if_pos hc, if_pos hc]
    by_cases h1 : (pg l a).k = 1
    · rw [if_neg (fun q => q h1), if_pos h1]; rfl
    · rw [if_pos h1, if_neg h1]; rfl
  · rw [if_neg hc, if_neg hc]
    by_cases h8 : 0 ≤ c ∧ c < 8
    · have n8 : ¬ ¬ (0 ≤ c ∧ c < 8) := fun q => q h8
      rw [if_neg n8, if_neg n8, isZ_k0 ho]
      by_cases h0 : (pg l a).k = 0
      · have n0 : ¬ ¬ (pg l a).k = 0 := fun q => q h0
        rw [if_neg n0, decide_eq_true h0]; rfl
      · rw [if_pos h0, decide_eq_false h0]; rfl
    · rw [if_pos h8, if_pos h8]; rfl
theorem turnP_nn (p : Pg) (c : Int) : 0 ≤ (turnP p c).2 := by
  unfold turnP; split
  · split <;> simp
  · split
    · simp
    · split <;> simp
set_option maxHeartbeats 4000000 in
theorem turn_any (B n : Nat) (v : Value) (l : List Pg) (a c : Int) (W : World) (h : OwnP W B OT v l) (hS : SZ W) (hm : mayL l = true) (hB : B ≤ W.heap.size) :
    Calls Tryd.prog 54 #[v, .int .i64 a, .int .i64 c] W (ChgTo W B v (turnF l a c)) := by
  have hlen64 := (mayL_iff.1 hm).1
  by_cases ha : 0 ≤ a ∧ a < (l.length : Int)
  · have hl0 : 0 < l.length := by omega
    obtain ⟨g, cap, rfl, hg1, hg2, hcap, hcap2⟩ := h.blk hl0
    obtain ⟨A, c', hv, hps, hx1⟩ := h.ps
    cases hv
    clear hx1
    obtain ⟨k, rfl⟩ : ∃ k : Nat, a = (k : Int) := ⟨a.toNat, by omega⟩
    have hk : k < l.length := by omega
    have HTH := Lib.hid (there_any (some ⟨g, 0, none⟩) l.length cap (k : Int) W)
    rw [decide_eq_true ha] at HTH
    obtain ⟨b, o, e, hx2, hcell⟩ := hps.at_ hl0
    clear hx2
    cases e
    have hp := hcell k hk
    rw [Nat.zero_add] at hp
    obtain ⟨p, hpe⟩ : ∃ p, p = pg l k := ⟨_, rfl⟩
    have HG := Lib.hid (turnF_is (c := c) hm hk)
    rw [← hpe] at hp HG
    obtain ⟨c0, c1, c2, c3, c4⟩ := hp
    have HOW := Lib.hid h
    have HTD := Lib.hid (turned_any p c W hS)
    obtain ⟨p2, hp2⟩ : ∃ p2, p2 = (turnP p c).1 := ⟨_, rfl⟩
    obtain ⟨e2, he2⟩ : ∃ e2 : Nat, (turnP p c).2 = (e2 : Int) := ⟨(turnP p c).2.toNat, by have := turnP_nn p c; omega⟩
    rw [← hp2, he2] at HTD HG
    have HK := Lib.hid hk
    obtain ⟨q, hq⟩ : ∃ q, q = l.length := ⟨_, rfl⟩
    rw [← hq] at HTH hcap hlen64 hk ⊢
    have HQ := Lib.hid hq
    have HE : Hid (∀ w', Below W.heap.size W w' → ChgTo W B (.slice (some ⟨g, 0, none⟩) q cap) (turnF l (k : Int) c) (.returned (.int .i64 (e2 : Int))) ((w'.alloc (.cells #[.int .i64 p2.k, .int .i64 p2.c, .int .i64 p2.r, .int .i64 p2.s, .int .u64 p2.n] OT)).setCells g (k * 5) p2.cs)) := Lib.hid (fun w' hb => by
      have ho := ((HOW.out.below hb).alloc (.cells #[.int .i64 p2.k, .int .i64 p2.c, .int .i64 p2.r, .int .i64 p2.s, .int .u64 p2.n] OT)).put HK.out p2
      have hbb : Below B W ((w'.alloc (.cells #[.int .i64 p2.k, .int .i64 p2.c, .int .i64 p2.r, .int .i64 p2.s, .int .u64 p2.n] OT)).setCells g (k * 5) p2.cs) := below_setCells g _ _ ((hb.mono hB).trans ((bel_alloc _ _).mono (Nat.le_trans hB hb.size))) hg1
      rw [HG.out]
      by_cases h0 : e2 = 0
      · subst h0
        rw [if_pos (show ((0 : Nat) : Int) = 0 from rfl)]
        rw [layF_one HK.out (q := pz), ← HQ.out] at ho
        exact ⟨rfl, hbb, fun _ => ho⟩
      · rw [if_neg (show ¬ (e2 : Int) = 0 by omega)]
        exact ⟨by rw [Int.toNat_natCast], hbb, fun z => absurd z (by rw [Int.toNat_natCast]; exact h0)⟩)
    have HTR : Hid (∀ w', Below W.heap.size W w' → (w'.alloc (.cells #[.int .i64 p2.k, .int .i64 p2.c, .int .i64 p2.r, .int .i64 p2.s, .int .u64 p2.n] OT)).there g (k * 5) 5) := Lib.hid (fun w' hb => ((HOW.out.below hb).alloc (.cells #[.int .i64 p2.k, .int .i64 p2.c, .int .i64 p2.r, .int .i64 p2.s, .int .u64 p2.n] OT)).there HK.out)
    have HSZ := Lib.hid sz5_o
    clear hpe hcell hps h hm ha hl0 hq he2 hp2 hS HG
    generalize turnF l (k : Int) c = R at *
    go_enter Tryd.func54, Tryd.ntmps54
    go_wp2_with fail
    refine HTH.out.mono ?_
    rintro e w' ⟨rfl, rfl⟩
    go_wp2_with fail
    refine HTD.out.mono ?_
    rintro e w' ⟨rfl, hb⟩
    have HE2 := Lib.hid (HE.out w' hb)
    have HT2 := Lib.hid (HTR.out w' hb)
    have hg3 : g < w'.heap.size := Nat.lt_of_lt_of_le hg2 hb.size
    clear hb c0 c1 c2 c3 c4
    go_wp2_with (with_reducible refine wpList_storeP HSZ.out rfl (.tmp 25) (.tmp 24) rfl g (k * 5) p2 rfl rfl HT2.out ?_)
    go_ret
    exact HE2.out
  · obtain ⟨A, c', hv, hps, hx1⟩ := h.ps
    subst hv
    clear hx1
    have HTH := Lib.hid (there_any A l.length c' a W)
    rw [decide_eq_false ha] at HTH
    have HE : Hid (ChgTo W B (.slice A l.length c') (turnF l a c) (.returned (.int .i64 3)) W) := Lib.hid (by
      unfold turnF
      rw [if_neg (by rw [hm]; decide), if_pos ha]
      exact ⟨rfl, Below.refl _ _, fun z => by cases z⟩)
    clear h hps ha hlen64 hm hS
    generalize turnF l a c = R at *
    generalize l.length = q at *
    go_enter Tryd.func54, Tryd.ntmps54
    go_wp2_with fail
    refine HTH.out.mono ?_
    rintro e w' ⟨rfl, rfl⟩
    go_wp2
    go_ret
    exact HE.out
end Go.Proofs.YtajgbflmfopfoaaDoor
