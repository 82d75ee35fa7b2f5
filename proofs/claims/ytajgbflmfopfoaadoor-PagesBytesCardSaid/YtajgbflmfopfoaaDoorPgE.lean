/-
  The document's Free, First, Lay; the program's Runs, First.
-/
import Derived.Test.YtajgbflmfopfoaaDoorPgD
namespace Go.Proofs.YtajgbflmfopfoaaDoor
open Go.RowKit Go
set_option linter.unusedVariables false
set_option linter.unusedSimpArgs false
set_option maxRecDepth 100000
theorem free_all {l : List Pg} {a m : Nat} (hl : a + m ≤ l.length) (h : ∀ i, a ≤ i → i < a + m → isZ (pg l i) = true) : freeN l a m = true := freeN_iff.2 ⟨hl, h⟩
set_option maxHeartbeats 4000000 in
theorem rfree_any (A : Option Addr) (n c a m : Nat) (l : List Pg) (w : World) (h : PS w A n c l) (ha : a ≤ n) (hn : n < 1000000) (hm : m ≤ 1000000000000000000) :
    Calls Tryd.prog 46 #[.slice A n c, .int .i64 (a : Int), .int .i64 (m : Int)] w fun e w' => e = .returned (.bool (freeN l a m)) ∧ w = w' := by
  have HP := Lib.hid h
  have hln := h.len
  have HLN := Lib.hid hln
  have hcn := h.cap
  have hcm := h.capm
  clear h hln
  obtain ⟨t, ht⟩ : ∃ t : Nat, (a : Int) + (m : Int) = (t : Int) := ⟨a + m, by omega⟩
  have HT : Hid (t = a + m) := Lib.hid (by omega)
  have hat : a ≤ t := by omega
  have htm : t ≤ 2000000000000000000 := by omega
  go_enter Tryd.func46, Tryd.ntmps46
  go_wp2
  go_loopw [7] (fun v W => (∃ k : Nat, v = .int .i64 (k : Int) ∧ a ≤ k ∧ k ≤ n ∧ k ≤ t ∧ ∀ i, a ≤ i → i < k → isZ (pg l i) = true) ∧ w = W) (fun v _ => t - (intOf v).toNat)
  case atStart => exact ⟨⟨a, rfl, Nat.le_refl _, ha, hat, fun i h1 h2 => by omega⟩, rfl⟩
  case round =>
    obtain ⟨⟨k, rfl, hak, hk, hkt, hal⟩, rfl⟩ := hrel
    have HAL := Lib.hid hal
    clear hal
    have hk0 : ¬ (k : Int) < 0 := by omega
    by_cases hlt : k < t
    · have hltI : (k : Int) < (t : Int) := by omega
      by_cases hkn : k < n
      · have hknI : ¬ (n : Int) ≤ (k : Int) := by omega
        obtain ⟨b, o, rfl, hb0, hcell⟩ := HP.out.cells (by omega)
        have hp := (hcell _ (Below.refl _ _)).2 k hkn
        obtain ⟨p, hpe⟩ : ∃ p, p = pg l k := ⟨_, rfl⟩
        rw [← hpe] at hp
        have HPE := Lib.hid hpe
        obtain ⟨c0, c1, c2, c3, c4⟩ := hp
        clear hpe hcell
        by_cases hz : isZ p = true
        · obtain rfl := isZ_iff.1 hz
          dsimp only [pz] at c0 c1 c2 c3 c4
          go_wp2
          go_roundw
          case rel =>
            refine ⟨⟨k + 1, by go_num, by omega, by omega, by omega, fun i h1 h2 => ?_⟩, by trivial⟩
            by_cases e : i = k
            · subst e; rw [← HPE.out]; rfl
            · exact HAL.out i h1 (by omega)
          case measure => simp [intOf]; omega
        · have HZ : Hid (freeN l a m = false) := Lib.hid (freeN_no (k := k) hak (by have := HT.out; omega) (fun _ => by show isZ (pg l k) = false; rw [← HPE.out]; simpa using hz))
          have HNZ := Lib.hid hz
          clear hz
          go_wp2
          all_goals first
            | (exfalso; exact HNZ.out (isZ_iff.2 (Pg.ext' (by assumption) (by assumption) (by assumption) (by assumption) (by assumption))))
            | (go_ret; exact ⟨retb HZ.out.symm, rfl⟩)
      · have hknI : (n : Int) ≤ (k : Int) := by omega
        have HZ : Hid (freeN l a m = false) := Lib.hid (freeN_no (k := k) hak (by have := HT.out; omega) (fun q => by rw [HLN.out] at q; omega))
        go_wp2
        go_ret
        exact ⟨retb HZ.out.symm, rfl⟩
    · have hltI : ¬ (k : Int) < (t : Int) := by omega
      have HZ : Hid (freeN l a m = true) := Lib.hid (free_all (by rw [HLN.out]; have := HT.out; omega) (fun i h1 h2 => HAL.out i h1 (by have := HT.out; omega)))
      go_wp2
      go_ret
      exact ⟨retb HZ.out.symm, rfl⟩
set_option maxHeartbeats 2000000 in
theorem rfirst_any (A : Option Addr) (n c : Nat) (m : Int) (l : List Pg) (w : World) (h : PS w A n c l) (hn : n < 1000000) (hm : m ≤ 1000000000000000000) :
    Calls Tryd.prog 24 #[.slice A n c, .int .i64 m] w fun e w' => e = .returned (.int .i64 (firstI l m 0)) ∧ w = w' := by
  have HP := Lib.hid h
  have hln := h.len
  have HLN := Lib.hid hln
  have hcn := h.cap
  have hcm := h.capm
  clear h hln
  go_enter Tryd.func24, Tryd.ntmps24
  go_wp2
  go_loopw [8] (fun v W => (∃ k : Nat, v = .int .i64 (k : Int) ∧ k ≤ n ∧ firstI l m k = firstI l m 0) ∧ w = W) (fun v _ => n - (intOf v).toNat)
  case atStart => exact ⟨⟨0, rfl, Nat.zero_le _, rfl⟩, rfl⟩
  case round =>
    obtain ⟨⟨k, rfl, hk, hf⟩, rfl⟩ := hrel
    have HF := Lib.hid hf
    clear hf
    by_cases hlt : k < n
    · by_cases hm0 : 0 < m
      · obtain ⟨q, hq⟩ : ∃ q : Nat, m = (q : Int) := ⟨m.toNat, by omega⟩
        subst hq
        have HC := Lib.hid (rfree_any A n c k q l w HP.out (by omega) hn (by omega))
        obtain ⟨x, hx⟩ : ∃ x, x = freeN l k q := ⟨_, rfl⟩
        rw [← hx] at HC
        have HX := Lib.hid hx
        clear hx
        cases x
        · have HNX : Hid (firstI l (q : Int) k = firstI l (q : Int) (k + 1)) := Lib.hid (firstI_no l _ (by rw [HLN.out]; exact hlt) (fun _ => HX.out.symm))
          go_wp2_with fail
          refine HC.out.mono ?_
          rintro e w' ⟨rfl, rfl⟩
          go_wp2
          go_roundw
          case rel => exact ⟨⟨k + 1, by go_num, by omega, by rw [← HNX.out]; exact HF.out⟩, by trivial⟩
          case measure => simp [intOf]; omega
        · have HNX : Hid (firstI l (q : Int) k = (k : Int)) := Lib.hid (firstI_yes l _ (by rw [HLN.out]; exact hlt) hm0 HX.out.symm)
          go_wp2_with fail
          refine HC.out.mono ?_
          rintro e w' ⟨rfl, rfl⟩
          go_wp2
          go_ret
          refine ⟨?_, rfl⟩
          rw [← HF.out, HNX.out]; rfl
      · have HNX : Hid (firstI l m k = firstI l m (k + 1)) := Lib.hid (firstI_no l _ (by rw [HLN.out]; exact hlt) (fun h => absurd h hm0))
        go_wp2
        go_roundw
        case rel => exact ⟨⟨k + 1, by go_num, by omega, by rw [← HNX.out]; exact HF.out⟩, by trivial⟩
        case measure => simp [intOf]; omega
    · have HZ : Hid (firstI l m 0 = -1) := Lib.hid (by rw [← HF.out]; exact firstI_end l m (by rw [HLN.out]; omega))
      go_wp2
      go_ret
      refine ⟨?_, rfl⟩
      rw [HZ.out]; rfl
/-! a row of the call's own is written into -/
theorem OwnP.put {W : World} {B g n cap : Nat} {E : TypeId} {xs : List Pg} (h : OwnP W B E (.slice (some ⟨g, 0, none⟩) n cap) xs) {i : Nat} (hi : i < xs.length) (p : Pg) : OwnP (W.setCells g (i * 5) p.cs) B E (.slice (some ⟨g, 0, none⟩) n cap) (xs.set i p) := by
  obtain ⟨h1, ⟨hv, h0⟩ | ⟨g', cap', cur, hv, hg, hh, hn, hm, hs, ht⟩⟩ := h
  · cases hv
  · cases hv
    have hH : (W.setCells g (i * 5) p.cs).heap[g]? = some (.cells (((((cur.setIfInBounds (i * 5) (.int .i64 p.k)).setIfInBounds (i * 5 + 1) (.int .i64 p.c)).setIfInBounds (i * 5 + 2) (.int .i64 p.r)).setIfInBounds (i * 5 + 3) (.int .i64 p.s)).setIfInBounds (i * 5 + 4) (.int .u64 p.n)) E (0, 0)) := blk_set (blk_set (blk_set (blk_set (blk_set hh _ _) _ _) _ _) _ _) _ _
    unfold OwnP
    rw [List.length_set]
    refine ⟨by rw [flatP_len, List.length_set], .inr ⟨g, cap, _, rfl, hg, hH, hn, hm, by simp [hs], ?_⟩⟩
    refine flatP_ext (by simp; omega) (fun q j hq hj => ?_)
    rw [List.length_set] at hq
    have h2 := flatP_get xs q j hq hj
    rw [← ht, List.getElem?_take_of_lt (by omega)] at h2
    rw [List.getElem?_take_of_lt (by omega)]
    simp only [Array.toList_setIfInBounds, List.getElem?_set, Array.length_toList, List.length_set]
    by_cases hqi : q = i
    · subst hqi
      have e : pg (xs.set q p) q = p := by simp [List.getD_eq_getElem?_getD, hq]
      rw [e]
      rcases (by omega : j = 0 ∨ j = 1 ∨ j = 2 ∨ j = 3 ∨ j = 4) with rfl | rfl | rfl | rfl | rfl
      · rw [if_neg (by omega), if_neg (by omega), if_neg (by omega), if_neg (by omega), if_pos (by omega), if_pos (by omega)]; rfl
      · rw [if_neg (by omega), if_neg (by omega), if_neg (by omega), if_pos (by omega), if_pos (by omega)]; rfl
      · rw [if_neg (by omega), if_neg (by omega), if_pos (by omega), if_pos (by omega)]; rfl
      · rw [if_neg (by omega), if_pos (by omega), if_pos (by omega)]; rfl
      · rw [if_pos (by omega), if_pos (by omega)]; rfl
    · have e : pg (xs.set i p) q = pg xs q := by
        simp only [List.getD_eq_getElem?_getD, List.getElem?_set]
        rw [if_neg (fun h => hqi h.symm)]
      rw [e, if_neg (by omega), if_neg (by omega), if_neg (by omega), if_neg (by omega), if_neg (by omega), h2]
theorem OwnP.there {W : World} {B g n cap : Nat} {E : TypeId} {xs : List Pg} (h : OwnP W B E (.slice (some ⟨g, 0, none⟩) n cap) xs) {i : Nat} (hi : i < xs.length) : W.there g (i * 5) 5 := by
  obtain ⟨h1, ⟨hv, h0⟩ | ⟨g', cap', cur, hv, hg, hh, hn, hm, hs, ht⟩⟩ := h
  · cases hv
  · cases hv
    have hl : i * 5 + 5 ≤ cap * 5 := by omega
    intro j hj
    refine ⟨?_, blk_free hh _⟩
    rw [blk_cell hh, Array.getElem?_eq_getElem (by omega)]; rfl
theorem OwnP.blk {W : World} {B : Nat} {E : TypeId} {v : Value} {xs : List Pg} (h : OwnP W B E v xs) (h0 : 0 < xs.length) : ∃ g cap, v = .slice (some ⟨g, 0, none⟩) xs.length cap ∧ B ≤ g ∧ g < W.heap.size ∧ xs.length ≤ cap ∧ cap ≤ 9223372036854775807 := by
  obtain ⟨h1, ⟨hv, h0'⟩ | ⟨g', cap', cur, hv, hg, hh, hn, hm, hs, ht⟩⟩ := h
  · omega
  · exact ⟨g', cap', hv, hg, blk_lt hh, hn, by unfold maxLen at hm; omega⟩
/-- the first pages from a on became q -/
def layK (l : List Pg) (a k : Nat) (q : Pg) : List Pg := l.take a ++ List.replicate (k - a) q ++ l.drop k
theorem layK_len {l : List Pg} {a k : Nat} {q : Pg} (h1 : a ≤ k) (h2 : k ≤ l.length) : (layK l a k q).length = l.length := by unfold layK; simp; omega
theorem layK_zero (l : List Pg) (a : Nat) (q : Pg) : layK l a a q = l := by unfold layK; simp
theorem layK_step {l : List Pg} {a k : Nat} {q : Pg} (h1 : a ≤ k) (h2 : k < l.length) : (layK l a k q).set k q = layK l a (k + 1) q := by
  unfold layK
  have e : (l.take a ++ List.replicate (k - a) q).length = k := by simp; omega
  rw [List.set_append_right _ _ (by omega), e, Nat.sub_self, drop_at h2, List.set_cons_zero, show k + 1 - a = k - a + 1 by omega, List.replicate_succ', List.append_assoc, List.append_assoc, List.append_assoc]
  rfl
theorem layK_end {l : List Pg} {a m : Nat} {p q : Pg} (h : a + m ≤ l.length) (h1 : 1 ≤ m) : (layK l a (a + m) q).set a p = layF l a m p q := by
  unfold layK layF
  have e : (l.take a).length = a := by rw [List.length_take]; omega
  rw [List.append_assoc, List.set_append_right _ _ (by omega), e, Nat.sub_self, show a + m - a = m - 1 + 1 by omega, List.replicate_succ, List.append_assoc]
  rfl
theorem one5 (p : Pg) : (#[Value.int .i64 p.k, Value.int .i64 p.c, Value.int .i64 p.r, Value.int .i64 p.s, Value.int .u64 p.n] : Array Value).all (·.oneCell') = true := all_oneCell_toArray (cs_one p)
theorem wpList_storeP {E : TypeId} (hsz : (Tryd.prog.info? E).map (·.size) = some 5) {ops : Array Oper} {rest : List Oper} {op : Oper} {a : Act} {w : World} {Q : Exit → Act → World → Prop} (hgd : op.guard = none) (x y : Operand) (ho : op.op = .store E x y)
    (b o : Nat) (p : Pg) (hx : a.eval x = .pointer (some ⟨b, o, none⟩)) (hy : a.eval y = .agg #[.int .i64 p.k, .int .i64 p.c, .int .i64 p.r, .int .i64 p.s, .int .u64 p.n]) (ht : w.there b o 5)
    (h : wpList Tryd.prog ops Q rest (a.put op.dst undef) (w.setCells b o p.cs)) : wpList Tryd.prog ops Q (op :: rest) a w :=
  wpList_store_mid hgd E x y ho b o _ hx hy ht hsz (one5 p) h
theorem sz5_r : (Tryd.prog.info? RT).map (·.size) = some 5 := by kernel_rfl
theorem sz5_o : (Tryd.prog.info? OT).map (·.size) = some 5 := by kernel_rfl
set_option maxHeartbeats 4000000 in
theorem rlay_any (A : Option Addr) (n c a m : Nat) (p q : Pg) (l : List Pg) (w : World) (h : PS w A n c l) (ha : a + m ≤ n) (h1 : 1 ≤ m) (hn : n < 1000000) :
    Calls Tryd.prog 52 #[.slice A n c, .int .i64 (a : Int), .int .i64 (m : Int), p.val, q.val] w (CopyTo w (layF l a m p q)) := by
  obtain ⟨W2, hW2⟩ : ∃ W2, W2 = (w.alloc (.cells #[.int .i64 p.k, .int .i64 p.c, .int .i64 p.r, .int .i64 p.s, .int .u64 p.n] RT)).alloc (.cells #[.int .i64 q.k, .int .i64 q.c, .int .i64 q.r, .int .i64 q.s, .int .u64 q.n] RT) := ⟨_, rfl⟩
  have e1 : (w.alloc (.cells #[.int .i64 p.k, .int .i64 p.c, .int .i64 p.r, .int .i64 p.s, .int .u64 p.n] RT)).heap.size = w.heap.size + 1 := by simp
  have e2 : W2.heap.size = w.heap.size + 2 := by rw [hW2]; simp
  have HB2 : Hid (Below w.heap.size w W2) := Lib.hid (by rw [hW2]; exact (bel_alloc _ _).trans ((bel_alloc _ _).mono (by omega)))
  have hbp : W2.heap[w.heap.size]? = some (.cells #[.int .i64 p.k, .int .i64 p.c, .int .i64 p.r, .int .i64 p.s, .int .u64 p.n] RT (0, 0)) := by rw [hW2]; exact blk_alloc (heap_alloc_new _ _) _
  have hbq : W2.heap[w.heap.size + 1]? = some (.cells #[.int .i64 q.k, .int .i64 q.c, .int .i64 q.r, .int .i64 q.s, .int .u64 q.n] RT (0, 0)) := by rw [hW2, ← e1]; exact heap_alloc_new _ _
  have HBP := Lib.hid hbp
  have HBQ := Lib.hid hbq
  have HO : Hid (OwnP (W2.alloc (.cells #[] RT)) (w.heap.size + 2) RT (.slice (some ⟨w.heap.size + 1 + 1, 0, none⟩) 0 0) []) := Lib.hid (by have := OwnP.empty W2 (w.heap.size + 2) RT (by omega); rw [e2] at this; exact this)
  have HPA : Hid (PS (W2.alloc (.cells #[] RT)) A n c l) := Lib.hid ((h.below HB2.out).below (bel_alloc W2 (.cells #[] RT)))
  have HS2 : Hid (w.heap.size + 2 ≤ (W2.alloc (.cells #[] RT)).heap.size) := Lib.hid (by simp; omega)
  have HBA : Hid (Below (w.heap.size + 2) W2 (W2.alloc (.cells #[] RT))) := Lib.hid ((bel_alloc _ _).mono (by omega))
  have HW2 := Lib.hid hW2
  have HE2 := Lib.hid e2
  have hln := h.len
  have HLN := Lib.hid hln
  have hcn := h.cap
  have hcm := h.capm
  obtain ⟨t, ht⟩ : ∃ t : Nat, (a : Int) + (m : Int) = (t : Int) := ⟨a + m, by omega⟩
  have HT : Hid (t = a + m) := Lib.hid (by omega)
  have HM1 := Lib.hid h1
  have hat : a < t := by omega
  have htn : t ≤ n := by omega
  have hn0 : 0 < n := by omega
  have HG : Hid (∀ W v, OwnP W (w.heap.size + 2) RT v l → Below (w.heap.size + 2) (W2.alloc (.cells #[] RT)) W → ∃ g cap, v = .slice (some ⟨g, 0, none⟩) n cap ∧ w.heap.size + 2 ≤ g ∧ n ≤ cap ∧ cap ≤ 9223372036854775807 ∧ Below (w.heap.size + 2) W2 W) := Lib.hid (fun W v ho hb => by
    obtain ⟨g, cap, k1, k2, k3, k4, k5⟩ := ho.blk (by omega)
    rw [HLN.out] at k1 k4
    exact ⟨g, cap, k1, k2, k4, k5, HBA.out.trans hb⟩)
  have HBX : Hid (∀ W, Below (w.heap.size + 2) W2 W → W.heap[w.heap.size]? = some (.cells #[.int .i64 p.k, .int .i64 p.c, .int .i64 p.r, .int .i64 p.s, .int .u64 p.n] RT (0, 0)) ∧ W.heap[w.heap.size + 1]? = some (.cells #[.int .i64 q.k, .int .i64 q.c, .int .i64 q.r, .int .i64 q.s, .int .u64 q.n] RT (0, 0)) ∧ Below w.heap.size w W) := Lib.hid (fun W hb =>
    ⟨(hb.block _ (by omega)).trans HBP.out, (hb.block _ (by omega)).trans HBQ.out, HB2.out.trans (hb.mono (by omega))⟩)
  have HSZ := Lib.hid sz5_r
  clear h hln e1 e2 hbp hbq ha h1 HBP HBQ HB2 HBA
  rw [hW2] at HO HPA HS2
  clear hW2
  go_enter Tryd.func52, Tryd.ntmps52
  go_wp2_with (at_builtin; refine wp_appsP kdR _ rfl (.tmp 13) (.tmp 14) rfl (w.heap.size + 2) _ [] rfl HO.out _ n c l rfl HPA.out (by simp; omega) HS2.out ?_; intro v1 w1 hown1 hb1; rw [← HW2.out] at hb1; have HOW1 := Lib.hid hown1; obtain ⟨g, cap, rfl, hg, hcap1, hcap2, hb2⟩ := HG.out w1 v1 hown1 hb1; have HBB := Lib.hid hb2; clear hown1 hb1 hb2)
  go_loopw [12] (fun v W => ∃ k : Nat, v = .int .i64 (k : Int) ∧ a ≤ k ∧ k ≤ t ∧ OwnP W (w.heap.size + 2) RT (.slice (some ⟨g, 0, none⟩) n cap) (layK l a k q) ∧ Below (w.heap.size + 2) W2 W) (fun v _ => t - (intOf v).toNat)
  case atStart => exact ⟨a, rfl, Nat.le_refl _, by omega, by rw [layK_zero]; exact HOW1.out, HBB.out⟩
  case round =>
    obtain ⟨k, rfl, hak, hkt, hown, hb⟩ := hrel
    have HOW := Lib.hid hown
    have HB := Lib.hid hb
    clear hown hb
    obtain ⟨q1, q2, q3⟩ := HBX.out _ HB.out
    have HB0 := Lib.hid q3
    by_cases hlt : k < t
    · have hltI : (k : Int) < (t : Int) := by omega
      have hkn : k < n := by omega
      obtain ⟨c0, c1, c2, c3, c4⟩ := five q2
      have HTH := Lib.hid (HOW.out.there (i := k) (by rw [layK_len hak (by rw [HLN.out]; omega), HLN.out]; exact hkn))
      have HPU : Hid (OwnP (wr.setCells g (k * 5) q.cs) (w.heap.size + 2) RT (.slice (some ⟨g, 0, none⟩) n cap) (layK l a (k + 1) q)) := Lib.hid (by
        have := HOW.out.put (i := k) (by rw [layK_len hak (by rw [HLN.out]; omega), HLN.out]; exact hkn) q
        rw [layK_step hak (by rw [HLN.out]; exact hkn)] at this
        exact this)
      have HBN : Hid (Below (w.heap.size + 2) W2 (wr.setCells g (k * 5) q.cs)) := Lib.hid (below_setCells g _ _ HB.out hg)
      clear q1 q2 q3
      go_wp2_with (with_reducible refine wpList_storeP HSZ.out rfl (.tmp 27) (.tmp 26) rfl g (k * 5) q rfl rfl HTH.out ?_)
      go_roundw
      case rel => exact ⟨k + 1, by go_num, by omega, by omega, HPU.out, HBN.out⟩
      case measure => simp [intOf]; omega
    · obtain rfl : k = t := by omega
      have hltI : ¬ (k : Int) < (k : Int) := by omega
      obtain ⟨c0, c1, c2, c3, c4⟩ := five q1
      have han : a < n := by omega
      have HTH := Lib.hid (HOW.out.there (i := a) (by rw [layK_len hak (by rw [HLN.out]; omega), HLN.out]; exact han))
      have HE : Hid (CopyTo w (layF l a m p q) (.returned (.slice (some ⟨g, 0, none⟩) n cap)) (wr.setCells g (a * 5) p.cs)) := Lib.hid (by
        have h2 := HOW.out.put (i := a) (by rw [layK_len hak (by rw [HLN.out]; omega), HLN.out]; exact han) p
        rw [HT.out, layK_end (by rw [HLN.out, ← HT.out]; exact htn) HM1.out] at h2
        obtain ⟨A', c', hv, g1, g2⟩ := h2.ps
        refine ⟨A', c', by rw [hv], g1, fun ad e => Nat.le_trans (by omega) (g2 ad e), below_setCells g _ _ HB0.out (by omega)⟩)
      clear q1 q2 q3
      go_wp2_with (with_reducible refine wpList_storeP HSZ.out rfl (.tmp 31) (.tmp 30) rfl g (a * 5) p rfl rfl HTH.out ?_)
      go_ret
      exact HE.out
end Go.Proofs.YtajgbflmfopfoaaDoor
