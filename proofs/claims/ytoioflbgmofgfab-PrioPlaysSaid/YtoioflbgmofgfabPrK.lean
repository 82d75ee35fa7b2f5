/-
  PrioSorts' walk.
-/
import Derived.Test.YtoioflbgmofgfabPrJ
namespace Go.Proofs.Ytoioflbgmofgfab
open Go.RowKit Go
set_option linter.unusedVariables false
set_option linter.unusedSimpArgs false
theorem neq_th (a b : Int) (w : World) : (binOp .neq ThT (.agg #[.int .i64 a, .int .i64 b]) (.agg #[.int .i64 a, .int .i64 b])).run Try.prog w = .ok (.bool false) w := by
  go_simp
theorem popsL_get (m : Nat) : ∀ (es : List En) (k : Nat), k < m → (popsL m es).getD k (0, 0) = (popE (restL k es)).pr := by
  induction m with
  | zero => intro es k h; omega
  | succ m ih =>
    intro es k h
    cases k with
    | zero => rfl
    | succ k => show (popsL m (popF es)).getD k (0, 0) = _; rw [ih (popF es) k (by omega)]; rfl
theorem restL_heap (k : Nat) : ∀ es : List En, Heap es es.length → k ≤ es.length → Heap (restL k es) (restL k es).length := by
  induction k with
  | zero => intro es h _; exact h
  | succ k ih =>
    intro es h hk
    exact ih (popF es) (pop_heap es h (by omega)).1 (by rw [popF_len]; omega)
theorem pops_up {es : List En} (h : Heap es es.length) {k1 : Nat} (hk : k1 + 1 < es.length) : (popE (restL k1 es)).n ≤ (popE (restL (k1 + 1) es)).n := by
  have h1 := restL_heap k1 es h (by omega)
  have hl := restL_len k1 es
  obtain ⟨h2, h3, h4⟩ := half_pop h1 (by omega)
  have hr : restL (k1 + 1) es = popF (restL k1 es) := restL_succ k1 es
  have hl2 : (popF (restL k1 es)).length = es.length - (k1 + 1) := by rw [← hr, restL_len]
  have h5 := (half_pop h2 (by omega)).2.1
  rw [hr]
  exact (h4 _ h5).2
def SoR (w : World) (es0 : List En) (A4 : Option Addr) (m c4 : Nat) (P : List (Int × Int)) (wv i : Value) (W : World) : Prop :=
  ∃ (k : Nat) (ws : List En) (Aw : Option Addr) (cw : Nat), i = .int .i64 (k : Int) ∧ wv = .slice Aw ws.length cw ∧ k + ws.length = m ∧ QI (restL k es0) ws ∧ TS W Aw ws.length cw (ws.map En.pr) ∧ TS W A4 m c4 P ∧ Below w.heap.size w W
set_option maxHeartbeats 2000000 in
set_option maxRecDepth 100000 in
theorem sorts_1 (A : Option Addr) (n c : Nat) (l : List (Int × Int)) (w : World) (h : TS w A n c l) (hn : n ≤ 60) :
    Calls Try.prog 5 #[.slice A n c] w fun e w' => e = .returned (.bool true) ∧ Below w.heap.size w w' := by
  have HNW := Lib.hid (newq_any w)
  have HTS := Lib.hid h
  have HLN := Lib.hid h.len
  have hcap := h.cap
  have HAB : Hid (0 < n → ∀ ad, A = some ad → ad.block ≠ w.heap.size) := Lib.hid (fun h0 ad had => by
    obtain ⟨b, o, e, hb, _⟩ := h.at_ h0
    rw [e] at had; injection had with had; subst had; show b ≠ _; omega)
  clear h
  go_enter Try.func5, Try.ntmps5
  go_wp2_with fail
  refine HNW.out.mono ?_
  rintro e w1 ⟨rfl, hq1, hb1⟩
  have HPU := Lib.hid (push_any w.heap.size 0 n c A _ [] l w1 hq1 (HTS.out.below hb1) (fun h0 ad had => ⟨fun e => (HAB.out h0 ad had) (by omega), by simp [Value.ownBlock]⟩) (by simp only [List.length_nil]; omega) (by omega))
  have HB1 := Lib.hid hb1
  clear hq1 hb1
  go_wp2_with fail
  refine HPU.out.mono ?_
  rintro e w2 ⟨rfl, hq2⟩
  have HB2 : Hid (Below w.heap.size w w2) := Lib.hid (HB1.out.trans (hq2.below (B := w.heap.size) (Nat.le_refl _) (fun j q => by simp [Value.ownBlock] at q) HB1.out.size))
  obtain ⟨hqi, _⟩ := QI.push QI.nil 0 (fun _ h => by cases h) l
  rw [List.nil_append] at hqi
  have hel : (ents 0 l).length = l.length := by have := congrArg List.length (ents_pr l 0); simpa using this
  have hpl : (pushN [] 0 l).length = n := by rw [hqi.len, hel, HLN.out]
  obtain ⟨v2, hv2⟩ := hq2.qu_
  have HGB : Hid (∀ j, v2.ownBlock = some j → w.heap.size ≤ j) := Lib.hid (fun j q => by have := (hv2.own.lt j q).1; omega)
  have HAL := Lib.hid (all_any w.heap.size _ v2 _ w2 hv2 (by omega))
  have HQI := Lib.hid hqi
  have HPL := Lib.hid hpl
  clear hq2 hqi hel hpl hv2
  go_wp2_with fail
  refine HAL.out.mono ?_
  rintro e w4 ⟨A4, c4, rfl, hts4, hA4, hq4⟩
  have HB4 : Hid (Below w.heap.size w w4) := Lib.hid (HB2.out.trans (hq4.below (B := w.heap.size) (Nat.le_refl _) HGB.out HB2.out.size))
  obtain ⟨v4, hv4⟩ := hq4.qu_
  have HLQ := Lib.hid (qlen_any w.heap.size _ v4 [] w4 hv4)
  rw [HPL.out] at hts4 ⊢
  have HP4 := Lib.hid hts4
  have hc4 := hts4.cap
  have hc5 := hts4.capm
  have HST : Hid (SoR w (pushN [] 0 l) A4 n c4 (popsL n (pushN [] 0 l)) (.slice A n c) (.int .i64 0) w4) := Lib.hid (by
    have hel : (ents 0 l).length = n := by have := congrArg List.length (ents_pr l 0); rw [List.length_map, HLN.out] at this; exact this
    refine ⟨0, ents 0 l, A, c, rfl, by rw [hel], by omega, HQI.out, ?_, HP4.out, HB4.out⟩
    rw [hel, ents_pr]
    exact (HTS.out.below HB4.out))
  clear hts4 hA4 hq4 hv4
  obtain ⟨P, hP⟩ : ∃ P, popsL n (pushN [] 0 l) = P := ⟨_, rfl⟩
  rw [hP] at HST HP4
  have HPE := Lib.hid hP
  clear hP
  go_wp2_with fail
  refine HLQ.out.mono ?_
  rintro e w5 ⟨rfl, rfl⟩
  go_wp2_with fail
  go_loopw [5, 33] (fun wv i W => SoR w (pushN [] 0 l) A4 n c4 P wv i W) (fun _ i _ => n - (intOf i).toNat)
  case atStart => exact HST.out
  case round =>
    obtain ⟨k, ws, Aw, cw, rfl, rfl, hkm, hqi, htw, ht4, hb⟩ := hrel
    have HQ := Lib.hid hqi
    have HTW := Lib.hid htw
    have HT4 := Lib.hid ht4
    have HB := Lib.hid hb
    have hwc := htw.cap
    have hwm := htw.capm
    obtain ⟨nw, hnw⟩ : ∃ nw, ws.length = nw := ⟨_, rfl⟩
    have HNWL := Lib.hid hnw
    rw [hnw] at HTW hkm hwc ⊢
    clear hqi htw ht4 hb hnw HST
    by_cases hlt : k < n
    · have hnp : 0 < nw := by omega
      obtain ⟨b4, o4, e4, hbw4, hcell4⟩ := HT4.out.at_ (by omega)
      obtain ⟨a, ha, hfl⟩ := leastF_fl (ws.map En.pr) (by rw [List.length_map, HNWL.out]; exact hnp)
      rw [List.length_map, HNWL.out] at ha
      have hla := LeastAt.of_fl HQ.out.sorted hfl
      obtain ⟨hpE, hqi2⟩ := HQ.out.pop hla
      have hal : a < nw := by have := hla.1; rw [HNWL.out] at this; exact this
      obtain ⟨x, hx⟩ : ∃ x, popE (restL k (pushN [] 0 l)) = x := ⟨_, rfl⟩
      have hPk : P.getD k (0, 0) = x.pr := by rw [← HPE.out, popsL_get _ _ _ hlt, hx]
      have hwa : (ws.map En.pr).getD a (0, 0) = x.pr := by rw [getD_pr ws a hla.1, ← hpE, hx]
      have c1 := (hcell4 k hlt).1
      have c2 := (hcell4 k hlt).2
      rw [hPk] at c1 c2
      change wr.cell? ⟨b4, o4 + k * 2, none⟩ = some (.int .i64 x.n) at c1
      change wr.cell? ⟨b4, o4 + k * 2 + 1, none⟩ = some (.int .i64 x.m) at c2
      have HLE := Lib.hid (least_any Aw nw cw (ws.map En.pr) (wr.alloc (.cells #[.int .i64 x.n, .int .i64 x.m] ThT)) (HTW.out.below ((Below.refl _ _).alloc (Nat.le_refl _) _)) (by omega))
      rw [ha] at HLE
      have hal7 := heap_alloc_new wr (.cells #[.int .i64 x.n, .int .i64 x.m] ThT)
      have HQ2 : Hid (QI (restL (k + 1) (pushN [] 0 l)) (ws.eraseIdx a)) := Lib.hid (by rw [restL_succ]; exact hqi2)
      have HWA := Lib.hid hwa
      have HAL7 := Lib.hid hal7
      have HUP : Hid (∀ k1, k = k1 + 1 → (P.getD k1 (0, 0)).1 ≤ x.n) := Lib.hid (fun k1 hk1 => by
        have h0 := (pushN_heap l [] 0 (fun k _ h => by simp at h)).1
        have hl0 := HPL.out
        rw [← HPE.out, popsL_get _ _ _ (by omega), ← hx, hk1]
        exact pops_up h0 (by omega))
      have hneq := neq_th x.n x.m
      subst e4
      clear hcell4 ha hfl hla hpE hqi2 hx hPk hwa hal7
      go_wp2_with fail
      refine HLE.out.mono ?_
      rintro e w6 ⟨rfl, hb6⟩
      have HW6 : Hid (After wr w6) := Lib.hid ((Below.refl _ _).alloc (Nat.le_refl _) _ |>.trans (hb6.mono (by simp)))
      have d7 : w6.heap[wr.heap.size]? = some (.cells #[.int .i64 x.n, .int .i64 x.m] ThT) := (hb6.block _ (by simp)).trans HAL7.out
      have c70 := blk_cell d7 0
      have c71 := blk_cell d7 1
      have HTW6 := Lib.hid (HTW.out.below HW6.out)
      have HT46 := Lib.hid (HT4.out.below HW6.out)
      have HB6 : Hid (Below w.heap.size w w6) := Lib.hid (HB.out.trans (Below.mono HW6.out HB.out.size))
      obtain ⟨bw, ow, ew, hbw, hcw⟩ := HTW6.out.at_ hnp
      have ca := (hcw a hal).1
      have cb := (hcw a hal).2
      rw [HWA.out] at ca cb
      change w6.cell? ⟨bw, ow + a * 2, none⟩ = some (.int .i64 x.n) at ca
      change w6.cell? ⟨bw, ow + a * 2 + 1, none⟩ = some (.int .i64 x.m) at cb
      have HCT := Lib.hid (fun q => cut_any Aw nw cw a (ws.map En.pr) (w6.drewN q) (HTW6.out.drewN q) (by omega) hal)
      subst ew
      clear hb6 d7 hcw
      rcases Nat.eq_zero_or_pos k with h0 | h0
      · subst h0
        go_wp2_with fail
        go_quiet (fail)
        go_wp2_with fail
        refine (HCT.out _).mono ?_
        rintro e w8 ⟨v8, rfl, ho8, hb8⟩
        obtain ⟨A8, c8, rfl, ht8, _⟩ := ho8.ts
        have HE : Hid (SoR w (pushN [] 0 l) (some ⟨b4, o4, none⟩) n c4 P (.slice A8 (ws.map En.pr |>.eraseIdx a).length c8) (.int .i64 1) w8) := Lib.hid (by
          have hle : ((ws.map En.pr).eraseIdx a).length = (ws.eraseIdx a).length := by rw [← map_erase, List.length_map]
          have hl1 : (ws.eraseIdx a).length = nw - 1 := by rw [List.length_eraseIdx_of_lt (by rw [HNWL.out]; exact hal), HNWL.out]
          refine ⟨1, ws.eraseIdx a, A8, c8, rfl, by rw [hle], by omega, HQ2.out, ?_, (HT46.out.drewN _).below hb8, (below_drewN HB6.out _).trans (hb8.mono HB6.out.size)⟩
          rw [map_erase, ← hle]; exact ht8)
        clear ho8 hb8 ht8
        go_wp2
        go_roundw
        case rel => exact HE.out
        case measure => first | (simp [intOf]; omega) | simp [intOf]
      · obtain ⟨k1, hk1⟩ : ∃ k1, k = k1 + 1 := ⟨k - 1, by omega⟩
        have hwk : IntKind.i64.wrap ((k : Int) - 1) = (k1 : Int) := by
          have e : (k : Int) - 1 = (k1 : Int) := by omega
          rw [e]; exact IntWalk.i64_in _ (by omega)
        have hk1m : k1 < n := by omega
        obtain ⟨b5, o5, e5, _, hcell5⟩ := HT46.out.at_ (by omega)
        have c8 := (hcell5 k1 hk1m).1
        have hup := HUP.out k1 hk1
        injection e5 with e5
        injection e5 with e5a e5b
        subst e5a e5b
        have hdc : decide (x.n < (P.getD k1 (0, 0)).1) = false := decide_eq_false (by omega)
        have hkp : decide ((0 : Int) < (k : Int)) = true := decide_eq_true (by omega)
        have HK1 := Lib.hid hk1
        clear hcell5 hk1
        generalize (P.getD k1 (0, 0)).1 = y at *
        go_wp2_with fail
        go_quiet (fail)
        go_wp2_with fail
        refine (HCT.out _).mono ?_
        rintro e w8 ⟨v8, rfl, ho8, hb8⟩
        obtain ⟨A8, c8', rfl, ht8, _⟩ := ho8.ts
        have HE : Hid (SoR w (pushN [] 0 l) (some ⟨b4, o4, none⟩) n c4 P (.slice A8 (ws.map En.pr |>.eraseIdx a).length c8') (.int .i64 ((k : Int) + 1)) w8) := Lib.hid (by
          have hle : ((ws.map En.pr).eraseIdx a).length = (ws.eraseIdx a).length := by rw [← map_erase, List.length_map]
          have hl1 : (ws.eraseIdx a).length = nw - 1 := by rw [List.length_eraseIdx_of_lt (by rw [HNWL.out]; exact hal), HNWL.out]
          refine ⟨k + 1, ws.eraseIdx a, A8, c8', by simp, by rw [hle], by omega, HQ2.out, ?_, (HT46.out.drewN _).below hb8, (below_drewN HB6.out _).trans (hb8.mono HB6.out.size)⟩
          rw [map_erase, ← hle]; exact ht8)
        clear ho8 hb8 ht8
        go_wp2
        go_roundw
        case rel => exact HE.out
        case measure => first | (simp [intOf]; omega) | simp [intOf]
    · have hkL : k = n := by omega
      have HAW := Lib.hid (fun W => awake11_any W)
      subst hkL
      go_wp2_with fail
      refine (HAW.out _).mono ?_
      rintro e w7 ⟨rfl, hb7⟩
      have HB7 : Hid (Below w.heap.size w w7) := Lib.hid (HB.out.trans (hb7.mono HB.out.size))
      clear hb7
      go_wp2
      go_ret
      exact ⟨rfl, HB7.out⟩
set_option maxHeartbeats 2000000 in
set_option maxRecDepth 100000 in
theorem sorts_2 (ab ao n c : Nat) (l : List (Int × Int)) (w : World) (h : TS w (some ⟨ab, ao, none⟩) 60 c l) (hn : 60 < n) (hnc : n ≤ c) (hcm : c ≤ 9223372036854775807) :
    Calls Try.prog 5 #[.slice (some ⟨ab, ao, none⟩) n c] w fun e w' => e = .returned (.bool true) ∧ Below w.heap.size w w' := by
  have HNW := Lib.hid (newq_any w)
  have HTS := Lib.hid h
  have HLN := Lib.hid h.len
  have HAB : Hid (0 < 60 → ∀ ad, (some ⟨ab, ao, none⟩ : Option Addr) = some ad → ad.block ≠ w.heap.size) := Lib.hid (fun h0 ad had => by
    obtain ⟨b, o, e, hb, _⟩ := h.at_ h0
    rw [e] at had; injection had with had; subst had; show b ≠ _; omega)
  clear h
  go_enter Try.func5, Try.ntmps5
  go_wp2_with fail
  refine HNW.out.mono ?_
  rintro e w1 ⟨rfl, hq1, hb1⟩
  have HPU := Lib.hid (push_any w.heap.size 0 60 c (some ⟨ab, ao, none⟩) _ [] l w1 hq1 (HTS.out.below hb1) (fun h0 ad had => ⟨fun e => (HAB.out h0 ad had) (by omega), by simp [Value.ownBlock]⟩) (by simp only [List.length_nil]; omega) (by omega))
  have HB1 := Lib.hid hb1
  clear hq1 hb1
  go_wp2_with fail
  refine HPU.out.mono ?_
  rintro e w2 ⟨rfl, hq2⟩
  have HB2 : Hid (Below w.heap.size w w2) := Lib.hid (HB1.out.trans (hq2.below (B := w.heap.size) (Nat.le_refl _) (fun j q => by simp [Value.ownBlock] at q) HB1.out.size))
  obtain ⟨hqi, _⟩ := QI.push QI.nil 0 (fun _ h => by cases h) l
  rw [List.nil_append] at hqi
  have hel : (ents 0 l).length = l.length := by have := congrArg List.length (ents_pr l 0); simpa using this
  have hpl : (pushN [] 0 l).length = 60 := by rw [hqi.len, hel, HLN.out]
  obtain ⟨v2, hv2⟩ := hq2.qu_
  have HGB : Hid (∀ j, v2.ownBlock = some j → w.heap.size ≤ j) := Lib.hid (fun j q => by have := (hv2.own.lt j q).1; omega)
  have HAL := Lib.hid (all_any w.heap.size _ v2 _ w2 hv2 (by omega))
  have HQI := Lib.hid hqi
  have HPL := Lib.hid hpl
  clear hq2 hqi hel hpl hv2
  go_wp2_with fail
  refine HAL.out.mono ?_
  rintro e w4 ⟨A4, c4, rfl, hts4, hA4, hq4⟩
  have HB4 : Hid (Below w.heap.size w w4) := Lib.hid (HB2.out.trans (hq4.below (B := w.heap.size) (Nat.le_refl _) HGB.out HB2.out.size))
  obtain ⟨v4, hv4⟩ := hq4.qu_
  have HLQ := Lib.hid (qlen_any w.heap.size _ v4 [] w4 hv4)
  rw [HPL.out] at hts4 ⊢
  have HP4 := Lib.hid hts4
  have hc4 := hts4.cap
  have hc5 := hts4.capm
  have HST : Hid (SoR w (pushN [] 0 l) A4 60 c4 (popsL 60 (pushN [] 0 l)) (.slice (some ⟨ab, ao, none⟩) 60 c) (.int .i64 0) w4) := Lib.hid (by
    have hel : (ents 0 l).length = 60 := by have := congrArg List.length (ents_pr l 0); rw [List.length_map, HLN.out] at this; exact this
    refine ⟨0, ents 0 l, (some ⟨ab, ao, none⟩), c, rfl, by rw [hel], by omega, HQI.out, ?_, HP4.out, HB4.out⟩
    rw [hel, ents_pr]
    exact (HTS.out.below HB4.out))
  clear hts4 hA4 hq4 hv4
  obtain ⟨P, hP⟩ : ∃ P, popsL 60 (pushN [] 0 l) = P := ⟨_, rfl⟩
  rw [hP] at HST HP4
  have HPE := Lib.hid hP
  clear hP
  go_wp2_with fail
  refine HLQ.out.mono ?_
  rintro e w5 ⟨rfl, rfl⟩
  go_wp2_with fail
  go_loopw [5, 33] (fun wv i W => SoR w (pushN [] 0 l) A4 60 c4 P wv i W) (fun _ i _ => 60 - (intOf i).toNat)
  case atStart => exact HST.out
  case round =>
    obtain ⟨k, ws, Aw, cw, rfl, rfl, hkm, hqi, htw, ht4, hb⟩ := hrel
    have HQ := Lib.hid hqi
    have HTW := Lib.hid htw
    have HT4 := Lib.hid ht4
    have HB := Lib.hid hb
    have hwc := htw.cap
    have hwm := htw.capm
    obtain ⟨nw, hnw⟩ : ∃ nw, ws.length = nw := ⟨_, rfl⟩
    have HNWL := Lib.hid hnw
    rw [hnw] at HTW hkm hwc ⊢
    clear hqi htw ht4 hb hnw HST
    by_cases hlt : k < 60
    · have hnp : 0 < nw := by omega
      obtain ⟨b4, o4, e4, hbw4, hcell4⟩ := HT4.out.at_ (by omega)
      obtain ⟨a, ha, hfl⟩ := leastF_fl (ws.map En.pr) (by rw [List.length_map, HNWL.out]; exact hnp)
      rw [List.length_map, HNWL.out] at ha
      have hla := LeastAt.of_fl HQ.out.sorted hfl
      obtain ⟨hpE, hqi2⟩ := HQ.out.pop hla
      have hal : a < nw := by have := hla.1; rw [HNWL.out] at this; exact this
      obtain ⟨x, hx⟩ : ∃ x, popE (restL k (pushN [] 0 l)) = x := ⟨_, rfl⟩
      have hPk : P.getD k (0, 0) = x.pr := by rw [← HPE.out, popsL_get _ _ _ hlt, hx]
      have hwa : (ws.map En.pr).getD a (0, 0) = x.pr := by rw [getD_pr ws a hla.1, ← hpE, hx]
      have c1 := (hcell4 k hlt).1
      have c2 := (hcell4 k hlt).2
      rw [hPk] at c1 c2
      change wr.cell? ⟨b4, o4 + k * 2, none⟩ = some (.int .i64 x.n) at c1
      change wr.cell? ⟨b4, o4 + k * 2 + 1, none⟩ = some (.int .i64 x.m) at c2
      have HLE := Lib.hid (least_any Aw nw cw (ws.map En.pr) (wr.alloc (.cells #[.int .i64 x.n, .int .i64 x.m] ThT)) (HTW.out.below ((Below.refl _ _).alloc (Nat.le_refl _) _)) (by omega))
      rw [ha] at HLE
      have hal7 := heap_alloc_new wr (.cells #[.int .i64 x.n, .int .i64 x.m] ThT)
      have HQ2 : Hid (QI (restL (k + 1) (pushN [] 0 l)) (ws.eraseIdx a)) := Lib.hid (by rw [restL_succ]; exact hqi2)
      have HWA := Lib.hid hwa
      have HAL7 := Lib.hid hal7
      have HUP : Hid (∀ k1, k = k1 + 1 → (P.getD k1 (0, 0)).1 ≤ x.n) := Lib.hid (fun k1 hk1 => by
        have h0 := (pushN_heap l [] 0 (fun k _ h => by simp at h)).1
        have hl0 := HPL.out
        rw [← HPE.out, popsL_get _ _ _ (by omega), ← hx, hk1]
        exact pops_up h0 (by omega))
      have hneq := neq_th x.n x.m
      subst e4
      clear hcell4 ha hfl hla hpE hqi2 hx hPk hwa hal7
      go_wp2_with fail
      refine HLE.out.mono ?_
      rintro e w6 ⟨rfl, hb6⟩
      have HW6 : Hid (After wr w6) := Lib.hid ((Below.refl _ _).alloc (Nat.le_refl _) _ |>.trans (hb6.mono (by simp)))
      have d7 : w6.heap[wr.heap.size]? = some (.cells #[.int .i64 x.n, .int .i64 x.m] ThT) := (hb6.block _ (by simp)).trans HAL7.out
      have c70 := blk_cell d7 0
      have c71 := blk_cell d7 1
      have HTW6 := Lib.hid (HTW.out.below HW6.out)
      have HT46 := Lib.hid (HT4.out.below HW6.out)
      have HB6 : Hid (Below w.heap.size w w6) := Lib.hid (HB.out.trans (Below.mono HW6.out HB.out.size))
      obtain ⟨bw, ow, ew, hbw, hcw⟩ := HTW6.out.at_ hnp
      have ca := (hcw a hal).1
      have cb := (hcw a hal).2
      rw [HWA.out] at ca cb
      change w6.cell? ⟨bw, ow + a * 2, none⟩ = some (.int .i64 x.n) at ca
      change w6.cell? ⟨bw, ow + a * 2 + 1, none⟩ = some (.int .i64 x.m) at cb
      have HCT := Lib.hid (fun q => cut_any Aw nw cw a (ws.map En.pr) (w6.drewN q) (HTW6.out.drewN q) (by omega) hal)
      subst ew
      clear hb6 d7 hcw
      rcases Nat.eq_zero_or_pos k with h0 | h0
      · subst h0
        go_wp2_with fail
        go_quiet (fail)
        go_wp2_with fail
        refine (HCT.out _).mono ?_
        rintro e w8 ⟨v8, rfl, ho8, hb8⟩
        obtain ⟨A8, c8, rfl, ht8, _⟩ := ho8.ts
        have HE : Hid (SoR w (pushN [] 0 l) (some ⟨b4, o4, none⟩) 60 c4 P (.slice A8 (ws.map En.pr |>.eraseIdx a).length c8) (.int .i64 1) w8) := Lib.hid (by
          have hle : ((ws.map En.pr).eraseIdx a).length = (ws.eraseIdx a).length := by rw [← map_erase, List.length_map]
          have hl1 : (ws.eraseIdx a).length = nw - 1 := by rw [List.length_eraseIdx_of_lt (by rw [HNWL.out]; exact hal), HNWL.out]
          refine ⟨1, ws.eraseIdx a, A8, c8, rfl, by rw [hle], by omega, HQ2.out, ?_, (HT46.out.drewN _).below hb8, (below_drewN HB6.out _).trans (hb8.mono HB6.out.size)⟩
          rw [map_erase, ← hle]; exact ht8)
        clear ho8 hb8 ht8
        go_wp2
        go_roundw
        case rel => exact HE.out
        case measure => first | (simp [intOf]; omega) | simp [intOf]
      · obtain ⟨k1, hk1⟩ : ∃ k1, k = k1 + 1 := ⟨k - 1, by omega⟩
        have hwk : IntKind.i64.wrap ((k : Int) - 1) = (k1 : Int) := by
          have e : (k : Int) - 1 = (k1 : Int) := by omega
          rw [e]; exact IntWalk.i64_in _ (by omega)
        have hk1m : k1 < 60 := by omega
        obtain ⟨b5, o5, e5, _, hcell5⟩ := HT46.out.at_ (by omega)
        have c8 := (hcell5 k1 hk1m).1
        have hup := HUP.out k1 hk1
        injection e5 with e5
        injection e5 with e5a e5b
        subst e5a e5b
        have hdc : decide (x.n < (P.getD k1 (0, 0)).1) = false := decide_eq_false (by omega)
        have hkp : decide ((0 : Int) < (k : Int)) = true := decide_eq_true (by omega)
        have HK1 := Lib.hid hk1
        clear hcell5 hk1
        generalize (P.getD k1 (0, 0)).1 = y at *
        go_wp2_with fail
        go_quiet (fail)
        go_wp2_with fail
        refine (HCT.out _).mono ?_
        rintro e w8 ⟨v8, rfl, ho8, hb8⟩
        obtain ⟨A8, c8', rfl, ht8, _⟩ := ho8.ts
        have HE : Hid (SoR w (pushN [] 0 l) (some ⟨b4, o4, none⟩) 60 c4 P (.slice A8 (ws.map En.pr |>.eraseIdx a).length c8') (.int .i64 ((k : Int) + 1)) w8) := Lib.hid (by
          have hle : ((ws.map En.pr).eraseIdx a).length = (ws.eraseIdx a).length := by rw [← map_erase, List.length_map]
          have hl1 : (ws.eraseIdx a).length = nw - 1 := by rw [List.length_eraseIdx_of_lt (by rw [HNWL.out]; exact hal), HNWL.out]
          refine ⟨k + 1, ws.eraseIdx a, A8, c8', by simp, by rw [hle], by omega, HQ2.out, ?_, (HT46.out.drewN _).below hb8, (below_drewN HB6.out _).trans (hb8.mono HB6.out.size)⟩
          rw [map_erase, ← hle]; exact ht8)
        clear ho8 hb8 ht8
        go_wp2
        go_roundw
        case rel => exact HE.out
        case measure => first | (simp [intOf]; omega) | simp [intOf]
    · have hkL : k = 60 := by omega
      have HAW := Lib.hid (fun W => awake11_any W)
      subst hkL
      go_wp2_with fail
      refine (HAW.out _).mono ?_
      rintro e w7 ⟨rfl, hb7⟩
      have HB7 : Hid (Below w.heap.size w w7) := Lib.hid (HB.out.trans (hb7.mono HB.out.size))
      clear hb7
      go_wp2
      go_ret
      exact ⟨rfl, HB7.out⟩
theorem prioSorts_any (A : Option Addr) (n c : Nat) (l : List (Int × Int)) (w : World) (h : TS w A n c l) :
    Calls Try.prog 5 #[.slice A n c] w fun e w' => e = .returned (.bool true) ∧ Below w.heap.size w w' := by
  by_cases hn : n ≤ 60
  · exact sorts_1 A n c l w h hn
  · obtain ⟨b, o, rfl, _⟩ := h.at_ (by omega)
    exact sorts_2 b o n c _ w (h.cut (by omega)) (by omega) h.cap h.capm
end Go.Proofs.Ytoioflbgmofgfab
