/-
  PrioHalf's walk.
-/
import Derived.Test.YtoioflbgmofgfabPrH
namespace Go.Proofs.Ytoioflbgmofgfab
open Go.RowKit Go
set_option linter.unusedVariables false
set_option linter.unusedSimpArgs false
theorem TS.cut {W : World} {A : Option Addr} {n c k : Nat} {l : List (Int × Int)} (h : TS W A n c l) (hk : k ≤ n) : TS W A k c (l.take k) :=
  ⟨by rw [List.length_take, h.len]; omega, by have := h.cap; omega, h.capm, fun h0 => by
    obtain ⟨b, o, h1, h2, h3⟩ := h.at_ (by omega)
    refine ⟨b, o, h1, h2, fun i hi => ?_⟩
    have e : (l.take k).getD i (0, 0) = l.getD i (0, 0) := by rw [List.getD_eq_getElem?_getD, List.getD_eq_getElem?_getD, List.getElem?_take_of_lt hi]
    rw [e]; exact h3 i (by omega)⟩
theorem and63 (n : Int) : ∃ k : Nat, k ≤ 63 ∧ bits .and .i64 n 63 = (k : Int) := by
  refine ⟨(BitVec.ofInt 64 n &&& BitVec.ofInt 64 63).toNat, ?_, ?_⟩
  · rw [BitVec.toNat_and]
    exact Nat.and_le_right
  · have h : (BitVec.ofInt 64 n &&& BitVec.ofInt 64 63).toNat ≤ 63 := by rw [BitVec.toNat_and]; exact Nat.and_le_right
    show IntKind.i64.wrap (((BitVec.ofInt 64 n &&& BitVec.ofInt 64 63).toNat : Nat) : Int) = _
    exact wraps_i64 _ (by omega) (by omega)
theorem half_pop {es : List En} (h : Heap es es.length) (hl : 0 < es.length) : Heap (popF es) (popF es).length ∧ popE es ∈ es ∧ (∀ e ∈ popF es, e ∈ es ∧ (popE es).n ≤ e.n) := by
  obtain ⟨h1, h2, h3, h4⟩ := pop_heap es h hl
  refine ⟨h1, by rw [h2]; exact ea_mem es 0 hl, fun e he => ?_⟩
  have hm : e ∈ es := h3.mem_iff.2 (List.mem_cons_of_mem _ he)
  obtain ⟨k, hk, hke⟩ := mem_ea es e hm
  have := heap_least es es.length h k hk
  rw [hke] at this
  refine ⟨hm, ?_⟩
  rw [h2]; unfold enLe at this; omega
theorem popsL_mem (m : Nat) : ∀ es : List En, Heap es es.length → m ≤ es.length → ∀ p ∈ popsL m es, ∃ e ∈ es, p = (e.n, e.m) := by
  induction m with
  | zero => intro es _ _ p hp; cases hp
  | succ m ih =>
    intro es h hm p hp
    obtain ⟨h1, h2, h3⟩ := half_pop h (by omega)
    rcases List.mem_cons.1 hp with rfl | hp
    · exact ⟨_, h2, rfl⟩
    · obtain ⟨e, he, hpe⟩ := ih (popF es) h1 (by rw [popF_len]; omega) p hp
      exact ⟨e, (h3 e he).1, hpe⟩
structure HfC (w : World) (g t L k : Nat) (tp : Int) (es : List En) (v : Value) (W : World) : Prop where
  heap : Heap es es.length
  len : es.length = L - k
  top : 0 < k → ∀ e ∈ es, tp ≤ e.n
  qu : Qu W g v es t
  below : Below w.heap.size w W
  gb : w.heap.size ≤ g
def HfR (w : World) (g t L n0 : Nat) (top i : Value) (W : World) : Prop := ∃ (k : Nat) (tp : Int) (es : List En) (v : Value), i = .int .i64 (k : Int) ∧ top = .int .i64 tp ∧ k ≤ n0 ∧ HfC w g t L k tp es v W
theorem HfC.pop {w W W' : World} {g t L k : Nat} {tp : Int} {es : List En} {v : Value} (h : HfC w g t L k tp es v W) (hl : 0 < es.length) (hq : Qed W g v (popF es) t W') : ∃ v', HfC w g t L (k + 1) (popE es).n (popF es) v' W' := by
  have hb := hq.below (B := w.heap.size) h.gb (fun j q => by have := (h.qu.own.lt j q).1; have := h.gb; omega) h.below.size
  obtain ⟨_, v', h2, _⟩ := hq
  obtain ⟨h3, h4, h5⟩ := half_pop h.heap hl
  exact ⟨v', h3, by rw [popF_len, h.len]; omega, fun _ e he => (h5 e he).2, h2, h.below.trans hb, h.gb⟩
theorem HfC.next {w W W' : World} {g t L k : Nat} {tp : Int} {es : List En} {v : Value} (h : HfC w g t L k tp es v W) (hb : Below W.heap.size W W') : HfC w g t L k tp es v W' :=
  ⟨h.heap, h.len, h.top, h.qu.next hb, h.below.trans (hb.mono h.below.size), h.gb⟩
def HvR (w w4 : World) (A : Option Addr) (m c : Nat) (P : List (Int × Int)) (i : Value) (W : World) : Prop := ∃ q : Nat, i = .int .i64 (q : Int) ∧ q ≤ m ∧ Below w.heap.size w W ∧ TS W A m c P
set_option maxHeartbeats 2000000 in
set_option maxRecDepth 100000 in
theorem half_1 (A : Option Addr) (n c n0 : Nat) (z : Int) (l : List (Int × Int)) (w : World) (h : TS w A n c l) (hn : n ≤ 60) (hn0 : n0 ≤ 63) (hz : bits .and .i64 z 63 = (n0 : Int)) :
    Calls Try.prog 7 #[.slice A n c, .int .i64 z] w fun e w' => e = .returned (.bool true) ∧ Below w.heap.size w w' := by
  have HNW := Lib.hid (newq_any w)
  have HTS := Lib.hid h
  have HLN := Lib.hid h.len
  have HAB : Hid (0 < n → ∀ ad, A = some ad → ad.block ≠ w.heap.size) := Lib.hid (fun h0 ad had => by
    obtain ⟨b, o, e, hb, _⟩ := h.at_ h0
    rw [e] at had; injection had with had; subst had; show b ≠ _; omega)
  clear h
  go_enter Try.func7, Try.ntmps7
  go_wp2_with fail
  refine HNW.out.mono ?_
  rintro e w1 ⟨rfl, hq1, hb1⟩
  have HPU := Lib.hid (push_any w.heap.size 0 n c A _ [] l w1 hq1 (HTS.out.below hb1) (fun h0 ad had => ⟨fun e => (HAB.out h0 ad had) (by omega), by simp [Value.ownBlock]⟩) (by simp only [List.length_nil]; omega) (by omega))
  have HB1 := Lib.hid hb1
  clear hq1 hb1
  go_wp2_with fail
  refine HPU.out.mono ?_
  rintro e w2 ⟨rfl, hq2⟩
  have HST : Hid (HfR w w.heap.size (0 + n) n n0 (.int .i64 0) (.int .i64 0) w2) := Lib.hid (by
    have hb := hq2.below (B := w.heap.size) (Nat.le_refl _) (fun j q => by simp [Value.ownBlock] at q) HB1.out.size
    obtain ⟨v2, h2⟩ := hq2.qu_
    obtain ⟨p1, p2⟩ := pushN_heap l [] 0 (fun k _ h => by simp at h)
    refine ⟨0, 0, _, v2, rfl, rfl, Nat.zero_le _, p1, ?_, fun h => by omega, h2, HB1.out.trans hb, Nat.le_refl _⟩
    have e2 : (ents 0 l).length = l.length := by have := congrArg List.length (ents_pr l 0); simpa using this
    rw [p2.length_eq, List.nil_append, e2, HLN.out, Nat.sub_zero])
  clear hq2
  go_wp2_with fail
  go_loopw [6, 7] (fun top i W => HfR w w.heap.size (0 + n) n n0 top i W) (fun top i _ => n0 - (intOf i).toNat)
  case atStart => exact HST.out
  case round =>
    obtain ⟨k, tp, es, v, rfl, rfl, hkn, hC⟩ := hrel
    have HC := Lib.hid hC
    have hkm : k ≤ 63 := by omega
    clear hC HST
    by_cases hlt : k < n0
    · by_cases hL : k < n
      · have hlen : 0 < es.length := by rw [HC.out.len]; omega
        have hlen2 : es.length ≤ 1000000000 := by rw [HC.out.len]; omega
        obtain ⟨x, hx⟩ : ∃ x, popE es = x := ⟨_, rfl⟩
        have HPO := Lib.hid (pop_any w.heap.size (0 + n) v es wr HC.out.qu hlen hlen2)
        unfold PopE at HPO
        rw [hx] at HPO
        have HX := Lib.hid hx
        have htp : 0 < k → tp ≤ x.n := fun h0 => by rw [← HX.out]; exact HC.out.top h0 _ (half_pop HC.out.heap hlen).2.1
        have HLEN := Lib.hid hlen
        have HTP := Lib.hid htp
        clear hx hlen hlen2 htp
        go_wp2_with fail
        refine HPO.out.mono ?_
        rintro e w3 ⟨rfl, hq3⟩
        obtain ⟨v3, h3⟩ := HC.out.pop HLEN.out hq3
        have HE : Hid (HfC w w.heap.size (0 + n) n (k + 1) x.n (popF es) v3 (w3.alloc (.cells #[.int .i64 x.n, .int .i64 x.m] ThT))) := Lib.hid (by
          have h4 := h3.next ((Below.refl _ _).alloc (Nat.le_refl _) (.cells #[.int .i64 x.n, .int .i64 x.m] ThT))
          rwa [HX.out] at h4)
        clear hq3 h3
        by_cases h0 : 0 < k
        · have htp2 := HTP.out h0
          go_wp2
          go_roundw
          case rel => exact ⟨k + 1, x.n, _, v3, by go_num, rfl, by omega, HE.out⟩
          case measure => simp [intOf]; omega
        · obtain rfl : k = 0 := by omega
          go_wp2
          go_roundw
          case rel => exact ⟨1, x.n, _, v3, by go_num, rfl, by omega, HE.out⟩
          case measure => simp [intOf]; omega
      · have hnil : es = [] := List.length_eq_zero_iff.mp (by rw [HC.out.len]; omega)
        subst hnil
        have HPO := Lib.hid (pop_none w.heap.size (0 + n) v wr HC.out.qu)
        go_wp2_with fail
        refine HPO.out.mono ?_
        rintro e w3 ⟨rfl, hb3⟩
        have HE : Hid (HfC w w.heap.size (0 + n) n (k + 1) tp [] v (w3.alloc (.cells #[.int .i64 0, .int .i64 0] ThT))) := Lib.hid (by
          have h4 := (HC.out.next hb3).next ((Below.refl _ _).alloc (Nat.le_refl _) (.cells #[.int .i64 0, .int .i64 0] ThT))
          exact ⟨h4.heap, by rw [List.length_nil]; omega, fun _ e he => (by cases he), h4.qu, h4.below, h4.gb⟩)
        clear hb3
        go_wp2
        go_roundw
        case rel => exact ⟨k + 1, tp, _, v, by go_num, rfl, by omega, HE.out⟩
        case measure => simp [intOf]; omega
    · obtain rfl : k = n0 := by omega
      have HAL := Lib.hid (all_any w.heap.size (0 + n) v es wr HC.out.qu (by rw [HC.out.len]; omega))
      go_wp2_with fail
      refine HAL.out.mono ?_
      rintro e w4 ⟨A4, c4, rfl, hts4, hA4, hq4⟩
      have HB4 : Hid (Below w.heap.size w w4) := Lib.hid (HC.out.below.trans (hq4.below (B := w.heap.size) HC.out.gb (fun j q => by have := (HC.out.qu.own.lt j q).1; have := HC.out.gb; omega) HC.out.below.size))
      have hml : es.length ≤ n := by rw [HC.out.len]; omega
      have htop : 0 < k → ∀ i, i < es.length → tp ≤ ((popsL es.length es).getD i (0, 0)).1 := fun h0 i hi => by
        have hl2 := popsL_len es.length es
        have hpi : i < (popsL es.length es).length := by omega
        rw [List.getD_eq_getElem?_getD, List.getElem?_eq_getElem hpi]
        obtain ⟨e, he, hpe⟩ := popsL_mem es.length es HC.out.heap (Nat.le_refl _) _ (List.getElem_mem hpi)
        simp only [Option.getD_some]
        rw [hpe]
        exact HC.out.top h0 e he
      have HTOP := Lib.hid htop
      have HT4 := Lib.hid hts4
      obtain ⟨m, hm⟩ : ∃ m, es.length = m := ⟨_, rfl⟩
      have hmL : m = n - k := by rw [← hm, HC.out.len]
      have HML := Lib.hid hmL
      obtain ⟨P, hP⟩ : ∃ P, popsL es.length es = P := ⟨_, rfl⟩
      rw [hP] at HTOP HT4
      rw [hm] at HTOP HT4 hml ⊢
      have hc4 := HT4.out.cap
      have hc5 := HT4.out.capm
      have HST2 : Hid (HvR w w4 A4 m c4 P (.int .i64 0) w4) := Lib.hid ⟨0, rfl, Nat.zero_le _, HB4.out, HT4.out⟩
      clear hts4 hA4 hq4 htop hm hmL hP
      go_wp2_with fail
      go_loopw [59] (fun i W => HvR w w4 A4 m c4 P i W) (fun i _ => m - (intOf i).toNat)
      case atStart => exact HST2.out
      case round =>
        obtain ⟨q, rfl, hq, hbq, htq⟩ := hrel
        have HBQ := Lib.hid hbq
        have HTQ := Lib.hid htq
        clear hbq htq HST2
        by_cases hqm : q < m
        · obtain ⟨b, o, rfl, hbw, hcell⟩ := HTQ.out.at_ (by omega)
          obtain ⟨x, hx⟩ : ∃ x, x = P.getD q (0, 0) := ⟨_, rfl⟩
          have a := (hcell q hqm).1
          have a2 := (hcell q hqm).2
          rw [← hx] at a a2
          have htx : 0 < k → tp ≤ x.1 := fun h0 => by rw [hx]; exact HTOP.out h0 q hqm
          have HTX := Lib.hid htx
          have HE : Hid (HvR w w4 (some ⟨b, o, none⟩) m c4 P (.int .i64 ((q + 1 : Nat) : Int)) (wr.alloc (.cells #[.int .i64 x.1, .int .i64 x.2] ThT))) := Lib.hid ⟨q + 1, rfl, by omega, HBQ.out.alloc HBQ.out.size _, HTQ.out.below ((Below.refl _ _).alloc (Nat.le_refl _) _)⟩
          clear hcell hx htx
          by_cases h0 : 0 < k
          · have htp2 := HTX.out h0
            go_wp2
            go_roundw
            case rel => exact HE.out
            case measure => simp [intOf]; omega
          · obtain rfl : k = 0 := by omega
            go_wp2
            go_roundw
            case rel => exact HE.out
            case measure => simp [intOf]; omega
        · obtain rfl : q = m := by omega
          have HAW := Lib.hid (fun W => awake11_any W)
          by_cases hkL : k ≤ n
          · have hz : ((n : Nat) : Int) - (k : Int) = (q : Int) := by have := HML.out; omega
            go_wp2_with fail
            refine (HAW.out _).mono ?_
            rintro e w7 ⟨rfl, hb7⟩
            have HB7 : Hid (Below w.heap.size w w7) := Lib.hid (HBQ.out.trans (hb7.mono HBQ.out.size))
            clear hb7
            go_wp2
            go_ret
            exact ⟨rfl, HB7.out⟩
          · obtain rfl : q = 0 := by have := HML.out; omega
            go_wp2_with fail
            refine (HAW.out _).mono ?_
            rintro e w7 ⟨rfl, hb7⟩
            have HB7 : Hid (Below w.heap.size w w7) := Lib.hid (HBQ.out.trans (hb7.mono HBQ.out.size))
            clear hb7
            go_wp2
            go_ret
            exact ⟨rfl, HB7.out⟩
set_option maxHeartbeats 2000000 in
set_option maxRecDepth 100000 in
theorem half_2 (A : Option Addr) (n c n0 : Nat) (z : Int) (l : List (Int × Int)) (w : World) (h : TS w A 60 c l) (hn : 60 < n) (hnc : n ≤ c) (hcm : c ≤ 9223372036854775807) (hA : ∃ b o, A = some ⟨b, o, none⟩) (hn0 : n0 ≤ 63) (hz : bits .and .i64 z 63 = (n0 : Int)) :
    Calls Try.prog 7 #[.slice A n c, .int .i64 z] w fun e w' => e = .returned (.bool true) ∧ Below w.heap.size w w' := by
  have HNW := Lib.hid (newq_any w)
  have HTS := Lib.hid h
  have HLN := Lib.hid h.len
  have HAB : Hid (0 < 60 → ∀ ad, A = some ad → ad.block ≠ w.heap.size) := Lib.hid (fun h0 ad had => by
    obtain ⟨b, o, e, hb, _⟩ := h.at_ h0
    rw [e] at had; injection had with had; subst had; show b ≠ _; omega)
  obtain ⟨ab, ao, rfl⟩ := hA
  clear h
  go_enter Try.func7, Try.ntmps7
  go_wp2_with fail
  refine HNW.out.mono ?_
  rintro e w1 ⟨rfl, hq1, hb1⟩
  have HPU := Lib.hid (push_any w.heap.size 0 60 c _ _ [] l w1 hq1 (HTS.out.below hb1) (fun h0 ad had => ⟨fun e => (HAB.out h0 ad had) (by omega), by simp [Value.ownBlock]⟩) (by simp only [List.length_nil]; omega) (by omega))
  have HB1 := Lib.hid hb1
  clear hq1 hb1
  go_wp2_with fail
  refine HPU.out.mono ?_
  rintro e w2 ⟨rfl, hq2⟩
  have HST : Hid (HfR w w.heap.size (0 + 60) 60 n0 (.int .i64 0) (.int .i64 0) w2) := Lib.hid (by
    have hb := hq2.below (B := w.heap.size) (Nat.le_refl _) (fun j q => by simp [Value.ownBlock] at q) HB1.out.size
    obtain ⟨v2, h2⟩ := hq2.qu_
    obtain ⟨p1, p2⟩ := pushN_heap l [] 0 (fun k _ h => by simp at h)
    refine ⟨0, 0, _, v2, rfl, rfl, Nat.zero_le _, p1, ?_, fun h => by omega, h2, HB1.out.trans hb, Nat.le_refl _⟩
    have e2 : (ents 0 l).length = l.length := by have := congrArg List.length (ents_pr l 0); simpa using this
    rw [p2.length_eq, List.nil_append, e2, HLN.out, Nat.sub_zero])
  clear hq2
  go_wp2_with fail
  go_loopw [6, 7] (fun top i W => HfR w w.heap.size (0 + 60) 60 n0 top i W) (fun top i _ => n0 - (intOf i).toNat)
  case atStart => exact HST.out
  case round =>
    obtain ⟨k, tp, es, v, rfl, rfl, hkn, hC⟩ := hrel
    have HC := Lib.hid hC
    have hkm : k ≤ 63 := by omega
    clear hC HST
    by_cases hlt : k < n0
    · by_cases hL : k < 60
      · have hLi : (k : Int) < 60 := by omega
        have hlen : 0 < es.length := by rw [HC.out.len]; omega
        have hlen2 : es.length ≤ 1000000000 := by rw [HC.out.len]; omega
        obtain ⟨x, hx⟩ : ∃ x, popE es = x := ⟨_, rfl⟩
        have HPO := Lib.hid (pop_any w.heap.size (0 + 60) v es wr HC.out.qu hlen hlen2)
        unfold PopE at HPO
        rw [hx] at HPO
        have HX := Lib.hid hx
        have htp : 0 < k → tp ≤ x.n := fun h0 => by rw [← HX.out]; exact HC.out.top h0 _ (half_pop HC.out.heap hlen).2.1
        have HLEN := Lib.hid hlen
        have HTP := Lib.hid htp
        clear hx hlen hlen2 htp
        go_wp2_with fail
        refine HPO.out.mono ?_
        rintro e w3 ⟨rfl, hq3⟩
        obtain ⟨v3, h3⟩ := HC.out.pop HLEN.out hq3
        have HE : Hid (HfC w w.heap.size (0 + 60) 60 (k + 1) x.n (popF es) v3 (w3.alloc (.cells #[.int .i64 x.n, .int .i64 x.m] ThT))) := Lib.hid (by
          have h4 := h3.next ((Below.refl _ _).alloc (Nat.le_refl _) (.cells #[.int .i64 x.n, .int .i64 x.m] ThT))
          rwa [HX.out] at h4)
        clear hq3 h3
        by_cases h0 : 0 < k
        · have htp2 := HTP.out h0
          go_wp2
          go_roundw
          case rel => exact ⟨k + 1, x.n, _, v3, by go_num, rfl, by omega, HE.out⟩
          case measure => simp [intOf]; omega
        · obtain rfl : k = 0 := by omega
          go_wp2
          go_roundw
          case rel => exact ⟨1, x.n, _, v3, by go_num, rfl, by omega, HE.out⟩
          case measure => simp [intOf]; omega
      · have hLi : (60 : Int) ≤ (k : Int) := by omega
        have hnil : es = [] := List.length_eq_zero_iff.mp (by rw [HC.out.len]; omega)
        subst hnil
        have HPO := Lib.hid (pop_none w.heap.size (0 + 60) v wr HC.out.qu)
        go_wp2_with fail
        refine HPO.out.mono ?_
        rintro e w3 ⟨rfl, hb3⟩
        have HE : Hid (HfC w w.heap.size (0 + 60) 60 (k + 1) tp [] v (w3.alloc (.cells #[.int .i64 0, .int .i64 0] ThT))) := Lib.hid (by
          have h4 := (HC.out.next hb3).next ((Below.refl _ _).alloc (Nat.le_refl _) (.cells #[.int .i64 0, .int .i64 0] ThT))
          exact ⟨h4.heap, by rw [List.length_nil]; omega, fun _ e he => (by cases he), h4.qu, h4.below, h4.gb⟩)
        clear hb3
        go_wp2
        go_roundw
        case rel => exact ⟨k + 1, tp, _, v, by go_num, rfl, by omega, HE.out⟩
        case measure => simp [intOf]; omega
    · obtain rfl : k = n0 := by omega
      have HAL := Lib.hid (all_any w.heap.size (0 + 60) v es wr HC.out.qu (by rw [HC.out.len]; omega))
      go_wp2_with fail
      refine HAL.out.mono ?_
      rintro e w4 ⟨A4, c4, rfl, hts4, hA4, hq4⟩
      have HB4 : Hid (Below w.heap.size w w4) := Lib.hid (HC.out.below.trans (hq4.below (B := w.heap.size) HC.out.gb (fun j q => by have := (HC.out.qu.own.lt j q).1; have := HC.out.gb; omega) HC.out.below.size))
      have hml : es.length ≤ 60 := by rw [HC.out.len]; omega
      have htop : 0 < k → ∀ i, i < es.length → tp ≤ ((popsL es.length es).getD i (0, 0)).1 := fun h0 i hi => by
        have hl2 := popsL_len es.length es
        have hpi : i < (popsL es.length es).length := by omega
        rw [List.getD_eq_getElem?_getD, List.getElem?_eq_getElem hpi]
        obtain ⟨e, he, hpe⟩ := popsL_mem es.length es HC.out.heap (Nat.le_refl _) _ (List.getElem_mem hpi)
        simp only [Option.getD_some]
        rw [hpe]
        exact HC.out.top h0 e he
      have HTOP := Lib.hid htop
      have HT4 := Lib.hid hts4
      obtain ⟨m, hm⟩ : ∃ m, es.length = m := ⟨_, rfl⟩
      have hmL : m = 60 - k := by rw [← hm, HC.out.len]
      have HML := Lib.hid hmL
      obtain ⟨P, hP⟩ : ∃ P, popsL es.length es = P := ⟨_, rfl⟩
      rw [hP] at HTOP HT4
      rw [hm] at HTOP HT4 hml ⊢
      have hc4 := HT4.out.cap
      have hc5 := HT4.out.capm
      have HST2 : Hid (HvR w w4 A4 m c4 P (.int .i64 0) w4) := Lib.hid ⟨0, rfl, Nat.zero_le _, HB4.out, HT4.out⟩
      clear hts4 hA4 hq4 htop hm hmL hP
      go_wp2_with fail
      go_loopw [59] (fun i W => HvR w w4 A4 m c4 P i W) (fun i _ => m - (intOf i).toNat)
      case atStart => exact HST2.out
      case round =>
        obtain ⟨q, rfl, hq, hbq, htq⟩ := hrel
        have HBQ := Lib.hid hbq
        have HTQ := Lib.hid htq
        clear hbq htq HST2
        by_cases hqm : q < m
        · obtain ⟨b, o, rfl, hbw, hcell⟩ := HTQ.out.at_ (by omega)
          obtain ⟨x, hx⟩ : ∃ x, x = P.getD q (0, 0) := ⟨_, rfl⟩
          have a := (hcell q hqm).1
          have a2 := (hcell q hqm).2
          rw [← hx] at a a2
          have htx : 0 < k → tp ≤ x.1 := fun h0 => by rw [hx]; exact HTOP.out h0 q hqm
          have HTX := Lib.hid htx
          have HE : Hid (HvR w w4 (some ⟨b, o, none⟩) m c4 P (.int .i64 ((q + 1 : Nat) : Int)) (wr.alloc (.cells #[.int .i64 x.1, .int .i64 x.2] ThT))) := Lib.hid ⟨q + 1, rfl, by omega, HBQ.out.alloc HBQ.out.size _, HTQ.out.below ((Below.refl _ _).alloc (Nat.le_refl _) _)⟩
          clear hcell hx htx
          by_cases h0 : 0 < k
          · have htp2 := HTX.out h0
            go_wp2
            go_roundw
            case rel => exact HE.out
            case measure => simp [intOf]; omega
          · obtain rfl : k = 0 := by omega
            go_wp2
            go_roundw
            case rel => exact HE.out
            case measure => simp [intOf]; omega
        · obtain rfl : q = m := by omega
          have HAW := Lib.hid (fun W => awake11_any W)
          by_cases hkL : k ≤ 60
          · have hz : ((60 : Nat) : Int) - (k : Int) = (q : Int) := by have := HML.out; omega
            go_wp2_with fail
            refine (HAW.out _).mono ?_
            rintro e w7 ⟨rfl, hb7⟩
            have HB7 : Hid (Below w.heap.size w w7) := Lib.hid (HBQ.out.trans (hb7.mono HBQ.out.size))
            clear hb7
            go_wp2
            go_ret
            exact ⟨rfl, HB7.out⟩
          · obtain rfl : q = 0 := by have := HML.out; omega
            go_wp2_with fail
            refine (HAW.out _).mono ?_
            rintro e w7 ⟨rfl, hb7⟩
            have HB7 : Hid (Below w.heap.size w w7) := Lib.hid (HBQ.out.trans (hb7.mono HBQ.out.size))
            clear hb7
            go_wp2
            go_ret
            exact ⟨rfl, HB7.out⟩
theorem prioHalf_any (A : Option Addr) (n c : Nat) (z : Int) (l : List (Int × Int)) (w : World) (h : TS w A n c l) :
    Calls Try.prog 7 #[.slice A n c, .int .i64 z] w fun e w' => e = .returned (.bool true) ∧ Below w.heap.size w w' := by
  obtain ⟨k, hk, hz⟩ := and63 z
  by_cases hn : n ≤ 60
  · exact half_1 A n c k z l w h hn hk hz
  · obtain ⟨b, o, hA, _⟩ := h.at_ (by omega)
    exact half_2 A n c k z _ w (h.cut (by omega)) (by omega) h.cap h.capm ⟨b, o, hA⟩ hk hz
end Go.Proofs.Ytoioflbgmofgfab
