/-
  PagesRuns.
-/
import Derived.Test.YtajgbflmfopfoaaDoorPgR
import Derived.BigQuiet
import Derived.Deep.QuietTactic
namespace Go.Proofs.YtajgbflmfopfoaaDoor
open Go.RowKit Go Go.WideShapes Go.ChangeShapes Go.Deep
set_option linter.unusedVariables false
set_option linter.unusedSimpArgs false
set_option maxRecDepth 100000
def RunN (w : World) (rs : List (Nat × Nat)) (e : Ending) (w' : World) : Prop := ∃ A c, e = .returned (.slice A rs.length c) ∧ RnS w' A rs.length c rs ∧ Below w.heap.size w w' ∧ ∀ ad, A = some ad → w.heap.size ≤ ad.block
set_option maxHeartbeats 4000000 in
theorem runsN_any (A : Option Addr) (n c : Nat) (l : List Pg) (w : World) (h : PS w A n c l) (hS : SZ w) (hn : n < 1000000) :
    Calls Tryd.prog 22 #[.slice A n c] w (RunN w (runsI l 0)) := by
  have HP := Lib.hid h
  have HSZ := Lib.hid hS
  have hln := h.len
  have HLN := Lib.hid hln
  have hcn := h.cap
  have hcm := h.capm
  clear h hln hS
  go_enter Tryd.func22, Tryd.ntmps22
  go_wp2
  go_loopw [3, 4] (fun v i W => ∃ (a : Nat) (rs : List (Nat × Nat)), i = .int .i64 (a : Int) ∧ a ≤ n + 1 ∧ rs.length ≤ a ∧ OwnR W w.heap.size v rs ∧ rs ++ runsI l a = runsI l 0 ∧ Below w.heap.size w W) (fun _ i _ => n + 1 - (intOf i).toNat)
  case atStart => exact ⟨0, [], rfl, by omega, Nat.le_refl _, OwnR.nil _ _, rfl, Below.refl _ _⟩
  case round =>
    obtain ⟨a, rs, rfl, ha, hrl, hown, hrs, hb⟩ := hrel
    have HB := Lib.hid hb
    have HOW := Lib.hid hown
    have HRS := Lib.hid hrs
    clear hown hrs hb
    by_cases hlt : a < n
    · obtain ⟨b, o, rfl, hb0, hcell⟩ := HP.out.cells (by omega)
      clear hcell
      have hltI : (a : Int) < (n : Int) := by omega
      have hcut := (HP.out.cut (k := a) (m := n - a) (by omega)).below HB.out
      have e : (l.drop a).take (n - a) = l.drop a := List.take_of_length_le (by rw [List.length_drop, HLN.out]; exact Nat.le_refl _)
      rw [e] at hcut
      have hle := leadF_le isZ (l.drop a)
      rw [List.length_drop, HLN.out] at hle
      have HC := Lib.hid (lead_free _ _ _ _ wr hcut (HSZ.out.below HB.out))
      obtain ⟨m, hm⟩ : ∃ m, m = leadF isZ (l.drop a) := ⟨_, rfl⟩
      rw [← hm] at hle HC
      have HM := Lib.hid hm
      clear hm hcut e
      go_wp2_with fail
      refine HC.out.mono ?_
      rintro e w' ⟨rfl, hb2⟩
      have HB2 := Lib.hid (HB.out.trans (hb2.mono HB.out.size))
      have HOW2 := Lib.hid (HOW.out.below hb2)
      clear hb2
      by_cases hm0 : 0 < m
      · have HR1 := Lib.hid (runsI_run l (by rw [HLN.out]; exact hlt) HM.out.symm hm0)
        have hra : rs.length < 1000000 := by omega
        have HRA := Lib.hid hra
        have HBS := Lib.hid HB2.out.size
        clear hra
        go_wp2_with (at_builtin; refine wp_appR _ rfl (.tmp 18) (.tmp 22) rfl w.heap.size u3 rs a m rfl HOW2.out _ rfl rfl HRA.out HBS.out ?_; intro v1 w1 hown1 hb1; have HOW1 := Lib.hid hown1; have HB1 := Lib.hid (HB2.out.trans hb1); clear hown1 hb1)
        go_roundw
        case rel =>
          refine ⟨a + m + 1, rs ++ [(a, m)], by go_num, by omega, by rw [List.length_append, List.length_singleton]; omega, HOW1.out, ?_, HB1.out⟩
          rw [← HRS.out, HR1.out, List.append_assoc]; rfl
        case measure => simp [intOf]; omega
      · obtain rfl : m = 0 := by omega
        have HR1 := Lib.hid (runsI_skip l (by rw [HLN.out]; exact hlt) HM.out.symm)
        go_wp2
        go_roundw
        case rel => exact ⟨a + 1, rs, by go_num, by omega, by omega, HOW2.out, by rw [← HR1.out]; exact HRS.out, HB2.out⟩
        case measure => simp [intOf]; omega
    · have hltI : ¬ (a : Int) < (n : Int) := by omega
      have HE : Hid (RunN w (runsI l 0) (.returned u3) wr) := Lib.hid (by
        have hz := HRS.out
        rw [runsI_end l (by rw [HLN.out]; omega), List.append_nil] at hz
        rw [← hz]
        obtain ⟨A', c', hv, g1⟩ := HOW.out.ps
        exact ⟨A', c', by rw [hv], g1, HB.out, fun ad q => (World.ownsRow.lt HOW.out ad.block (by rw [hv, q]; rfl)).1⟩)
      go_wp2
      go_ret
      exact HE.out
abbrev BoT : TypeId := 4
theorem info_bo : (Tryd.prog.info? BoT).map (fun i => (i.zero, i.size, i.bytes)) = some (some (.bool false), 1, 1) := by kernel_rfl
theorem wp_appB {ops : Array Oper} {rest : List Oper} {o : Oper} {a : Act} {Q : Exit → Act → World → Prop} (W : World) (hgd : o.guard = none) (s x : Operand)
    (ho : o.op = .call { callee := .builtin .append, args := #[s, x], argTypes := #[52, 52] })
    (B : Nat) (v : Value) (k : Nat) (hs : a.eval s = v) (hown : W.ownsRow B BoT 1 v k (List.replicate k (.bool false))) (H : Nat) (hH : W.heap.size = H)
    (hx : a.eval x = .slice (some ⟨H, 0, none⟩) 1 1) (hn : k < 1000000) (hB : B ≤ W.heap.size)
    (h : ∀ v' w', w'.ownsRow B BoT 1 v' (k + 1) (List.replicate (k + 1) (.bool false)) → Below B W w' → wpList Tryd.prog ops Q rest (a.put o.dst v') w') :
    wpList Tryd.prog ops Q (o :: rest) a (W.alloc (.cells #[.bool false] BoT)) := by
  subst hH
  obtain ⟨i0, hi, hz0, hz1, hz2⟩ := info_parts info_bo
  have hnb := heap_alloc_new W (.cells #[.bool false] BoT)
  refine wpList_append_own _ hgd s x 52 ho B BoT i0 (.bool false) 1 1 Tryd.underlying52 hi hz0 hz1 hz2 rfl (by decide) v k (List.replicate k (.bool false)) hs (World.ownsRow.alloc hown _) ⟨W.heap.size, 0, none⟩ 1 1
    [.bool false] hx rfl ?_ (by intro u hu; simp at hu; subst hu; rfl) (by unfold maxLen; omega) (by omega) (by simp; omega) ?_
  · intro j u hj
    rw [Addr.add_mid, Nat.zero_add, blk_cell hnb j, ← hj]
    simp
  · intro v' w1 hown' hg _
    refine h v' w1 ?_ (((Below.refl B W).alloc hB _).grown hg (by simp; omega) (fun k hk => (World.ownsRow.lt hown k hk).1))
    rw [List.replicate_succ']
    exact hown'
/-- a row of bools of the call's own -/
def FreeS (W : World) (B : Nat) (v : Value) (m : Nat) (F : Nat → Bool) : Prop := ∃ A c, v = .slice A m c ∧ m ≤ c ∧ c ≤ 9223372036854775807 ∧ (0 < m → ∃ g, A = some ⟨g, 0, none⟩ ∧ B ≤ g ∧ Cells W g m (fun i => .bool (F i)))
theorem free_own {W : World} {B k : Nat} {v : Value} (h : W.ownsRow B BoT 1 v k (List.replicate k (.bool false))) : FreeS W B v k (fun _ => false) := by
  have hc := fun g (hg : v.ownBlock = some g) => World.ownsRow.cells h hg
  obtain ⟨h1, ⟨hv, h0⟩ | ⟨g, cap, cur, hv, hg, hh, hn, hm, _⟩⟩ := h
  · exact ⟨none, 0, by rw [hv, h0], by omega, by omega, fun q => by omega⟩
  · refine ⟨_, cap, hv, hn, by unfold maxLen at hm; omega, fun q => ⟨g, rfl, hg, blk_lt hh, fun i hi => ?_, fun i _ => blk_free hh i⟩⟩
    have := hc g (by rw [hv]; rfl) i (.bool false) (by rw [List.getElem?_replicate, if_pos hi])
    rw [Addr.add_mid, Nat.zero_add] at this
    exact this
structure InS (W w1 w2 w3 w4 : World) (g k s z x : Nat) (F : Nat → Bool) : Prop where
  bel : Below w1.heap.size w1 W
  size : w4.heap.size < W.heap.size
  run : ∀ j, w2.heap.size ≤ j → j < w3.heap.size → W.heap[j]? = w3.heap[j]?
  cells : Cells W g k (fun i => .bool (F i || (decide (s ≤ i) && decide (i < x))))
  box : W.heap[w4.heap.size]? = some (.cells #[.int .i64 (s : Int), .int .i64 (z : Int)] RunT (0, 0))
theorem InS.set {W w1 w2 w3 w4 : World} {g k s z x : Nat} {F : Nat → Bool} (h : InS W w1 w2 w3 w4 g k s z x F) (hg1 : w1.heap.size ≤ g) (hg2 : g < w2.heap.size) (hg4 : g < w4.heap.size) (hx : x < k) (hs : s ≤ x) : InS (W.setCell ⟨g, x, none⟩ (.bool true)) w1 w2 w3 w4 g k s z (x + 1) F :=
  ⟨h.bel.setCell (p := ⟨g, x, none⟩) hg1 _, by rw [size_set]; exact h.size, fun j h1 h2 => (Below.heap_setCell _ _ _ _ (by show j ≠ g; omega)).trans (h.run j h1 h2),
    (h.cells.set_ hx _).congr fun i hi => by
      by_cases e : i = x
      · subst e
        rw [if_pos rfl, decide_eq_true hs, decide_eq_true (show i < i + 1 by omega)]
        simp
      · rw [if_neg e]
        have : decide (i < x + 1) = decide (i < x) := decide_eq_decide.2 ⟨fun q => by omega, fun q => by omega⟩
        rw [this],
    blk_far h.box (p := ⟨g, x, none⟩) (by show w4.heap.size ≠ g; omega) _⟩
/-- where the statement's row of bools stands -/
structure St (W w1 w2 w3 : World) (Af : Option Addr) (k : Nat) (F : Nat → Bool) : Prop where
  bel : Below w1.heap.size w1 W
  size : w3.heap.size ≤ W.heap.size
  run : ∀ j, w2.heap.size ≤ j → j < w3.heap.size → W.heap[j]? = w3.heap[j]?
  cells : 0 < k → ∃ g, Af = some ⟨g, 0, none⟩ ∧ w1.heap.size ≤ g ∧ g < w2.heap.size ∧ Cells W g k (fun i => .bool (F i))
set_option maxHeartbeats 8000000 in
theorem runs19_any (A : Option Addr) (n c : Nat) (l : List Pg) (q : Int) (w : World) (h : PS w A n c l) (hS : SZ w) :
    Calls Tryd.prog 7 #[.slice A n c, .int .i64 q] w fun e w' => e = .returned (.bool true) ∧ Below w.heap.size w w' := by
  have HFE := Lib.hid (few_any A n c l w h)
  have hl70 : (l.take 70).length ≤ 70 := by rw [List.length_take]; omega
  generalize l.take 70 = l7 at *
  have HS := Lib.hid hS
  obtain ⟨m, hm⟩ : ∃ m, m = l7.length := ⟨_, rfl⟩
  have HM := Lib.hid hm
  rw [← hm] at HFE hl70
  clear h hS hm
  go_enter Tryd.func7, Tryd.ntmps7
  go_wp2_with fail
  refine HFE.out.mono ?_
  rintro e w0 ⟨rfl, rfl, hp7⟩
  have HP7 := Lib.hid hp7
  have hcm := hp7.capm
  have hcn := hp7.cap
  clear hp7
  go_wp2_with fail
  refine (ours_any A m c l7 w HP7.out (by omega)).mono ?_
  rintro e w1 ⟨A3, c3', rfl, hmi, hx1, hb⟩
  have HB1 := Lib.hid hb
  have HMI := Lib.hid hmi
  clear hx1 hmi hb
  rw [← HM.out] at HMI
  rw [← HM.out]
  go_wp2
  go_loopw [6, 22] (fun v i W => ∃ k : Nat, i = .int .i64 (k : Int) ∧ k ≤ m ∧ W.ownsRow w1.heap.size BoT 1 v k (List.replicate k (.bool false)) ∧ Below w1.heap.size w1 W) (fun _ i _ => m - (intOf i).toNat)
  case atStart => exact ⟨0, rfl, Nat.zero_le _, World.ownsRow_nil _ _ _ _, Below.refl _ _⟩
  case round =>
    obtain ⟨k, rfl, hk, hown, hb⟩ := hrel
    have HOW := Lib.hid hown
    have HB := Lib.hid hb
    have HBS := Lib.hid hb.size
    clear hown hb
    by_cases hlt : k < m
    · have hltI : (k : Int) < (m : Int) := by omega
      go_wp2_with (at_builtin; refine wp_appB _ rfl (.tmp 24) (.tmp 25) rfl w1.heap.size u6 k rfl HOW.out _ rfl rfl (by omega) HBS.out ?_; intro v1 w2 hown1 hb1; have HOW1 := Lib.hid hown1; have HBN := Lib.hid (HB.out.trans hb1); clear hown1 hb1)
      go_roundw
      case rel => exact ⟨k + 1, by go_num, by omega, HOW1.out, HBN.out⟩
      case measure => simp [intOf]; omega
    · obtain rfl : k = m := by omega
      have hltI : ¬ (k : Int) < (k : Int) := by omega
      obtain ⟨w2, rfl⟩ : ∃ w2, w2 = wr := ⟨wr, rfl⟩
      obtain ⟨Af, cf, rfl, hcf, hcfm, hfr⟩ := free_own HOW.out
      have HFR := Lib.hid hfr
      have HB0 := Lib.hid (HB1.out.trans (HB.out.mono HB1.out.size))
      have HRO : Hid (RunsOk l7 0 (runsI l7 0)) := Lib.hid (runsI_ok l7 _ 0 (Nat.le_refl _))
      have HCR := Lib.hid (runsN_any A3 k c3' l7 w2 (HMI.out.below HB.out) (HS.out.below HB0.out) (by omega))
      have HRF : Hid (firstR q (runsI l7 0) = firstI l7 q 0) := Lib.hid (firstR_is l7 q _ 0 HRO.out)
      obtain ⟨rs, hrs⟩ : ∃ rs, rs = runsI l7 0 := ⟨_, rfl⟩
      rw [← hrs] at HRO HCR HRF
      clear hfr hrs HOW
      go_wp2_with fail
      refine HCR.out.mono ?_
      rintro e w3 ⟨Ar, cr, rfl, hrn, hb, hnew⟩
      have HRN := Lib.hid hrn
      have hcr := hrn.cap
      have hcrm := hrn.capm
      have HB3 := Lib.hid (HB.out.trans (hb.mono HB.out.size))
      have HNW : Hid (∀ ad, Ar = some ad → w2.heap.size ≤ ad.block) := Lib.hid hnew
      have HFR3 : Hid (0 < k → ∃ g, Af = some ⟨g, 0, none⟩ ∧ w1.heap.size ≤ g ∧ g < w2.heap.size ∧ Cells w3 g k (fun i => .bool false)) := Lib.hid (fun q => by
        obtain ⟨g, e1, e2, e3⟩ := HFR.out q
        exact ⟨g, e1, e2, e3.lt, e3.after hb⟩)
      obtain ⟨y, hy⟩ : ∃ y, y = rs.length := ⟨_, rfl⟩
      have HY := Lib.hid hy
      rw [← hy] at HRN hcr
      rw [← hy]
      clear hrn hb hnew hy HFR
      have HKR0 : Hid (∀ j, w2.heap.size ≤ j → j < w3.heap.size → w3.heap[j]? = w3.heap[j]?) := Lib.hid (fun _ _ _ => rfl)
      go_wp2
      go_loopw [7, 31] (fun e i W => ∃ j a : Nat, i = .int .i64 (j : Int) ∧ e = .int .i64 ((a : Int) - 1) ∧ j ≤ y ∧ a ≤ k + 1 ∧ RunsOk l7 a (rs.drop j) ∧ St W w1 w2 w3 Af k (fun t => decide (t < a) && isZ (pg l7 t))) (fun _ i _ => y - (intOf i).toNat)
      case atStart => exact ⟨0, 0, rfl, rfl, Nat.zero_le _, by omega, HRO.out, HB3.out, Nat.le_refl _, fun _ _ _ => rfl, fun q => by
        obtain ⟨g, e1, e2, e3, e4⟩ := HFR3.out q
        exact ⟨g, e1, e2, e3, e4.congr fun i _ => by simp⟩⟩
      case round =>
        obtain ⟨j, a, rfl, rfl, hj, ha, hro, hst⟩ := hrel
        obtain ⟨w4, rfl⟩ : ∃ w4, w4 = wr := ⟨wr, rfl⟩
        have HST := Lib.hid hst
        have HRJ := Lib.hid hro
        clear hst hro
        by_cases hjy : j < y
        · have hjI : (j : Int) < (y : Int) := by omega
          obtain ⟨b2, o2, rfl, hb2, hcell⟩ := HRN.out.at_ (by omega)
          have hbn := HNW.out _ rfl
          obtain ⟨c0, c1⟩ := hcell j hjy
          have e0 := HST.out.run b2 hbn hb2
          replace c0 := (World.cell?_of_block e0).trans c0
          replace c1 := (World.cell?_of_block e0).trans c1
          have hbW : b2 < w4.heap.size := Nat.lt_of_lt_of_le hb2 HST.out.size
          have hd : rs.drop j = rs.getD j (0, 0) :: rs.drop (j + 1) := by
            rw [List.drop_eq_getElem_cons (by rw [← HY.out]; exact hjy), List.getD_eq_getElem?_getD, List.getElem?_eq_getElem (by rw [← HY.out]; exact hjy)]; rfl
          have HR2 := Lib.hid HRJ.out
          rw [hd] at HR2
          generalize rs.getD j (0, 0) = p at *
          obtain ⟨s, z⟩ := p
          dsimp only at c0 c1
          obtain ⟨k1, k2, k3, k4, k5, k6, k7⟩ := HR2.out
          rw [← HM.out] at k3
          have HK4 := Lib.hid k4
          have HK5 := Lib.hid k5
          have HK6 := Lib.hid k6
          have HK7 := Lib.hid k7
          obtain ⟨g, rfl, hg1, hg2, hcl⟩ := HST.out.cells (by omega)
          have HCL := Lib.hid (hcl.alloc (.cells #[.int .i64 (s : Int), .int .i64 (z : Int)] RunT))
          have HBX := Lib.hid (heap_alloc_new w4 (.cells #[.int .i64 (s : Int), .int .i64 (z : Int)] RunT))
          have hgW : g < w4.heap.size := hcl.lt
          obtain ⟨t, ht⟩ : ∃ t : Nat, (s : Int) + (z : Int) = (t : Int) := ⟨s + z, by omega⟩
          have HT : Hid (t = s + z) := Lib.hid (by omega)
          have hz1 : ¬ (z : Int) < 1 := by omega
          have hs1 : ¬ (s : Int) ≤ (a : Int) - 1 := by omega
          have hs0 : ¬ (s : Int) < 0 := by omega
          have htk : ¬ (k : Int) < (t : Int) := by omega
          have hst2 : s ≤ t := by omega
          have htk2 : t ≤ k := by omega
          clear hcell e0 hd k4 k5 k6 k7 hcl HR2
          go_wp2
          go_loopw [10] (fun v W => ∃ x : Nat, v = .int .i64 (x : Int) ∧ s ≤ x ∧ x ≤ t ∧ InS W w1 w2 w3 w4 g k s z x (fun i => decide (i < a) && isZ (pg l7 i))) (fun v _ => t - (intOf v).toNat)
          case atStart => exact ⟨s, rfl, Nat.le_refl _, hst2, HST.out.bel.trans ((bel_alloc _ _).mono HST.out.bel.size), by simp, fun j h1 h2 => (Below.heap_alloc _ _ _ (Nat.lt_of_lt_of_le h2 HST.out.size)).trans (HST.out.run j h1 h2), HCL.out.congr fun i _ => by
            have : (decide (s ≤ i) && decide (i < s)) = false := by
              by_cases q : s ≤ i
              · rw [decide_eq_false (show ¬ i < s by omega), Bool.and_false]
              · rw [decide_eq_false q, Bool.false_and]
            rw [this, Bool.or_false], HBX.out⟩
          case round =>
            obtain ⟨x, rfl, hx1, hx2, hin⟩ := hrel
            have HIN := Lib.hid hin
            clear hin
            have b0 := blk_cell HIN.out.box 0
            have b1 := blk_cell HIN.out.box 1
            by_cases hxt : x < t
            · have hxI : (x : Int) < (t : Int) := by omega
              have hxk : x < k := by omega
              have hcx := HIN.out.cells.cell x hxk
              have hfx := HIN.out.cells.free x hxk
              have hgx := HIN.out.cells.lt
              have HNX := Lib.hid (HIN.out.set hg1 hg2 (by have := HST.out.size; omega) hxk hx1)
              obtain ⟨bb, hbb⟩ : ∃ bb, bb = ((fun i => decide (i < a) && isZ (pg l7 i)) x || (decide (s ≤ x) && decide (x < x))) := ⟨_, rfl⟩
              rw [← hbb] at hcx
              clear hbb
              go_wp2
              go_roundw
              case rel => exact ⟨x + 1, by go_num, by omega, by omega, HNX.out⟩
              case measure => simp [intOf]; omega
            · obtain rfl : x = t := by omega
              have hxI : ¬ (x : Int) < (x : Int) := by omega
              have HNS : Hid (St wr w1 w2 w3 (some ⟨g, 0, none⟩) k fun t => decide (t < x + 1) && isZ (pg l7 t)) := Lib.hid ⟨HIN.out.bel, by have := HST.out.size; have := HIN.out.size; omega, HIN.out.run, fun _ => ⟨g, rfl, hg1, hg2, HIN.out.cells.congr fun i hi => by
                refine congrArg Value.bool ?_
                have e4 := HK4.out i
                have e5 := HK5.out i
                have hT := HT.out
                rcases (by omega : i < a ∨ (a ≤ i ∧ i < s) ∨ (s ≤ i ∧ i < x) ∨ i = x ∨ x < i) with q | ⟨q, q'⟩ | ⟨q, q'⟩ | q | q
                · simp only [decide_eq_true q, decide_eq_true (show i < x + 1 by omega), decide_eq_false (show ¬ s ≤ i by omega), Bool.true_and, Bool.false_and, Bool.or_false]
                · simp only [decide_eq_false (show ¬ i < a by omega), decide_eq_true (show i < x + 1 by omega), decide_eq_false (show ¬ s ≤ i by omega), Bool.false_and, Bool.true_and, Bool.or_false]
                  exact (e4 q q').symm
                · simp only [decide_eq_false (show ¬ i < a by omega), decide_eq_true (show i < x + 1 by omega), decide_eq_true q, decide_eq_true q', Bool.false_and, Bool.true_and, Bool.false_or]
                  exact (e5 q (by omega)).symm
                · have e6 := HK6.out (by rw [← HM.out]; omega)
                  rw [← hT, ← q] at e6
                  simp only [decide_eq_false (show ¬ i < a by omega), decide_eq_true (show i < x + 1 by omega), decide_eq_false (show ¬ i < x by omega), Bool.false_and, Bool.true_and, Bool.and_false, Bool.or_false]
                  exact e6.symm
                · simp only [decide_eq_false (show ¬ i < a by omega), decide_eq_false (show ¬ i < x + 1 by omega), decide_eq_false (show ¬ i < x by omega), Bool.false_and, Bool.and_false, Bool.or_false]⟩⟩
              have HKN : Hid (RunsOk l7 (x + 1) (rs.drop (j + 1))) := Lib.hid (by have := HK7.out; rw [← HT.out] at this; exact this)
              go_wp2
              go_roundw
              case rel => exact ⟨j + 1, x + 1, by go_num, congrArg (Value.int .i64) (by omega), by omega, by omega, HKN.out, HNS.out⟩
              case measure => simp [intOf]; omega
        · obtain rfl : j = y := by omega
          have hjI : ¬ (j : Int) < (j : Int) := by omega
          have HFN : Hid (0 < k → ∃ g, Af = some ⟨g, 0, none⟩ ∧ g < w4.heap.size ∧ ∀ W, Below w4.heap.size w4 W → Cells W g k (fun i => .bool (isZ (pg l7 i)))) := Lib.hid (fun q => by
            obtain ⟨g, e1, e2, e3, e4⟩ := HST.out.cells q
            have hr := HRJ.out
            rw [List.drop_of_length_le (by rw [← HY.out]; exact Nat.le_refl _)] at hr
            refine ⟨g, e1, e4.lt, fun W hb => (e4.congr fun i hi => congrArg Value.bool ?_).after hb⟩
            by_cases hia : i < a
            · rw [decide_eq_true hia, Bool.true_and]
            · rw [decide_eq_false hia, Bool.false_and]
              exact (hr i (by omega) (by rw [← HM.out]; exact hi)).symm)
          have HB4 : Hid (Below w.heap.size w w4) := Lib.hid (HB1.out.trans (HST.out.bel.mono HB1.out.size))
          have HBM : Hid (Below w1.heap.size w1 w4) := Lib.hid HST.out.bel
          clear HST HRJ HNW HRN HKR0 HFR3 HB3
          go_wp2
          go_loopw [81] (fun v W => ∃ x : Nat, v = .int .i64 (x : Int) ∧ x ≤ k ∧ Below w4.heap.size w4 W) (fun v _ => k - (intOf v).toNat)
          case atStart => exact ⟨0, rfl, Nat.zero_le _, Below.refl _ _⟩
          case round =>
            obtain ⟨x, rfl, hx, hb5⟩ := hrel
            have HB5 := Lib.hid hb5
            have HB6 : Hid (Below w.heap.size w wr) := Lib.hid (HB4.out.trans (hb5.mono HB4.out.size))
            clear hb5
            by_cases hxk : x < k
            · obtain ⟨b, o, rfl, hb0, hcell⟩ := HP7.out.cells (by omega)
              have hbW := (hcell _ HB6.out).1
              obtain ⟨c0, c1, c2, c3, c4⟩ := (hcell _ HB6.out).2 x hxk
              obtain ⟨g, rfl, hg, hgc⟩ := HFN.out (by omega)
              have hcx := (hgc _ HB5.out).cell x hxk
              have hgW := (hgc _ HB5.out).lt
              have hxI : (x : Int) < (k : Int) := by omega
              generalize pg l7 x = p at *
              have HBN : Hid (∀ m, Below w4.heap.size w4 ((wr.alloc (.cells #[.int .i64 p.k, .int .i64 p.c, .int .i64 p.r, .int .i64 p.s, .int .u64 p.n] RT)).drewN m)) := Lib.hid (fun m => below_drewN (HB5.out.trans ((bel_alloc _ _).mono HB5.out.size)) m)
              clear hcell hgc
              by_cases hz : isZ p = true
              · obtain rfl := isZ_iff.1 hz
                rw [hz] at hcx
                dsimp only [pz] at c0 c1 c2 c3 c4 HBN
                clear hz
                go_wp2_with fail
                go_quiet (fail)
                go_wp2
                go_roundw
                case rel => exact ⟨x + 1, by go_num, by omega, HBN.out _⟩
                case measure => simp [intOf]; omega
              · have hz' : isZ p = false := by simpa using hz
                rw [hz'] at hcx
                have hcs := eqP_no hz'
                clear hz hz'
                dsimp only [pz] at hcs
                rcases hcs with h1 | ⟨h1, h2⟩ | ⟨h1, h2, h3⟩ | ⟨h1, h2, h3, h4⟩ | ⟨h1, h2, h3, h4, h5⟩
                · have e1 : (p.k == 0) = false := beq_eq_false_iff_ne.2 h1
                  have e1' : ¬ p.k = 0 := h1
                  go_wp2_with fail
                  go_quiet (fail)
                  go_wp2
                  go_roundw
                  case rel => exact ⟨x + 1, by go_num, by omega, HBN.out _⟩
                  case measure => simp [intOf]; omega
                · have e1 : (p.c == 0) = false := beq_eq_false_iff_ne.2 h2
                  have e1' : ¬ p.c = 0 := h2
                  rw [h1] at c0 HBN
                  go_wp2_with fail
                  go_quiet (fail)
                  go_wp2
                  go_roundw
                  case rel => exact ⟨x + 1, by go_num, by omega, HBN.out _⟩
                  case measure => simp [intOf]; omega
                · have e1 : (p.r == 0) = false := beq_eq_false_iff_ne.2 h3
                  have e1' : ¬ p.r = 0 := h3
                  rw [h1] at c0 HBN
                  rw [h2] at c1 HBN
                  go_wp2_with fail
                  go_quiet (fail)
                  go_wp2
                  go_roundw
                  case rel => exact ⟨x + 1, by go_num, by omega, HBN.out _⟩
                  case measure => simp [intOf]; omega
                · have e1 : (p.s == 0) = false := beq_eq_false_iff_ne.2 h4
                  have e1' : ¬ p.s = 0 := h4
                  rw [h1] at c0 HBN
                  rw [h2] at c1 HBN
                  rw [h3] at c2 HBN
                  go_wp2_with fail
                  go_quiet (fail)
                  go_wp2
                  go_roundw
                  case rel => exact ⟨x + 1, by go_num, by omega, HBN.out _⟩
                  case measure => simp [intOf]; omega
                · have e1 : (p.n == 0) = false := beq_eq_false_iff_ne.2 h5
                  have e1' : ¬ p.n = 0 := h5
                  rw [h1] at c0 HBN
                  rw [h2] at c1 HBN
                  rw [h3] at c2 HBN
                  rw [h4] at c3 HBN
                  go_wp2_with fail
                  go_quiet (fail)
                  go_wp2
                  go_roundw
                  case rel => exact ⟨x + 1, by go_num, by omega, HBN.out _⟩
                  case measure => simp [intOf]; omega
            · obtain rfl : x = k := by omega
              have hxI : ¬ (x : Int) < (x : Int) := by omega
              have HB7 : Hid (Below w1.heap.size w1 wr) := Lib.hid (HBM.out.trans (HB5.out.mono HBM.out.size))
              have HFI := Lib.hid (pfirst_any A3 x c3' l7 q wr (HMI.out.below HB7.out) (HS.out.below HB6.out) (by omega))
              have HAW : Hid (∀ W, Below wr.heap.size wr W → Calls Tryd.prog 10 #[] W fun e w' => e = .returned (.bool true) ∧ Below W.heap.size W w') := Lib.hid (fun W hb => awake19_any W (HS.out.below (HB6.out.trans (hb.mono HB6.out.size))))
              have HPZ : Hid (∀ W, Below wr.heap.size wr W → PS W A x c l7) := Lib.hid (fun W hb => HP7.out.below (HB6.out.trans (hb.mono HB6.out.size)))
              by_cases hq : 100 < q
              · have hf : firstI l7 q 0 = -1 := by
                  rcases firstI_neg l7 q _ 0 (Nat.le_refl _) with h1 | ⟨h1, h2, h3, h4⟩
                  · exact h1
                  · rw [freeN_iff] at h4
                    rw [← HM.out] at h4
                    omega
                have e1 : firA l7 q = 0 := by unfold firA; rw [if_pos hf]
                have e2 : firB l7 q = false := decide_eq_false (fun z => z hf)
                rw [e1, e2] at HFI
                clear hf e1 e2 HRF HFN
                go_wp2_with fail
                refine HFI.out.mono ?_
                rintro e w5 ⟨rfl, hb⟩
                have HB8 := Lib.hid hb
                clear hb
                go_wp2_with fail
                refine (HAW.out _ HB8.out).mono ?_
                rintro e w6 ⟨rfl, hb⟩
                have HB9 := Lib.hid (HB6.out.trans ((HB8.out.trans (hb.mono HB8.out.size)).mono HB6.out.size))
                clear hb
                go_wp2
                go_ret
                exact ⟨rfl, HB9.out⟩
              · have HRI : Hid (∀ W, Below wr.heap.size wr W → Calls Tryd.prog 24 #[.slice A x c, .int .i64 q] W fun e w' => e = .returned (.int .i64 (firstI l7 q 0)) ∧ W = w') := Lib.hid (fun W hb => rfirst_any A x c q l7 W (HPZ.out W hb) (by omega) (by omega))
                by_cases hf : firstI l7 q 0 = -1
                · have e1 : firA l7 q = 0 := by unfold firA; rw [if_pos hf]
                  have e2 : firB l7 q = false := decide_eq_false (fun z => z hf)
                  rw [e1, e2] at HFI
                  rw [hf] at HRI
                  clear hf e1 e2 HRF HFN
                  go_wp2_with fail
                  refine HFI.out.mono ?_
                  rintro e w5 ⟨rfl, hb⟩
                  have HB8 := Lib.hid hb
                  clear hb
                  go_wp2_with fail
                  refine (HRI.out _ HB8.out).mono ?_
                  rintro e w6 ⟨rfl, rfl⟩
                  go_wp2_with fail
                  refine (HAW.out _ HB8.out).mono ?_
                  rintro e w7 ⟨rfl, hb⟩
                  have HB9 := Lib.hid (HB6.out.trans ((HB8.out.trans (hb.mono HB8.out.size)).mono HB6.out.size))
                  clear hb
                  go_wp2
                  go_ret
                  exact ⟨rfl, HB9.out⟩
                · have e1 : firA l7 q = firstI l7 q 0 := by unfold firA; rw [if_neg hf]
                  have e2 : firB l7 q = true := decide_eq_true hf
                  have e3 : 0 ≤ firstI l7 q 0 := by
                    rcases firstI_neg l7 q _ 0 (Nat.le_refl _) with h1 | h1
                    · exact absurd h1 hf
                    · omega
                  rw [e1, e2] at HFI
                  clear hf e1 e2 HRF HFN
                  generalize firstI l7 q 0 = fi at *
                  go_wp2_with fail
                  refine HFI.out.mono ?_
                  rintro e w5 ⟨rfl, hb⟩
                  have HB8 := Lib.hid hb
                  clear hb
                  go_wp2_with fail
                  refine (HRI.out _ HB8.out).mono ?_
                  rintro e w6 ⟨rfl, rfl⟩
                  go_wp2_with fail
                  refine (HAW.out _ HB8.out).mono ?_
                  rintro e w7 ⟨rfl, hb⟩
                  have HB9 := Lib.hid (HB6.out.trans ((HB8.out.trans (hb.mono HB8.out.size)).mono HB6.out.size))
                  clear hb
                  go_wp2
                  go_ret
                  exact ⟨rfl, HB9.out⟩
end Go.Proofs.YtajgbflmfopfoaaDoor
