/-
  Heads of roots: HandleParse's walk.
-/
import Derived.Test.YtfnppoagmambgaaHoH
namespace Go.Proofs.Ytfnppoagmambgaa
open Go.RowKit Go Go.WideShapes Go.ChangeShapes Go.Deep
set_option linter.unusedVariables false
set_option linter.unusedSimpArgs false
set_option maxRecDepth 100000
theorem Own.set {w : World} {B g n cap : Nat} {l : List Nat} (h : Own w B (.slice (some ⟨g, 0, none⟩) n cap) l) {k x : Nat} (hk : k < l.length) :
    Own (w.setCell ⟨g, k, none⟩ (.int .u8 (x : Int))) B (.slice (some ⟨g, 0, none⟩) n cap) (l.set k x) := by
  obtain ⟨h1, h2⟩ := h
  rcases h2 with ⟨e, _⟩ | ⟨g2, cap2, cur, e, hg, hh, hn, hm, hs, ht⟩
  · cases e
  · injection e with e1 e2 e3
    have e4 := Option.some.inj e1
    injection e4 with e5 _ _
    subst e5 e2 e3
    refine ⟨by rw [bvals_len, List.length_set, Nat.mul_one], .inr ⟨g, cap, _, by rw [List.length_set], hg, blk_set hh k _, by rw [List.length_set]; exact hn, hm, by simpa using hs, ?_⟩⟩
    rw [List.length_set, Nat.mul_one] at *
    rw [Array.toList_setIfInBounds, List.take_set, ht]
    unfold bvals
    rw [List.map_set]
theorem Own.cut {w : World} {B g n cap : Nat} {l : List Nat} (h : Own w B (.slice (some ⟨g, 0, none⟩) n cap) l) {k : Nat} (hk : k ≤ l.length) :
    Own w B (.slice (some ⟨g, 0, none⟩) k cap) (l.take k) := by
  obtain ⟨h1, h2⟩ := h
  have hl : (l.take k).length = k := by rw [List.length_take]; omega
  rcases h2 with ⟨e, _⟩ | ⟨g2, cap2, cur, e, hg, hh, hn, hm, hs, ht⟩
  · cases e
  · injection e with e1 e2 e3
    have e4 := Option.some.inj e1
    injection e4 with e5 _ _
    subst e5 e2 e3
    refine ⟨by rw [bvals_len, Nat.mul_one], .inr ⟨g, cap, cur, by rw [hl], hg, hh, by omega, hm, hs, ?_⟩⟩
    rw [hl, Nat.mul_one]
    rw [Nat.mul_one] at ht
    have e6 : cur.toList.take k = (cur.toList.take l.length).take k := by rw [List.take_take, Nat.min_eq_left hk]
    rw [e6, ht]
    unfold bvals
    rw [List.map_take]
theorem Own.at256 {w : World} {B : Nat} {v : Value} {l : List Nat} (h : Own w B v l) (hl : 0 < l.length) : ∃ g cap, v = .slice (some ⟨g, 0, none⟩) l.length cap ∧ l.length ≤ cap ∧ cap ≤ 9223372036854775807 ∧ ∀ k, k < l.length → (∃ u, w.cell? ⟨g, k, none⟩ = some u) ∧ w.frozen? ⟨g, k, none⟩ = false := by
  obtain ⟨h1, h2⟩ := h
  rcases h2 with ⟨rfl, e⟩ | ⟨g, cap, cur, rfl, hg, hh, hn, hm, hs, ht⟩
  · omega
  · refine ⟨g, cap, rfl, hn, by unfold maxLen at hm; omega, fun k hk => ⟨?_, blk_free hh k⟩⟩
    have hk2 : k < cur.size := by omega
    exact ⟨_, (blk_cell hh k).trans (Array.getElem?_eq_getElem hk2)⟩

/-- integers that came in -/
def IntsE (w : World) (A : Option Addr) (n : Nat) : Prop := n ≤ 9223372036854775807 ∧ (0 < n → ∃ b o, A = some ⟨b, o, none⟩ ∧ b < w.heap.size ∧ ∀ i, i < n → ∃ z : Int, w.cell? ⟨b, o + i, none⟩ = some (.int .i64 z))
section
variable {H : Type} {enc : TypeId × Value → H} {w : World}
theorem ints_open {A : Option Addr} {n c : Nat} {d : DataW H} {p : List MemPlace} (h : DataW.Trod enc Try.prog w 0 (fun _ => true) true 53 (.slice A n c) d p) : IntsE w A n := by
  obtain ⟨fuel, hf⟩ := h
  rcases open_ints Try.underlying53 Try.underlying3 (by kernel_rfl) hf with ⟨hcs, _⟩ | ⟨x, l, cc, zs, hcs, _, hl, hm, hz, _, hcell, hwz⟩
  · simp [Value.cells] at hcs
    obtain ⟨rfl, rfl, rfl⟩ := hcs
    exact ⟨by omega, fun h => absurd h (by omega)⟩
  · simp [Value.cells] at hcs
    obtain ⟨rfl, rfl, rfl⟩ := hcs
    have hz2 : zs.length = c := by simpa using hz
    refine ⟨by unfold maxLen at hm; omega, fun hn => ?_⟩
    obtain ⟨b, o, rfl, hc⟩ := ints_at hcell (by omega)
    exact ⟨b, o, rfl, block_lt_of_cell (hc 0 (by omega)), fun i hi => ⟨_, hc i (by omega)⟩⟩
end
theorem parse_ex (b : List Nat) : ∃ (v : List Nat) (er : Int), ParseIs b v er ∧ (er = 0 ∨ er = 4) ∧ v.length = 17 := by
  by_cases h : IsHead b
  · by_cases h2 : rdL b = zl17
    · exact ⟨_, _, .inr (.inl ⟨h, h2, rfl, rfl⟩), .inl rfl, by simp [one17, zl17]⟩
    · exact ⟨_, _, .inr (.inr ⟨h, h2, rfl, rfl⟩), .inl rfl, rdL_len b⟩
  · exact ⟨_, _, .inl ⟨h, rfl, rfl⟩, .inr rfl, by simp [zl17]⟩
theorem rparse_any (A : Option Addr) (n c : Nat) (b v : List Nat) (er : Int) (w : World) (hs : BS w w.heap.size A n c b) (hv : ParseIs b v er) :
    Calls Try.prog 20 #[.slice A n c] w (RParseTo w v (er == 0)) := by
  by_cases hn : n = 256
  · subst hn; exact rparse_256 A c b v er w hs hv
  · have hno : ¬ IsHead b := fun h => hn (by rw [← hs.len]; exact h.1)
    rcases hv with ⟨_, rfl, rfl⟩ | ⟨h, _⟩ | ⟨h, _⟩
    · exact rparse_short A n c w hn
    · exact absurd h hno
    · exact absurd h hno
theorem and255 (k : Int) : ∃ j : Nat, j < 256 ∧ bits .and .i64 k 255 = (j : Int) := by
  have h1 : (BitVec.ofInt 64 k).toNat &&& 255 ≤ 255 := Nat.and_le_right
  refine ⟨(BitVec.ofInt 64 k).toNat &&& 255, by omega, ?_⟩
  show IntKind.i64.wrap ((BitVec.ofInt 64 k &&& BitVec.ofInt 64 255).toNat : Int) = _
  rw [BitVec.toNat_and]
  have h2 : (BitVec.ofInt 64 255).toNat = 255 := by decide
  rw [h2]
  exact IntWalk.i64_in _ ⟨by omega, by omega⟩
/-- some 256 bytes of the call's own -/
def OwnB (W : World) (B : Nat) (v : Value) (n : Nat) : Prop := ∃ m : List Nat, m.length = n ∧ (∀ i, m.getD i 0 < 256) ∧ Own W B v m
def TurnR (w : World) (v i : Value) (n1 : Nat) (wr : World) : Prop := ∃ k : Nat, i = .int .i64 (k : Int) ∧ k ≤ n1 ∧ Below w.heap.size w wr ∧ OwnB wr w.heap.size v 256
set_option maxHeartbeats 4000000 in
theorem handleParse_any (l : List Nat) (hl : l.length = 17) (h64 : ∀ i, l.getD i 0 < 2 ^ 64) (A1 : Option Addr) (n1 c1 : Nat) (A2 : Option Addr) (n2 c2 : Nat) (l2 : List Nat) (cu : Int) (w : World) (h1 : IntsE w A1 n1) (h2 : BS w w.heap.size A2 n2 c2 l2) :
    Calls Try.prog 6 #[.agg (rtV l), .slice A1 n1 c1, .slice A2 n2 c2, .int .i64 cu] w fun e w' => e = .returned (.bool true) ∧ Below w.heap.size w w' := by
  have HW0 := Lib.hid (heap_alloc_new w (.cells (rtV l) 40))
  have hsz1 : (w.alloc (.cells (rtV l) 40)).heap.size = w.heap.size + 1 := by simp
  have HB0 : Hid (Below w.heap.size w (w.alloc (.cells (rtV l) 40))) := Lib.hid ((Below.refl _ _).alloc (Nat.le_refl _) _)
  have HX0 : Hid (((w.alloc (.cells (rtV l) 40)).alloc (.cells #[] 5)).heap[w.heap.size]? = some (.cells (rtV l) 40 (0, 0))) := Lib.hid ((Below.heap_alloc _ _ _ (by rw [hsz1]; omega)).trans HW0.out)
  have HB0' : Hid (Below w.heap.size w ((w.alloc (.cells (rtV l) 40)).alloc (.cells #[] 5))) := Lib.hid (HB0.out.alloc (by rw [hsz1]; omega) _)
  have hown0 : Own ((w.alloc (.cells (rtV l) 40)).alloc (.cells #[] 5)) w.heap.size (.slice (some ⟨w.heap.size + 1, 0, none⟩) 0 0) [] := by
    have := heap_alloc_new (w.alloc (.cells (rtV l) 40)) (.cells #[] 5)
    rw [hsz1] at this
    exact Own.blk (by omega) this rfl (Nat.le_refl _) (by unfold maxLen; omega) rfl rfl
  have HO0 := Lib.hid hown0
  have HIR := Lib.hid (info_rtr l)
  have HRB := Lib.hid (fun W => rhead_any l hl h64 W)
  have HLH := Lib.hid (headL_len l)
  have HHB := Lib.hid (headL_byte l)
  have H1 := Lib.hid h1
  have H2 := Lib.hid h2
  have hn1 := h1.1
  have hz := zero_rtr
  have hzh := zero_rth
  have HIZ := Lib.hid (info_rtr zl17)
  obtain ⟨rt, hrt⟩ : ∃ z, z = rtV l := ⟨_, rfl⟩
  rw [← hrt] at HW0 HB0 HX0 HB0' HO0 HIR HRB ⊢
  clear hl h64 h1 h2 hown0 hsz1 hrt
  go_enter Try.func6, Try.ntmps6
  go_wp2_with (with_reducible refine wpList_load_row rfl 40 (.tmp 4) rfl _ rfl 40 _ _ _ HX0.out Try.underlying40 rfl HIR.out ?_)
  refine (HRB.out _).mono ?_
  rintro e w1 ⟨A3, c3, rfl, hb1, hbs1⟩
  rw [HLH.out] at hbs1
  have HB1 := Lib.hid (HB0'.out.trans (hb1.mono HB0'.out.size))
  have HO1 := Lib.hid (HO0.out.below hb1)
  have HS1 := Lib.hid hbs1
  obtain ⟨b3, o3, hA3, _, _⟩ := hbs1.at_ (by omega)
  subst hA3
  clear hb1 hbs1
  rw [HLH.out]
  go_wp2_with (at_builtin; refine wp_apps _ rfl _ _ rfl w.heap.size _ _ rfl HO1.out _ _ 256 _ _ rfl HS1.out (fun h => by cases h) (by simp) HB1.out.size ?_; intro v' w2 hown2 hb2)
  have HB2 := Lib.hid (HB1.out.trans hb2)
  have hown2' : Own w2 w.heap.size v' (headL l) := by simpa using hown2
  obtain ⟨g, cap, rfl, hcap, hcap2, _⟩ := hown2'.at256 (by rw [HLH.out]; omega)
  rw [HLH.out] at hown2' hcap ⊢
  have HO2 : Hid (OwnB w2 w.heap.size (.slice (some ⟨g, 0, none⟩) 256 cap) 256) := Lib.hid ⟨headL l, HLH.out, HHB.out, hown2'⟩
  have hgB : w.heap.size ≤ g := (hown2'.lt (by simp [Value.ownBlock])).1
  clear hown2 hown2' hb2
  clear HB1 HO1 HS1 HW0 HB0 HX0 HB0' HO0
  go_wp2
  go_loopw [22] (fun i wr => TurnR w (.slice (some ⟨g, 0, none⟩) 256 cap) i n1 wr) (fun i _ => (n1 - intOf i).toNat)
  case atStart => exact ⟨0, rfl, by omega, HB2.out, HO2.out⟩
  case round =>
    obtain ⟨k, rfl, hk, hb, m, hml, hmb, hown⟩ := hrel
    have hcl : ∀ k, k < 256 → (∃ u, wr.cell? ⟨g, k, none⟩ = some u) ∧ wr.frozen? ⟨g, k, none⟩ = false := by
      obtain ⟨g', cap', he, _, _, h9⟩ := hown.at256 (by omega)
      injection he with e1 e2 e3
      injection e1 with e1
      injection e1 with e1 e4 e5
      subst e1
      rw [hml] at h9
      exact h9
    by_cases hlt : k < n1
    · obtain ⟨b1, o1, rfl, hb1, hcell⟩ := H1.out.2 (by omega)
      obtain ⟨z, hzc⟩ := hcell k hlt
      have k1 : wr.cell? ⟨b1, o1 + k, none⟩ = some (.int .i64 z) := (hb.cell hb1).trans hzc
      have HSAME : Hid (TurnR w (.slice (some ⟨g, 0, none⟩) 256 cap) (.int .i64 ((k : Int) + 1)) n1 wr) := Lib.hid ⟨k + 1, by simp, by omega, hb, m, hml, hmb, hown⟩
      by_cases h6 : k < 6
      · have h6i : decide ((k : Int) < 6) = true := decide_eq_true (by omega)
        by_cases h2n : k < n2
        · obtain ⟨b2, o2, rfl, hb2, hcell2⟩ := H2.out.at_ (by omega)
          have k2 : wr.cell? ⟨b2, o2 + k, none⟩ = some (.int .u8 ((l2.getD k 0 : Nat) : Int)) := (hb.cell hb2).trans (hcell2 k h2n)
          have hy := H2.out.byte k
          obtain ⟨j, hj, hand⟩ := and255 z
          obtain ⟨⟨old, k3⟩, k4⟩ := hcl j (by omega)
          have hset := hown.set (k := j) (x := l2.getD k 0) (by omega)
          have HN : Hid (TurnR w (.slice (some ⟨g, 0, none⟩) 256 cap) (.int .i64 ((k : Int) + 1)) n1 (wr.setCell ⟨g, j, none⟩ (.int .u8 ((l2.getD k 0 : Nat) : Int)))) := Lib.hid ⟨k + 1, by simp, by omega, hb.setCell (p := ⟨g, j, none⟩) hgB _, m.set j (l2.getD k 0), by simpa using hml, fun i => by
            rw [List.getD_eq_getElem?_getD, List.getElem?_set]
            split
            · split
              · exact hy
              · decide
            · rw [← List.getD_eq_getElem?_getD]; exact hmb i, hset⟩
          generalize l2.getD k 0 = y at *
          clear hset hown hmb hml hcl hb hcell hcell2 hzc HB2 HO2 HSAME
          go_wp2
          go_roundw
          case rel => exact HN.out
          case measure => simp [intOf]; omega
        · have h2i : decide ((k : Int) < (n2 : Int)) = false := decide_eq_false (by omega)
          have h2' : decide (k < n2) = false := decide_eq_false h2n
          clear hown hmb hml hcl hb hcell hzc HB2 HO2
          go_wp2
          go_roundw
          case rel => exact HSAME.out
          case measure => simp [intOf]; omega
      · have h6i : decide ((k : Int) < 6) = false := decide_eq_false (by omega)
        clear hown hmb hml hcl hb hcell hzc HB2 HO2
        go_wp2
        go_roundw
        case rel => exact HSAME.out
        case measure => simp [intOf]; omega
    · obtain rfl : k = n1 := by omega
      by_cases hc0 : 0 < cu
      · by_cases hc1 : cu < 256
        · obtain ⟨u, rfl⟩ : ∃ u : Nat, cu = (u : Int) := ⟨cu.toNat, by omega⟩
          obtain ⟨q, hq⟩ : ∃ q : Nat, q + u = 256 := ⟨256 - u, by omega⟩
          have q1 : (256 : Int) - (u : Int) = (q : Int) := by omega
          have hq256 : q ≤ 256 := by omega
          have hqc : q ≤ cap := by omega
          obtain ⟨mq, hmq⟩ : ∃ mq, mq = m.take q := ⟨_, rfl⟩
          have hbs0 : BS wr wr.heap.size (some ⟨g, 0, none⟩) q cap mq := by
            obtain ⟨A9, c9, e9, h9⟩ := hown.bs hmb
            rw [hml] at e9 h9
            injection e9 with e1 e2 e3
            rw [e1, e3, hmq]; exact h9.take hq256
          obtain ⟨v, er, hv, her, hvl⟩ := parse_ex mq
          have hd1 : decide ((0 : Int) < (u : Int)) = true := decide_eq_true hc0
          have hd2 : decide ((u : Int) < 256) = true := decide_eq_true hc1
          clear hq hmq
          rcases her with rfl | rfl
          · have hbs := hbs0
            clear hbs0
            have HPA := Lib.hid (hparse_any (some ⟨g, 0, none⟩) q cap mq v 0 wr hbs (by omega) hv)
            have HPB := Lib.hid (fun W (h : BS W W.heap.size (some ⟨g, 0, none⟩) q cap mq) => rparse_any (some ⟨g, 0, none⟩) q cap mq v 0 W h hv)
            have HPL := Lib.hid (fun W => plain_any v W)
            have HAW := Lib.hid (fun W => awakeH_any W)
            have HIP := Lib.hid (info_rth v)
            have HIP2 := Lib.hid (info_rtr v)
            have HONP := Lib.hid (rt_one v)
            have HSP : Hid ((rtV zl17).size = (rtV v).size) := Lib.hid (by rw [rowV_size, rowV_size])
            have hqe := eq_r v v hvl hvl
            rw [decide_eq_true rfl] at hqe
            have HS := Lib.hid hbs
            have HB := Lib.hid hb
            obtain ⟨pv, hpv⟩ : ∃ z, z = rtV v := ⟨_, rfl⟩
            obtain ⟨zz, hzz⟩ : ∃ z, z = rtV zl17 := ⟨_, rfl⟩
            have hzs : zz.size = 17 := by rw [hzz, rowV_size]
            rw [← hpv] at HPL HIP HIP2 HONP HSP hqe
            rw [← hzz] at HSP hz hzh
            have HPV := Lib.hid hpv
            clear hbs hb hpv hzz hv hvl hown hmb hml hcl HB2 HO2 H1 H2
            go_wp2_with fail
            refine HPA.out.mono ?_
            rintro e w4 ⟨rfl, hb4⟩
            have HB4 := Lib.hid (HB.out.trans (hb4.mono HB.out.size))
            have HS4 := Lib.hid ((HS.out.below hb4).more hb4.size)
            rw [← HPV.out]
            clear hb4
            have h3 := heap_alloc_new w4 (.cells zz 45)
            obtain ⟨V3, hV3⟩ : ∃ V3, V3 = (w4.alloc (.cells zz 45)).setRow w4.heap.size pv := ⟨_, rfl⟩
            have hbV : Below w4.heap.size w4 V3 := by rw [hV3]; exact below_setRow ((Below.refl _ _).alloc (Nat.le_refl _) _) (Nat.le_refl _) _
            have HXP : Hid (V3.heap[w4.heap.size]? = some (.cells pv 45 (0, 0))) := Lib.hid (by rw [hV3]; exact setRow_heap _ _ _ pv _ _ h3)
            have HB5 := Lib.hid (HB4.out.trans (hbV.mono HB4.out.size))
            have HS5 := Lib.hid ((HS4.out.below hbV).more hbV.size)
            have HLW : Hid (w.heap.size ≤ w4.heap.size) := Lib.hid HB4.out.size
            have H3 := Lib.hid h3
            have HVE := Lib.hid hV3
            clear h3 hV3 hbV
            go_wp2_with (with_reducible refine wpList_store_row rfl 45 (.tmp 12) (.tmp 57) rfl _ _ rfl rfl 45 _ H3.out HIP.out HSP.out HONP.out ?_)
            rw [← HVE.out]
            generalize w4.heap.size = s at *
            refine (HPB.out _ HS5.out).mono ?_
            rintro e w6 ⟨rfl, hb6⟩
            have HXP6 : Hid (w6.heap[s]? = some (.cells pv 45 (0, 0))) := Lib.hid ((hb6.block s (Array.getElem?_eq_some_iff.1 HXP.out).1).trans HXP.out)
            have HB6 := Lib.hid (HB5.out.trans (hb6.mono HB5.out.size))
            rw [← HPV.out]
            clear hb6 HVE H3
            have h3 := heap_alloc_new w6 (.cells zz 40)
            obtain ⟨V5, hV3⟩ : ∃ V5, V5 = (w6.alloc (.cells zz 40)).setRow w6.heap.size pv := ⟨_, rfl⟩
            have hbV : Below w6.heap.size w6 V5 := by rw [hV3]; exact below_setRow ((Below.refl _ _).alloc (Nat.le_refl _) _) (Nat.le_refl _) _
            have HXQ : Hid (V5.heap[w6.heap.size]? = some (.cells pv 40 (0, 0))) := Lib.hid (by rw [hV3]; exact setRow_heap _ _ _ pv _ _ h3)
            have HXP7 : Hid (V5.heap[s]? = some (.cells pv 45 (0, 0))) := Lib.hid ((hbV.block s (Array.getElem?_eq_some_iff.1 HXP6.out).1).trans HXP6.out)
            have HB7 := Lib.hid (HB6.out.trans (hbV.mono HB6.out.size))
            have H3 := Lib.hid h3
            have HVE := Lib.hid hV3
            clear h3 hV3 hbV
            go_wp2_with (with_reducible refine wpList_store_row rfl 40 (.tmp 14) (.tmp 62) rfl _ _ rfl rfl 40 _ H3.out HIP2.out HSP.out HONP.out ?_)
            rw [← HVE.out]
            generalize w6.heap.size = s2 at *
            have HK : Hid (∀ W, Below V5.heap.size V5 W → (fun w' => w'.heap[s]? = some (.cells pv 45 (0, 0)) ∧ w'.heap[s2]? = some (.cells pv 40 (0, 0)) ∧ Below w.heap.size w w' ∧ Below V5.heap.size V5 w') W) := Lib.hid (fun W hW => ⟨(hW.block s (Array.getElem?_eq_some_iff.1 HXP7.out).1).trans HXP7.out, (hW.block _ (Array.getElem?_eq_some_iff.1 HXQ.out).1).trans HXQ.out, HB7.out.trans (hW.mono HB7.out.size), hW⟩)
            clear HVE H3
            refine wp_region_F (S := (fun w' => w'.heap[s]? = some (.cells pv 45 (0, 0)) ∧ w'.heap[s2]? = some (.cells pv 40 (0, 0)) ∧ Below w.heap.size w w' ∧ Below V5.heap.size V5 w')) [] (by kernel_rfl) (HK.out _ ((Below.refl _ _).drew)) (fun hHeld => ?_)
            refine wpAnyF_take (i := 0) (oi := _) (v := ?_) rfl (by kernel_rfl) (by kernel_rfl) (by kernel_rfl) (by kernel_rfl) (fun _ _ _ h => h) (Or.inl ⟨by rfl, ?_⟩) (by assumption) ?_
            rotate_left 1
            · intro w hSw
              (try dsimp only at hSw)
              (first | (go_simp; done) | (go_simp; with_reducible rfl))
            (try simp only [Act.put, List.getElem_toArray, List.getElem_cons_succ, List.getElem_cons_zero, List.setIfInBounds_toArray, List.set_cons_zero, List.set_cons_succ])
            refine wpAnyF_take (i := 1) (oi := _) (v := ?_) rfl (by kernel_rfl) (by kernel_rfl) (by kernel_rfl) (by kernel_rfl) (fun _ _ _ h => h) (Or.inl ⟨by rfl, ?_⟩) (by assumption) ?_
            rotate_left 1
            · intro w hSw
              (try dsimp only at hSw)
              (first | (go_simp; done) | (go_simp; with_reducible rfl))
            (try simp only [Act.put, List.getElem_toArray, List.getElem_cons_succ, List.getElem_cons_zero, List.setIfInBounds_toArray, List.set_cons_zero, List.set_cons_succ])
            refine wpAnyF_take (i := 2) (oi := _) (v := ?_) rfl (by kernel_rfl) (by kernel_rfl) (by kernel_rfl) (by kernel_rfl) (fun _ _ _ h => h) (Or.inl ⟨by rfl, ?_⟩) (by assumption) ?_
            rotate_left 1
            · intro w hSw
              (try dsimp only at hSw)
              (first | (go_simp; done) | (go_simp; with_reducible rfl))
            (try simp only [Act.put, List.getElem_toArray, List.getElem_cons_succ, List.getElem_cons_zero, List.setIfInBounds_toArray, List.set_cons_zero, List.set_cons_succ])
            refine wpAnyF_take (i := 3) (oi := _) (v := ?_) rfl (by kernel_rfl) (by kernel_rfl) (by kernel_rfl) (by kernel_rfl) (fun _ _ _ h => h) (Or.inl ⟨by rfl, ?_⟩) (by assumption) ?_
            rotate_left 1
            · intro w hSw
              (try dsimp only at hSw)
              (first | (go_simp; done) | (go_simp; with_reducible rfl))
            (try simp only [Act.put, List.getElem_toArray, List.getElem_cons_succ, List.getElem_cons_zero, List.setIfInBounds_toArray, List.set_cons_zero, List.set_cons_succ])
            refine wpAnyF_take (i := 4) (oi := _) (v := ?_) rfl (by kernel_rfl) (by kernel_rfl) (by kernel_rfl) (by kernel_rfl) (fun _ _ _ h => h) (Or.inl ⟨by rfl, ?_⟩) (by assumption) ?_
            rotate_left 1
            · intro w hSw
              (try dsimp only at hSw)
              (first | (go_simp; done) | (go_simp; with_reducible rfl))
            (try simp only [Act.put, List.getElem_toArray, List.getElem_cons_succ, List.getElem_cons_zero, List.setIfInBounds_toArray, List.set_cons_zero, List.set_cons_succ])
            refine wpAnyF_take (i := 5) (oi := _) (v := ?_) rfl (by kernel_rfl) (by kernel_rfl) (by kernel_rfl) (by kernel_rfl) (fun _ _ _ h => h) (Or.inl ⟨by rfl, ?_⟩) (by assumption) ?_
            rotate_left 1
            · intro w hSw
              (try dsimp only at hSw)
              (first | (go_simp; done) | (go_simp; with_reducible rfl))
            (try simp only [Act.put, List.getElem_toArray, List.getElem_cons_succ, List.getElem_cons_zero, List.setIfInBounds_toArray, List.set_cons_zero, List.set_cons_succ])
            refine wpAnyF_take (i := 6) (oi := _) (v := ?_) rfl (by kernel_rfl) (by kernel_rfl) (by kernel_rfl) (by kernel_rfl) (fun _ _ _ h => h) (Or.inl ⟨by rfl, ?_⟩) (by assumption) ?_
            rotate_left 1
            · intro w hSw
              (try dsimp only at hSw)
              (first | (go_simp; done) | (go_simp; with_reducible rfl))
            (try simp only [Act.put, List.getElem_toArray, List.getElem_cons_succ, List.getElem_cons_zero, List.setIfInBounds_toArray, List.set_cons_zero, List.set_cons_succ])
            refine wpAnyF_take (i := 7) (oi := _) (v := undef) rfl (by kernel_rfl) (by kernel_rfl) (by kernel_rfl) (by kernel_rfl) (fun _ _ _ h => h) (Or.inr ⟨by rfl, rfl⟩) (by assumption) ?_
            (try simp only [Act.put, List.getElem_toArray, List.getElem_cons_succ, List.getElem_cons_zero, List.setIfInBounds_toArray, List.set_cons_zero, List.set_cons_succ])
            refine wpAnyF_take (i := 8) (oi := _) (v := undef) rfl (by kernel_rfl) (by kernel_rfl) (by kernel_rfl) (by kernel_rfl) (fun _ _ _ h => h) (Or.inr ⟨by rfl, rfl⟩) (by assumption) ?_
            (try simp only [Act.put, List.getElem_toArray, List.getElem_cons_succ, List.getElem_cons_zero, List.setIfInBounds_toArray, List.set_cons_zero, List.set_cons_succ])
            refine wpAnyF_take (i := 9) (oi := _) (v := ?_) rfl (by kernel_rfl) (by kernel_rfl) (by kernel_rfl) (by kernel_rfl) (fun _ _ _ h => h) (Or.inl ⟨by rfl, ?_⟩) (by assumption) ?_
            rotate_left 1
            · intro w hSw
              (try dsimp only at hSw)
              (first | (go_simp; done) | (go_simp; with_reducible rfl))
            (try simp only [Act.put, List.getElem_toArray, List.getElem_cons_succ, List.getElem_cons_zero, List.setIfInBounds_toArray, List.set_cons_zero, List.set_cons_succ])
            refine wpAnyF_take (i := 10) (oi := _) (v := ?_) rfl (by kernel_rfl) (by kernel_rfl) (by kernel_rfl) (by kernel_rfl) (fun _ _ _ h => h) (Or.inl ⟨by rfl, ?_⟩) (by assumption) ?_
            rotate_left 1
            · intro w hSw
              (try dsimp only at hSw)
              (first | (go_simp; done) | (go_simp; with_reducible rfl))
            (try simp only [Act.put, List.getElem_toArray, List.getElem_cons_succ, List.getElem_cons_zero, List.setIfInBounds_toArray, List.set_cons_zero, List.set_cons_succ])
            refine wpAnyF_take (i := 11) (oi := _) (v := ?_) rfl (by kernel_rfl) (by kernel_rfl) (by kernel_rfl) (by kernel_rfl) (fun _ _ _ h => h) (Or.inl ⟨by rfl, ?_⟩) (by assumption) ?_
            rotate_left 1
            · intro w hSw
              (try dsimp only at hSw)
              (first | (go_simp; done) | (go_simp; with_reducible rfl))
            (try simp only [Act.put, List.getElem_toArray, List.getElem_cons_succ, List.getElem_cons_zero, List.setIfInBounds_toArray, List.set_cons_zero, List.set_cons_succ])
            refine wpAnyF_take (i := 12) (oi := _) (v := _) rfl (by kernel_rfl) (by kernel_rfl) (by kernel_rfl) (by kernel_rfl) (fun _ _ _ h => h) (yields_row17 (by rfl) 45 (.tmp 12) rfl s 0 rfl pv _ (fun W h => range_row h.1) Try.underlying45 rfl HIP.out) (by assumption) ?_
            (try simp only [Act.put, List.getElem_toArray, List.getElem_cons_succ, List.getElem_cons_zero, List.setIfInBounds_toArray, List.set_cons_zero, List.set_cons_succ])
            refine wpAnyF_take (i := 14) (oi := _) (v := _) rfl (by kernel_rfl) (by kernel_rfl) (by kernel_rfl) (by kernel_rfl) (fun _ _ _ h => h) (yields_row17 (by rfl) 40 (.tmp 14) rfl s2 0 rfl pv _ (fun W h => range_row h.2.1) Try.underlying40 rfl HIP2.out) (by assumption) ?_
            (try simp only [Act.put, List.getElem_toArray, List.getElem_cons_succ, List.getElem_cons_zero, List.setIfInBounds_toArray, List.set_cons_zero, List.set_cons_succ])
            refine wpAnyF_ready (rs := [13]) (by kernel_rfl) (by simp) ?_
            refine AllReadyF.cons (o := _) rfl (fun K hK => ?_) AllReadyF.nil
            go_simp
            (go_at_call 17)
            refine (HPL.out _).mono ?_
            rintro e wn13 ⟨rfl, hbn13⟩
            refine hK.out _ _ (HK.out _ (hHeld.2.2.2.trans (hbn13.mono hHeld.2.2.2.size))) (fun hHeld13 => ?_)
            clear hK K
            (try simp only [Act.put, List.getElem_toArray, List.getElem_cons_succ, List.getElem_cons_zero, List.setIfInBounds_toArray, List.set_cons_zero, List.set_cons_succ])
            refine wpAnyF_take (i := 15) (oi := _) (v := ?_) rfl (by kernel_rfl) (by kernel_rfl) (by kernel_rfl) (by kernel_rfl) (fun _ _ _ h => h) (Or.inl ⟨by rfl, ?_⟩) (by assumption) ?_
            rotate_left 1
            · intro w hSw
              (try dsimp only at hSw)
              (first | (go_simp; done) | (go_simp; with_reducible rfl))
            (try simp only [Act.put, List.getElem_toArray, List.getElem_cons_succ, List.getElem_cons_zero, List.setIfInBounds_toArray, List.set_cons_zero, List.set_cons_succ])
            refine wpAnyF_take (i := 16) (oi := _) (v := ?_) rfl (by kernel_rfl) (by kernel_rfl) (by kernel_rfl) (by kernel_rfl) (fun _ _ _ h => h) (Or.inl ⟨by rfl, ?_⟩) (by assumption) ?_
            rotate_left 1
            · intro w hSw
              (try dsimp only at hSw)
              (first | (go_simp; done) | (go_simp; with_reducible rfl))
            (try simp only [Act.put, List.getElem_toArray, List.getElem_cons_succ, List.getElem_cons_zero, List.setIfInBounds_toArray, List.set_cons_zero, List.set_cons_succ])
            refine wpAnyF_take (i := 17) (oi := _) (v := ?_) rfl (by kernel_rfl) (by kernel_rfl) (by kernel_rfl) (by kernel_rfl) (fun _ _ _ h => h) (Or.inl ⟨by rfl, ?_⟩) (by assumption) ?_
            rotate_left 1
            · intro w hSw
              (try dsimp only at hSw)
              (first | (go_simp; done) | (go_simp; with_reducible rfl))
            (try simp only [Act.put, List.getElem_toArray, List.getElem_cons_succ, List.getElem_cons_zero, List.setIfInBounds_toArray, List.set_cons_zero, List.set_cons_succ])
            refine wpAnyF_ready (rs := [18]) (by kernel_rfl) (by simp) ?_
            refine AllReadyF.cons (o := _) rfl (fun K hK => ?_) AllReadyF.nil
            go_simp
            (go_at_call 10)
            refine (HAW.out _).mono ?_
            rintro e wn18 ⟨rfl, hbn18⟩
            refine hK.out _ _ (HK.out _ (hHeld13.2.2.2.trans (hbn18.mono hHeld13.2.2.2.size))) (fun hHeld18 => ?_)
            clear hK K
            (try simp only [Act.put, List.getElem_toArray, List.getElem_cons_succ, List.getElem_cons_zero, List.setIfInBounds_toArray, List.set_cons_zero, List.set_cons_succ])
            refine wpAnyF_take (i := 19) (oi := _) (v := ?_) rfl (by kernel_rfl) (by kernel_rfl) (by kernel_rfl) (by kernel_rfl) (fun _ _ _ h => h) (Or.inl ⟨by rfl, ?_⟩) (by assumption) ?_
            rotate_left 1
            · intro w hSw
              (try dsimp only at hSw)
              (first | (go_simp; done) | (go_simp; with_reducible rfl))
            (try simp only [Act.put, List.getElem_toArray, List.getElem_cons_succ, List.getElem_cons_zero, List.setIfInBounds_toArray, List.set_cons_zero, List.set_cons_succ])
            refine wpAnyF_ready (rs := [20]) (by kernel_rfl) (by simp) ?_
            refine AllReadyF.cons (o := _) rfl (fun K hK => ?_) AllReadyF.nil
            go_simp
            refine hK.out _ _ (by assumption) (fun hHeld20 => ?_)
            clear hK K
            (try simp only [Act.put, List.getElem_toArray, List.getElem_cons_succ, List.getElem_cons_zero, List.setIfInBounds_toArray, List.set_cons_zero, List.set_cons_succ])
            refine wpAnyF_done (by kernel_rfl) ?_ _
            have HF := Lib.hid hHeld18.2.2.1
            go_wp2
            go_ret
            exact ⟨rfl, HF.out⟩
          · have hbs := hbs0
            clear hbs0
            have HPA := Lib.hid (hparse_any (some ⟨g, 0, none⟩) q cap mq v 4 wr hbs (by omega) hv)
            have HPB := Lib.hid (fun W (h : BS W W.heap.size (some ⟨g, 0, none⟩) q cap mq) => rparse_any (some ⟨g, 0, none⟩) q cap mq v 4 W h hv)
            have HPL := Lib.hid (fun W => plain_any v W)
            have HAW := Lib.hid (fun W => awakeH_any W)
            have HIP := Lib.hid (info_rth v)
            have HIP2 := Lib.hid (info_rtr v)
            have HONP := Lib.hid (rt_one v)
            have HSP : Hid ((rtV zl17).size = (rtV v).size) := Lib.hid (by rw [rowV_size, rowV_size])
            have hqe := eq_r v v hvl hvl
            rw [decide_eq_true rfl] at hqe
            have HS := Lib.hid hbs
            have HB := Lib.hid hb
            obtain ⟨pv, hpv⟩ : ∃ z, z = rtV v := ⟨_, rfl⟩
            obtain ⟨zz, hzz⟩ : ∃ z, z = rtV zl17 := ⟨_, rfl⟩
            have hzs : zz.size = 17 := by rw [hzz, rowV_size]
            rw [← hpv] at HPL HIP HIP2 HONP HSP hqe
            rw [← hzz] at HSP hz hzh
            have HPV := Lib.hid hpv
            clear hbs hb hpv hzz hv hvl hown hmb hml hcl HB2 HO2 H1 H2
            go_wp2_with fail
            refine HPA.out.mono ?_
            rintro e w4 ⟨rfl, hb4⟩
            have HB4 := Lib.hid (HB.out.trans (hb4.mono HB.out.size))
            have HS4 := Lib.hid ((HS.out.below hb4).more hb4.size)
            rw [← HPV.out]
            clear hb4
            have h3 := heap_alloc_new w4 (.cells zz 45)
            obtain ⟨V3, hV3⟩ : ∃ V3, V3 = (w4.alloc (.cells zz 45)).setRow w4.heap.size pv := ⟨_, rfl⟩
            have hbV : Below w4.heap.size w4 V3 := by rw [hV3]; exact below_setRow ((Below.refl _ _).alloc (Nat.le_refl _) _) (Nat.le_refl _) _
            have HXP : Hid (V3.heap[w4.heap.size]? = some (.cells pv 45 (0, 0))) := Lib.hid (by rw [hV3]; exact setRow_heap _ _ _ pv _ _ h3)
            have HB5 := Lib.hid (HB4.out.trans (hbV.mono HB4.out.size))
            have HS5 := Lib.hid ((HS4.out.below hbV).more hbV.size)
            have HLW : Hid (w.heap.size ≤ w4.heap.size) := Lib.hid HB4.out.size
            have H3 := Lib.hid h3
            have HVE := Lib.hid hV3
            clear h3 hV3 hbV
            go_wp2_with (with_reducible refine wpList_store_row rfl 45 (.tmp 12) (.tmp 57) rfl _ _ rfl rfl 45 _ H3.out HIP.out HSP.out HONP.out ?_)
            rw [← HVE.out]
            generalize w4.heap.size = s at *
            refine (HPB.out _ HS5.out).mono ?_
            rintro e w6 ⟨rfl, hb6⟩
            have HXP6 : Hid (w6.heap[s]? = some (.cells pv 45 (0, 0))) := Lib.hid ((hb6.block s (Array.getElem?_eq_some_iff.1 HXP.out).1).trans HXP.out)
            have HB6 := Lib.hid (HB5.out.trans (hb6.mono HB5.out.size))
            rw [← HPV.out]
            clear hb6 HVE H3
            have h3 := heap_alloc_new w6 (.cells zz 40)
            obtain ⟨V5, hV3⟩ : ∃ V5, V5 = (w6.alloc (.cells zz 40)).setRow w6.heap.size pv := ⟨_, rfl⟩
            have hbV : Below w6.heap.size w6 V5 := by rw [hV3]; exact below_setRow ((Below.refl _ _).alloc (Nat.le_refl _) _) (Nat.le_refl _) _
            have HXQ : Hid (V5.heap[w6.heap.size]? = some (.cells pv 40 (0, 0))) := Lib.hid (by rw [hV3]; exact setRow_heap _ _ _ pv _ _ h3)
            have HXP7 : Hid (V5.heap[s]? = some (.cells pv 45 (0, 0))) := Lib.hid ((hbV.block s (Array.getElem?_eq_some_iff.1 HXP6.out).1).trans HXP6.out)
            have HB7 := Lib.hid (HB6.out.trans (hbV.mono HB6.out.size))
            have H3 := Lib.hid h3
            have HVE := Lib.hid hV3
            clear h3 hV3 hbV
            go_wp2_with (with_reducible refine wpList_store_row rfl 40 (.tmp 14) (.tmp 62) rfl _ _ rfl rfl 40 _ H3.out HIP2.out HSP.out HONP.out ?_)
            rw [← HVE.out]
            generalize w6.heap.size = s2 at *
            have HK : Hid (∀ W, Below V5.heap.size V5 W → (fun w' => w'.heap[s]? = some (.cells pv 45 (0, 0)) ∧ w'.heap[s2]? = some (.cells pv 40 (0, 0)) ∧ Below w.heap.size w w' ∧ Below V5.heap.size V5 w') W) := Lib.hid (fun W hW => ⟨(hW.block s (Array.getElem?_eq_some_iff.1 HXP7.out).1).trans HXP7.out, (hW.block _ (Array.getElem?_eq_some_iff.1 HXQ.out).1).trans HXQ.out, HB7.out.trans (hW.mono HB7.out.size), hW⟩)
            clear HVE H3
            refine wp_region_F (S := (fun w' => w'.heap[s]? = some (.cells pv 45 (0, 0)) ∧ w'.heap[s2]? = some (.cells pv 40 (0, 0)) ∧ Below w.heap.size w w' ∧ Below V5.heap.size V5 w')) [] (by kernel_rfl) (HK.out _ ((Below.refl _ _).drew)) (fun hHeld => ?_)
            refine wpAnyF_take (i := 0) (oi := _) (v := ?_) rfl (by kernel_rfl) (by kernel_rfl) (by kernel_rfl) (by kernel_rfl) (fun _ _ _ h => h) (Or.inl ⟨by rfl, ?_⟩) (by assumption) ?_
            rotate_left 1
            · intro w hSw
              (try dsimp only at hSw)
              (first | (go_simp; done) | (go_simp; with_reducible rfl))
            (try simp only [Act.put, List.getElem_toArray, List.getElem_cons_succ, List.getElem_cons_zero, List.setIfInBounds_toArray, List.set_cons_zero, List.set_cons_succ])
            refine wpAnyF_take (i := 1) (oi := _) (v := ?_) rfl (by kernel_rfl) (by kernel_rfl) (by kernel_rfl) (by kernel_rfl) (fun _ _ _ h => h) (Or.inl ⟨by rfl, ?_⟩) (by assumption) ?_
            rotate_left 1
            · intro w hSw
              (try dsimp only at hSw)
              (first | (go_simp; done) | (go_simp; with_reducible rfl))
            (try simp only [Act.put, List.getElem_toArray, List.getElem_cons_succ, List.getElem_cons_zero, List.setIfInBounds_toArray, List.set_cons_zero, List.set_cons_succ])
            refine wpAnyF_take (i := 2) (oi := _) (v := ?_) rfl (by kernel_rfl) (by kernel_rfl) (by kernel_rfl) (by kernel_rfl) (fun _ _ _ h => h) (Or.inl ⟨by rfl, ?_⟩) (by assumption) ?_
            rotate_left 1
            · intro w hSw
              (try dsimp only at hSw)
              (first | (go_simp; done) | (go_simp; with_reducible rfl))
            (try simp only [Act.put, List.getElem_toArray, List.getElem_cons_succ, List.getElem_cons_zero, List.setIfInBounds_toArray, List.set_cons_zero, List.set_cons_succ])
            refine wpAnyF_take (i := 3) (oi := _) (v := ?_) rfl (by kernel_rfl) (by kernel_rfl) (by kernel_rfl) (by kernel_rfl) (fun _ _ _ h => h) (Or.inl ⟨by rfl, ?_⟩) (by assumption) ?_
            rotate_left 1
            · intro w hSw
              (try dsimp only at hSw)
              (first | (go_simp; done) | (go_simp; with_reducible rfl))
            (try simp only [Act.put, List.getElem_toArray, List.getElem_cons_succ, List.getElem_cons_zero, List.setIfInBounds_toArray, List.set_cons_zero, List.set_cons_succ])
            refine wpAnyF_take (i := 4) (oi := _) (v := ?_) rfl (by kernel_rfl) (by kernel_rfl) (by kernel_rfl) (by kernel_rfl) (fun _ _ _ h => h) (Or.inl ⟨by rfl, ?_⟩) (by assumption) ?_
            rotate_left 1
            · intro w hSw
              (try dsimp only at hSw)
              (first | (go_simp; done) | (go_simp; with_reducible rfl))
            (try simp only [Act.put, List.getElem_toArray, List.getElem_cons_succ, List.getElem_cons_zero, List.setIfInBounds_toArray, List.set_cons_zero, List.set_cons_succ])
            refine wpAnyF_take (i := 5) (oi := _) (v := ?_) rfl (by kernel_rfl) (by kernel_rfl) (by kernel_rfl) (by kernel_rfl) (fun _ _ _ h => h) (Or.inl ⟨by rfl, ?_⟩) (by assumption) ?_
            rotate_left 1
            · intro w hSw
              (try dsimp only at hSw)
              (first | (go_simp; done) | (go_simp; with_reducible rfl))
            (try simp only [Act.put, List.getElem_toArray, List.getElem_cons_succ, List.getElem_cons_zero, List.setIfInBounds_toArray, List.set_cons_zero, List.set_cons_succ])
            refine wpAnyF_take (i := 6) (oi := _) (v := ?_) rfl (by kernel_rfl) (by kernel_rfl) (by kernel_rfl) (by kernel_rfl) (fun _ _ _ h => h) (Or.inl ⟨by rfl, ?_⟩) (by assumption) ?_
            rotate_left 1
            · intro w hSw
              (try dsimp only at hSw)
              (first | (go_simp; done) | (go_simp; with_reducible rfl))
            (try simp only [Act.put, List.getElem_toArray, List.getElem_cons_succ, List.getElem_cons_zero, List.setIfInBounds_toArray, List.set_cons_zero, List.set_cons_succ])
            refine wpAnyF_take (i := 7) (oi := _) (v := ?_) rfl (by kernel_rfl) (by kernel_rfl) (by kernel_rfl) (by kernel_rfl) (fun _ _ _ h => h) (Or.inl ⟨by rfl, ?_⟩) (by assumption) ?_
            rotate_left 1
            · intro w hSw
              (try dsimp only at hSw)
              (first | (go_simp; done) | (go_simp; with_reducible rfl))
            (try simp only [Act.put, List.getElem_toArray, List.getElem_cons_succ, List.getElem_cons_zero, List.setIfInBounds_toArray, List.set_cons_zero, List.set_cons_succ])
            refine wpAnyF_take (i := 8) (oi := _) (v := ?_) rfl (by kernel_rfl) (by kernel_rfl) (by kernel_rfl) (by kernel_rfl) (fun _ _ _ h => h) (Or.inl ⟨by rfl, ?_⟩) (by assumption) ?_
            rotate_left 1
            · intro w hSw
              (try dsimp only at hSw)
              (first | (go_simp; done) | (go_simp; with_reducible rfl))
            (try simp only [Act.put, List.getElem_toArray, List.getElem_cons_succ, List.getElem_cons_zero, List.setIfInBounds_toArray, List.set_cons_zero, List.set_cons_succ])
            refine wpAnyF_take (i := 9) (oi := _) (v := ?_) rfl (by kernel_rfl) (by kernel_rfl) (by kernel_rfl) (by kernel_rfl) (fun _ _ _ h => h) (Or.inl ⟨by rfl, ?_⟩) (by assumption) ?_
            rotate_left 1
            · intro w hSw
              (try dsimp only at hSw)
              (first | (go_simp; done) | (go_simp; with_reducible rfl))
            (try simp only [Act.put, List.getElem_toArray, List.getElem_cons_succ, List.getElem_cons_zero, List.setIfInBounds_toArray, List.set_cons_zero, List.set_cons_succ])
            refine wpAnyF_take (i := 10) (oi := _) (v := ?_) rfl (by kernel_rfl) (by kernel_rfl) (by kernel_rfl) (by kernel_rfl) (fun _ _ _ h => h) (Or.inl ⟨by rfl, ?_⟩) (by assumption) ?_
            rotate_left 1
            · intro w hSw
              (try dsimp only at hSw)
              (first | (go_simp; done) | (go_simp; with_reducible rfl))
            (try simp only [Act.put, List.getElem_toArray, List.getElem_cons_succ, List.getElem_cons_zero, List.setIfInBounds_toArray, List.set_cons_zero, List.set_cons_succ])
            refine wpAnyF_take (i := 11) (oi := _) (v := ?_) rfl (by kernel_rfl) (by kernel_rfl) (by kernel_rfl) (by kernel_rfl) (fun _ _ _ h => h) (Or.inl ⟨by rfl, ?_⟩) (by assumption) ?_
            rotate_left 1
            · intro w hSw
              (try dsimp only at hSw)
              (first | (go_simp; done) | (go_simp; with_reducible rfl))
            (try simp only [Act.put, List.getElem_toArray, List.getElem_cons_succ, List.getElem_cons_zero, List.setIfInBounds_toArray, List.set_cons_zero, List.set_cons_succ])
            refine wpAnyF_take (i := 12) (oi := _) (v := _) rfl (by kernel_rfl) (by kernel_rfl) (by kernel_rfl) (by kernel_rfl) (fun _ _ _ h => h) (yields_row17 (by rfl) 45 (.tmp 12) rfl s 0 rfl pv _ (fun W h => range_row h.1) Try.underlying45 rfl HIP.out) (by assumption) ?_
            (try simp only [Act.put, List.getElem_toArray, List.getElem_cons_succ, List.getElem_cons_zero, List.setIfInBounds_toArray, List.set_cons_zero, List.set_cons_succ])
            refine wpAnyF_take (i := 14) (oi := _) (v := _) rfl (by kernel_rfl) (by kernel_rfl) (by kernel_rfl) (by kernel_rfl) (fun _ _ _ h => h) (yields_row17 (by rfl) 40 (.tmp 14) rfl s2 0 rfl pv _ (fun W h => range_row h.2.1) Try.underlying40 rfl HIP2.out) (by assumption) ?_
            (try simp only [Act.put, List.getElem_toArray, List.getElem_cons_succ, List.getElem_cons_zero, List.setIfInBounds_toArray, List.set_cons_zero, List.set_cons_succ])
            refine wpAnyF_ready (rs := [13]) (by kernel_rfl) (by simp) ?_
            refine AllReadyF.cons (o := _) rfl (fun K hK => ?_) AllReadyF.nil
            go_simp
            (go_at_call 17)
            refine (HPL.out _).mono ?_
            rintro e wn13 ⟨rfl, hbn13⟩
            refine hK.out _ _ (HK.out _ (hHeld.2.2.2.trans (hbn13.mono hHeld.2.2.2.size))) (fun hHeld13 => ?_)
            clear hK K
            (try simp only [Act.put, List.getElem_toArray, List.getElem_cons_succ, List.getElem_cons_zero, List.setIfInBounds_toArray, List.set_cons_zero, List.set_cons_succ])
            refine wpAnyF_take (i := 15) (oi := _) (v := ?_) rfl (by kernel_rfl) (by kernel_rfl) (by kernel_rfl) (by kernel_rfl) (fun _ _ _ h => h) (Or.inl ⟨by rfl, ?_⟩) (by assumption) ?_
            rotate_left 1
            · intro w hSw
              (try dsimp only at hSw)
              (first | (go_simp; done) | (go_simp; with_reducible rfl))
            (try simp only [Act.put, List.getElem_toArray, List.getElem_cons_succ, List.getElem_cons_zero, List.setIfInBounds_toArray, List.set_cons_zero, List.set_cons_succ])
            refine wpAnyF_take (i := 16) (oi := _) (v := ?_) rfl (by kernel_rfl) (by kernel_rfl) (by kernel_rfl) (by kernel_rfl) (fun _ _ _ h => h) (Or.inl ⟨by rfl, ?_⟩) (by assumption) ?_
            rotate_left 1
            · intro w hSw
              (try dsimp only at hSw)
              (first | (go_simp; done) | (go_simp; with_reducible rfl))
            (try simp only [Act.put, List.getElem_toArray, List.getElem_cons_succ, List.getElem_cons_zero, List.setIfInBounds_toArray, List.set_cons_zero, List.set_cons_succ])
            refine wpAnyF_take (i := 17) (oi := _) (v := ?_) rfl (by kernel_rfl) (by kernel_rfl) (by kernel_rfl) (by kernel_rfl) (fun _ _ _ h => h) (Or.inl ⟨by rfl, ?_⟩) (by assumption) ?_
            rotate_left 1
            · intro w hSw
              (try dsimp only at hSw)
              (first | (go_simp; done) | (go_simp; with_reducible rfl))
            (try simp only [Act.put, List.getElem_toArray, List.getElem_cons_succ, List.getElem_cons_zero, List.setIfInBounds_toArray, List.set_cons_zero, List.set_cons_succ])
            refine wpAnyF_ready (rs := [18]) (by kernel_rfl) (by simp) ?_
            refine AllReadyF.cons (o := _) rfl (fun K hK => ?_) AllReadyF.nil
            go_simp
            (go_at_call 10)
            refine (HAW.out _).mono ?_
            rintro e wn18 ⟨rfl, hbn18⟩
            refine hK.out _ _ (HK.out _ (hHeld13.2.2.2.trans (hbn18.mono hHeld13.2.2.2.size))) (fun hHeld18 => ?_)
            clear hK K
            (try simp only [Act.put, List.getElem_toArray, List.getElem_cons_succ, List.getElem_cons_zero, List.setIfInBounds_toArray, List.set_cons_zero, List.set_cons_succ])
            refine wpAnyF_take (i := 19) (oi := _) (v := ?_) rfl (by kernel_rfl) (by kernel_rfl) (by kernel_rfl) (by kernel_rfl) (fun _ _ _ h => h) (Or.inl ⟨by rfl, ?_⟩) (by assumption) ?_
            rotate_left 1
            · intro w hSw
              (try dsimp only at hSw)
              (first | (go_simp; done) | (go_simp; with_reducible rfl))
            (try simp only [Act.put, List.getElem_toArray, List.getElem_cons_succ, List.getElem_cons_zero, List.setIfInBounds_toArray, List.set_cons_zero, List.set_cons_succ])
            refine wpAnyF_ready (rs := [20]) (by kernel_rfl) (by simp) ?_
            refine AllReadyF.cons (o := _) rfl (fun K hK => ?_) AllReadyF.nil
            go_simp
            refine hK.out _ _ (by assumption) (fun hHeld20 => ?_)
            clear hK K
            (try simp only [Act.put, List.getElem_toArray, List.getElem_cons_succ, List.getElem_cons_zero, List.setIfInBounds_toArray, List.set_cons_zero, List.set_cons_succ])
            refine wpAnyF_done (by kernel_rfl) ?_ _
            have HF := Lib.hid hHeld18.2.2.1
            go_wp2
            go_ret
            exact ⟨rfl, HF.out⟩
        · have hd2 : decide (cu < 256) = false := decide_eq_false hc1
          obtain ⟨q, hqe⟩ : ∃ q : Nat, q = 256 := ⟨_, rfl⟩
          obtain ⟨mq, hmq⟩ : ∃ mq, mq = m := ⟨_, rfl⟩
          have hbs0 : BS wr wr.heap.size (some ⟨g, 0, none⟩) 256 cap m := by
            obtain ⟨A9, c9, e9, h9⟩ := hown.bs hmb
            rw [hml] at e9 h9
            injection e9 with e1 e2 e3
            rw [e1, e3]; exact h9
          obtain ⟨v, er, hv, her, hvl⟩ := parse_ex m
          rcases her with rfl | rfl
          · have hbs := hbs0
            clear hbs0
            have HPA := Lib.hid (hparse_any (some ⟨g, 0, none⟩) 256 cap m v 0 wr hbs (by omega) hv)
            have HPB := Lib.hid (fun W (h : BS W W.heap.size (some ⟨g, 0, none⟩) 256 cap m) => rparse_any (some ⟨g, 0, none⟩) 256 cap m v 0 W h hv)
            have HPL := Lib.hid (fun W => plain_any v W)
            have HAW := Lib.hid (fun W => awakeH_any W)
            have HIP := Lib.hid (info_rth v)
            have HIP2 := Lib.hid (info_rtr v)
            have HONP := Lib.hid (rt_one v)
            have HSP : Hid ((rtV zl17).size = (rtV v).size) := Lib.hid (by rw [rowV_size, rowV_size])
            have hqe := eq_r v v hvl hvl
            rw [decide_eq_true rfl] at hqe
            have HS := Lib.hid hbs
            have HB := Lib.hid hb
            obtain ⟨pv, hpv⟩ : ∃ z, z = rtV v := ⟨_, rfl⟩
            obtain ⟨zz, hzz⟩ : ∃ z, z = rtV zl17 := ⟨_, rfl⟩
            have hzs : zz.size = 17 := by rw [hzz, rowV_size]
            rw [← hpv] at HPL HIP HIP2 HONP HSP hqe
            rw [← hzz] at HSP hz hzh
            have HPV := Lib.hid hpv
            clear hbs hb hpv hzz hv hvl hown hmb hml hcl HB2 HO2 H1 H2
            go_wp2_with fail
            refine HPA.out.mono ?_
            rintro e w4 ⟨rfl, hb4⟩
            have HB4 := Lib.hid (HB.out.trans (hb4.mono HB.out.size))
            have HS4 := Lib.hid ((HS.out.below hb4).more hb4.size)
            rw [← HPV.out]
            clear hb4
            have h3 := heap_alloc_new w4 (.cells zz 45)
            obtain ⟨V3, hV3⟩ : ∃ V3, V3 = (w4.alloc (.cells zz 45)).setRow w4.heap.size pv := ⟨_, rfl⟩
            have hbV : Below w4.heap.size w4 V3 := by rw [hV3]; exact below_setRow ((Below.refl _ _).alloc (Nat.le_refl _) _) (Nat.le_refl _) _
            have HXP : Hid (V3.heap[w4.heap.size]? = some (.cells pv 45 (0, 0))) := Lib.hid (by rw [hV3]; exact setRow_heap _ _ _ pv _ _ h3)
            have HB5 := Lib.hid (HB4.out.trans (hbV.mono HB4.out.size))
            have HS5 := Lib.hid ((HS4.out.below hbV).more hbV.size)
            have HLW : Hid (w.heap.size ≤ w4.heap.size) := Lib.hid HB4.out.size
            have H3 := Lib.hid h3
            have HVE := Lib.hid hV3
            clear h3 hV3 hbV
            go_wp2_with (with_reducible refine wpList_store_row rfl 45 (.tmp 12) (.tmp 57) rfl _ _ rfl rfl 45 _ H3.out HIP.out HSP.out HONP.out ?_)
            rw [← HVE.out]
            generalize w4.heap.size = s at *
            refine (HPB.out _ HS5.out).mono ?_
            rintro e w6 ⟨rfl, hb6⟩
            have HXP6 : Hid (w6.heap[s]? = some (.cells pv 45 (0, 0))) := Lib.hid ((hb6.block s (Array.getElem?_eq_some_iff.1 HXP.out).1).trans HXP.out)
            have HB6 := Lib.hid (HB5.out.trans (hb6.mono HB5.out.size))
            rw [← HPV.out]
            clear hb6 HVE H3
            have h3 := heap_alloc_new w6 (.cells zz 40)
            obtain ⟨V5, hV3⟩ : ∃ V5, V5 = (w6.alloc (.cells zz 40)).setRow w6.heap.size pv := ⟨_, rfl⟩
            have hbV : Below w6.heap.size w6 V5 := by rw [hV3]; exact below_setRow ((Below.refl _ _).alloc (Nat.le_refl _) _) (Nat.le_refl _) _
            have HXQ : Hid (V5.heap[w6.heap.size]? = some (.cells pv 40 (0, 0))) := Lib.hid (by rw [hV3]; exact setRow_heap _ _ _ pv _ _ h3)
            have HXP7 : Hid (V5.heap[s]? = some (.cells pv 45 (0, 0))) := Lib.hid ((hbV.block s (Array.getElem?_eq_some_iff.1 HXP6.out).1).trans HXP6.out)
            have HB7 := Lib.hid (HB6.out.trans (hbV.mono HB6.out.size))
            have H3 := Lib.hid h3
            have HVE := Lib.hid hV3
            clear h3 hV3 hbV
            go_wp2_with (with_reducible refine wpList_store_row rfl 40 (.tmp 14) (.tmp 62) rfl _ _ rfl rfl 40 _ H3.out HIP2.out HSP.out HONP.out ?_)
            rw [← HVE.out]
            generalize w6.heap.size = s2 at *
            have HK : Hid (∀ W, Below V5.heap.size V5 W → (fun w' => w'.heap[s]? = some (.cells pv 45 (0, 0)) ∧ w'.heap[s2]? = some (.cells pv 40 (0, 0)) ∧ Below w.heap.size w w' ∧ Below V5.heap.size V5 w') W) := Lib.hid (fun W hW => ⟨(hW.block s (Array.getElem?_eq_some_iff.1 HXP7.out).1).trans HXP7.out, (hW.block _ (Array.getElem?_eq_some_iff.1 HXQ.out).1).trans HXQ.out, HB7.out.trans (hW.mono HB7.out.size), hW⟩)
            clear HVE H3
            refine wp_region_F (S := (fun w' => w'.heap[s]? = some (.cells pv 45 (0, 0)) ∧ w'.heap[s2]? = some (.cells pv 40 (0, 0)) ∧ Below w.heap.size w w' ∧ Below V5.heap.size V5 w')) [] (by kernel_rfl) (HK.out _ ((Below.refl _ _).drew)) (fun hHeld => ?_)
            refine wpAnyF_take (i := 0) (oi := _) (v := ?_) rfl (by kernel_rfl) (by kernel_rfl) (by kernel_rfl) (by kernel_rfl) (fun _ _ _ h => h) (Or.inl ⟨by rfl, ?_⟩) (by assumption) ?_
            rotate_left 1
            · intro w hSw
              (try dsimp only at hSw)
              (first | (go_simp; done) | (go_simp; with_reducible rfl))
            (try simp only [Act.put, List.getElem_toArray, List.getElem_cons_succ, List.getElem_cons_zero, List.setIfInBounds_toArray, List.set_cons_zero, List.set_cons_succ])
            refine wpAnyF_take (i := 1) (oi := _) (v := ?_) rfl (by kernel_rfl) (by kernel_rfl) (by kernel_rfl) (by kernel_rfl) (fun _ _ _ h => h) (Or.inl ⟨by rfl, ?_⟩) (by assumption) ?_
            rotate_left 1
            · intro w hSw
              (try dsimp only at hSw)
              (first | (go_simp; done) | (go_simp; with_reducible rfl))
            (try simp only [Act.put, List.getElem_toArray, List.getElem_cons_succ, List.getElem_cons_zero, List.setIfInBounds_toArray, List.set_cons_zero, List.set_cons_succ])
            refine wpAnyF_take (i := 2) (oi := _) (v := ?_) rfl (by kernel_rfl) (by kernel_rfl) (by kernel_rfl) (by kernel_rfl) (fun _ _ _ h => h) (Or.inl ⟨by rfl, ?_⟩) (by assumption) ?_
            rotate_left 1
            · intro w hSw
              (try dsimp only at hSw)
              (first | (go_simp; done) | (go_simp; with_reducible rfl))
            (try simp only [Act.put, List.getElem_toArray, List.getElem_cons_succ, List.getElem_cons_zero, List.setIfInBounds_toArray, List.set_cons_zero, List.set_cons_succ])
            refine wpAnyF_take (i := 3) (oi := _) (v := ?_) rfl (by kernel_rfl) (by kernel_rfl) (by kernel_rfl) (by kernel_rfl) (fun _ _ _ h => h) (Or.inl ⟨by rfl, ?_⟩) (by assumption) ?_
            rotate_left 1
            · intro w hSw
              (try dsimp only at hSw)
              (first | (go_simp; done) | (go_simp; with_reducible rfl))
            (try simp only [Act.put, List.getElem_toArray, List.getElem_cons_succ, List.getElem_cons_zero, List.setIfInBounds_toArray, List.set_cons_zero, List.set_cons_succ])
            refine wpAnyF_take (i := 4) (oi := _) (v := ?_) rfl (by kernel_rfl) (by kernel_rfl) (by kernel_rfl) (by kernel_rfl) (fun _ _ _ h => h) (Or.inl ⟨by rfl, ?_⟩) (by assumption) ?_
            rotate_left 1
            · intro w hSw
              (try dsimp only at hSw)
              (first | (go_simp; done) | (go_simp; with_reducible rfl))
            (try simp only [Act.put, List.getElem_toArray, List.getElem_cons_succ, List.getElem_cons_zero, List.setIfInBounds_toArray, List.set_cons_zero, List.set_cons_succ])
            refine wpAnyF_take (i := 5) (oi := _) (v := ?_) rfl (by kernel_rfl) (by kernel_rfl) (by kernel_rfl) (by kernel_rfl) (fun _ _ _ h => h) (Or.inl ⟨by rfl, ?_⟩) (by assumption) ?_
            rotate_left 1
            · intro w hSw
              (try dsimp only at hSw)
              (first | (go_simp; done) | (go_simp; with_reducible rfl))
            (try simp only [Act.put, List.getElem_toArray, List.getElem_cons_succ, List.getElem_cons_zero, List.setIfInBounds_toArray, List.set_cons_zero, List.set_cons_succ])
            refine wpAnyF_take (i := 6) (oi := _) (v := ?_) rfl (by kernel_rfl) (by kernel_rfl) (by kernel_rfl) (by kernel_rfl) (fun _ _ _ h => h) (Or.inl ⟨by rfl, ?_⟩) (by assumption) ?_
            rotate_left 1
            · intro w hSw
              (try dsimp only at hSw)
              (first | (go_simp; done) | (go_simp; with_reducible rfl))
            (try simp only [Act.put, List.getElem_toArray, List.getElem_cons_succ, List.getElem_cons_zero, List.setIfInBounds_toArray, List.set_cons_zero, List.set_cons_succ])
            refine wpAnyF_take (i := 7) (oi := _) (v := undef) rfl (by kernel_rfl) (by kernel_rfl) (by kernel_rfl) (by kernel_rfl) (fun _ _ _ h => h) (Or.inr ⟨by rfl, rfl⟩) (by assumption) ?_
            (try simp only [Act.put, List.getElem_toArray, List.getElem_cons_succ, List.getElem_cons_zero, List.setIfInBounds_toArray, List.set_cons_zero, List.set_cons_succ])
            refine wpAnyF_take (i := 8) (oi := _) (v := undef) rfl (by kernel_rfl) (by kernel_rfl) (by kernel_rfl) (by kernel_rfl) (fun _ _ _ h => h) (Or.inr ⟨by rfl, rfl⟩) (by assumption) ?_
            (try simp only [Act.put, List.getElem_toArray, List.getElem_cons_succ, List.getElem_cons_zero, List.setIfInBounds_toArray, List.set_cons_zero, List.set_cons_succ])
            refine wpAnyF_take (i := 9) (oi := _) (v := ?_) rfl (by kernel_rfl) (by kernel_rfl) (by kernel_rfl) (by kernel_rfl) (fun _ _ _ h => h) (Or.inl ⟨by rfl, ?_⟩) (by assumption) ?_
            rotate_left 1
            · intro w hSw
              (try dsimp only at hSw)
              (first | (go_simp; done) | (go_simp; with_reducible rfl))
            (try simp only [Act.put, List.getElem_toArray, List.getElem_cons_succ, List.getElem_cons_zero, List.setIfInBounds_toArray, List.set_cons_zero, List.set_cons_succ])
            refine wpAnyF_take (i := 10) (oi := _) (v := ?_) rfl (by kernel_rfl) (by kernel_rfl) (by kernel_rfl) (by kernel_rfl) (fun _ _ _ h => h) (Or.inl ⟨by rfl, ?_⟩) (by assumption) ?_
            rotate_left 1
            · intro w hSw
              (try dsimp only at hSw)
              (first | (go_simp; done) | (go_simp; with_reducible rfl))
            (try simp only [Act.put, List.getElem_toArray, List.getElem_cons_succ, List.getElem_cons_zero, List.setIfInBounds_toArray, List.set_cons_zero, List.set_cons_succ])
            refine wpAnyF_take (i := 11) (oi := _) (v := ?_) rfl (by kernel_rfl) (by kernel_rfl) (by kernel_rfl) (by kernel_rfl) (fun _ _ _ h => h) (Or.inl ⟨by rfl, ?_⟩) (by assumption) ?_
            rotate_left 1
            · intro w hSw
              (try dsimp only at hSw)
              (first | (go_simp; done) | (go_simp; with_reducible rfl))
            (try simp only [Act.put, List.getElem_toArray, List.getElem_cons_succ, List.getElem_cons_zero, List.setIfInBounds_toArray, List.set_cons_zero, List.set_cons_succ])
            refine wpAnyF_take (i := 12) (oi := _) (v := _) rfl (by kernel_rfl) (by kernel_rfl) (by kernel_rfl) (by kernel_rfl) (fun _ _ _ h => h) (yields_row17 (by rfl) 45 (.tmp 12) rfl s 0 rfl pv _ (fun W h => range_row h.1) Try.underlying45 rfl HIP.out) (by assumption) ?_
            (try simp only [Act.put, List.getElem_toArray, List.getElem_cons_succ, List.getElem_cons_zero, List.setIfInBounds_toArray, List.set_cons_zero, List.set_cons_succ])
            refine wpAnyF_take (i := 14) (oi := _) (v := _) rfl (by kernel_rfl) (by kernel_rfl) (by kernel_rfl) (by kernel_rfl) (fun _ _ _ h => h) (yields_row17 (by rfl) 40 (.tmp 14) rfl s2 0 rfl pv _ (fun W h => range_row h.2.1) Try.underlying40 rfl HIP2.out) (by assumption) ?_
            (try simp only [Act.put, List.getElem_toArray, List.getElem_cons_succ, List.getElem_cons_zero, List.setIfInBounds_toArray, List.set_cons_zero, List.set_cons_succ])
            refine wpAnyF_ready (rs := [13]) (by kernel_rfl) (by simp) ?_
            refine AllReadyF.cons (o := _) rfl (fun K hK => ?_) AllReadyF.nil
            go_simp
            (go_at_call 17)
            refine (HPL.out _).mono ?_
            rintro e wn13 ⟨rfl, hbn13⟩
            refine hK.out _ _ (HK.out _ (hHeld.2.2.2.trans (hbn13.mono hHeld.2.2.2.size))) (fun hHeld13 => ?_)
            clear hK K
            (try simp only [Act.put, List.getElem_toArray, List.getElem_cons_succ, List.getElem_cons_zero, List.setIfInBounds_toArray, List.set_cons_zero, List.set_cons_succ])
            refine wpAnyF_take (i := 15) (oi := _) (v := ?_) rfl (by kernel_rfl) (by kernel_rfl) (by kernel_rfl) (by kernel_rfl) (fun _ _ _ h => h) (Or.inl ⟨by rfl, ?_⟩) (by assumption) ?_
            rotate_left 1
            · intro w hSw
              (try dsimp only at hSw)
              (first | (go_simp; done) | (go_simp; with_reducible rfl))
            (try simp only [Act.put, List.getElem_toArray, List.getElem_cons_succ, List.getElem_cons_zero, List.setIfInBounds_toArray, List.set_cons_zero, List.set_cons_succ])
            refine wpAnyF_take (i := 16) (oi := _) (v := ?_) rfl (by kernel_rfl) (by kernel_rfl) (by kernel_rfl) (by kernel_rfl) (fun _ _ _ h => h) (Or.inl ⟨by rfl, ?_⟩) (by assumption) ?_
            rotate_left 1
            · intro w hSw
              (try dsimp only at hSw)
              (first | (go_simp; done) | (go_simp; with_reducible rfl))
            (try simp only [Act.put, List.getElem_toArray, List.getElem_cons_succ, List.getElem_cons_zero, List.setIfInBounds_toArray, List.set_cons_zero, List.set_cons_succ])
            refine wpAnyF_take (i := 17) (oi := _) (v := ?_) rfl (by kernel_rfl) (by kernel_rfl) (by kernel_rfl) (by kernel_rfl) (fun _ _ _ h => h) (Or.inl ⟨by rfl, ?_⟩) (by assumption) ?_
            rotate_left 1
            · intro w hSw
              (try dsimp only at hSw)
              (first | (go_simp; done) | (go_simp; with_reducible rfl))
            (try simp only [Act.put, List.getElem_toArray, List.getElem_cons_succ, List.getElem_cons_zero, List.setIfInBounds_toArray, List.set_cons_zero, List.set_cons_succ])
            refine wpAnyF_ready (rs := [18]) (by kernel_rfl) (by simp) ?_
            refine AllReadyF.cons (o := _) rfl (fun K hK => ?_) AllReadyF.nil
            go_simp
            (go_at_call 10)
            refine (HAW.out _).mono ?_
            rintro e wn18 ⟨rfl, hbn18⟩
            refine hK.out _ _ (HK.out _ (hHeld13.2.2.2.trans (hbn18.mono hHeld13.2.2.2.size))) (fun hHeld18 => ?_)
            clear hK K
            (try simp only [Act.put, List.getElem_toArray, List.getElem_cons_succ, List.getElem_cons_zero, List.setIfInBounds_toArray, List.set_cons_zero, List.set_cons_succ])
            refine wpAnyF_take (i := 19) (oi := _) (v := ?_) rfl (by kernel_rfl) (by kernel_rfl) (by kernel_rfl) (by kernel_rfl) (fun _ _ _ h => h) (Or.inl ⟨by rfl, ?_⟩) (by assumption) ?_
            rotate_left 1
            · intro w hSw
              (try dsimp only at hSw)
              (first | (go_simp; done) | (go_simp; with_reducible rfl))
            (try simp only [Act.put, List.getElem_toArray, List.getElem_cons_succ, List.getElem_cons_zero, List.setIfInBounds_toArray, List.set_cons_zero, List.set_cons_succ])
            refine wpAnyF_ready (rs := [20]) (by kernel_rfl) (by simp) ?_
            refine AllReadyF.cons (o := _) rfl (fun K hK => ?_) AllReadyF.nil
            go_simp
            refine hK.out _ _ (by assumption) (fun hHeld20 => ?_)
            clear hK K
            (try simp only [Act.put, List.getElem_toArray, List.getElem_cons_succ, List.getElem_cons_zero, List.setIfInBounds_toArray, List.set_cons_zero, List.set_cons_succ])
            refine wpAnyF_done (by kernel_rfl) ?_ _
            have HF := Lib.hid hHeld18.2.2.1
            go_wp2
            go_ret
            exact ⟨rfl, HF.out⟩
          · have hbs := hbs0
            clear hbs0
            have HPA := Lib.hid (hparse_any (some ⟨g, 0, none⟩) 256 cap m v 4 wr hbs (by omega) hv)
            have HPB := Lib.hid (fun W (h : BS W W.heap.size (some ⟨g, 0, none⟩) 256 cap m) => rparse_any (some ⟨g, 0, none⟩) 256 cap m v 4 W h hv)
            have HPL := Lib.hid (fun W => plain_any v W)
            have HAW := Lib.hid (fun W => awakeH_any W)
            have HIP := Lib.hid (info_rth v)
            have HIP2 := Lib.hid (info_rtr v)
            have HONP := Lib.hid (rt_one v)
            have HSP : Hid ((rtV zl17).size = (rtV v).size) := Lib.hid (by rw [rowV_size, rowV_size])
            have hqe := eq_r v v hvl hvl
            rw [decide_eq_true rfl] at hqe
            have HS := Lib.hid hbs
            have HB := Lib.hid hb
            obtain ⟨pv, hpv⟩ : ∃ z, z = rtV v := ⟨_, rfl⟩
            obtain ⟨zz, hzz⟩ : ∃ z, z = rtV zl17 := ⟨_, rfl⟩
            have hzs : zz.size = 17 := by rw [hzz, rowV_size]
            rw [← hpv] at HPL HIP HIP2 HONP HSP hqe
            rw [← hzz] at HSP hz hzh
            have HPV := Lib.hid hpv
            clear hbs hb hpv hzz hv hvl hown hmb hml hcl HB2 HO2 H1 H2
            go_wp2_with fail
            refine HPA.out.mono ?_
            rintro e w4 ⟨rfl, hb4⟩
            have HB4 := Lib.hid (HB.out.trans (hb4.mono HB.out.size))
            have HS4 := Lib.hid ((HS.out.below hb4).more hb4.size)
            rw [← HPV.out]
            clear hb4
            have h3 := heap_alloc_new w4 (.cells zz 45)
            obtain ⟨V3, hV3⟩ : ∃ V3, V3 = (w4.alloc (.cells zz 45)).setRow w4.heap.size pv := ⟨_, rfl⟩
            have hbV : Below w4.heap.size w4 V3 := by rw [hV3]; exact below_setRow ((Below.refl _ _).alloc (Nat.le_refl _) _) (Nat.le_refl _) _
            have HXP : Hid (V3.heap[w4.heap.size]? = some (.cells pv 45 (0, 0))) := Lib.hid (by rw [hV3]; exact setRow_heap _ _ _ pv _ _ h3)
            have HB5 := Lib.hid (HB4.out.trans (hbV.mono HB4.out.size))
            have HS5 := Lib.hid ((HS4.out.below hbV).more hbV.size)
            have HLW : Hid (w.heap.size ≤ w4.heap.size) := Lib.hid HB4.out.size
            have H3 := Lib.hid h3
            have HVE := Lib.hid hV3
            clear h3 hV3 hbV
            go_wp2_with (with_reducible refine wpList_store_row rfl 45 (.tmp 12) (.tmp 57) rfl _ _ rfl rfl 45 _ H3.out HIP.out HSP.out HONP.out ?_)
            rw [← HVE.out]
            generalize w4.heap.size = s at *
            refine (HPB.out _ HS5.out).mono ?_
            rintro e w6 ⟨rfl, hb6⟩
            have HXP6 : Hid (w6.heap[s]? = some (.cells pv 45 (0, 0))) := Lib.hid ((hb6.block s (Array.getElem?_eq_some_iff.1 HXP.out).1).trans HXP.out)
            have HB6 := Lib.hid (HB5.out.trans (hb6.mono HB5.out.size))
            rw [← HPV.out]
            clear hb6 HVE H3
            have h3 := heap_alloc_new w6 (.cells zz 40)
            obtain ⟨V5, hV3⟩ : ∃ V5, V5 = (w6.alloc (.cells zz 40)).setRow w6.heap.size pv := ⟨_, rfl⟩
            have hbV : Below w6.heap.size w6 V5 := by rw [hV3]; exact below_setRow ((Below.refl _ _).alloc (Nat.le_refl _) _) (Nat.le_refl _) _
            have HXQ : Hid (V5.heap[w6.heap.size]? = some (.cells pv 40 (0, 0))) := Lib.hid (by rw [hV3]; exact setRow_heap _ _ _ pv _ _ h3)
            have HXP7 : Hid (V5.heap[s]? = some (.cells pv 45 (0, 0))) := Lib.hid ((hbV.block s (Array.getElem?_eq_some_iff.1 HXP6.out).1).trans HXP6.out)
            have HB7 := Lib.hid (HB6.out.trans (hbV.mono HB6.out.size))
            have H3 := Lib.hid h3
            have HVE := Lib.hid hV3
            clear h3 hV3 hbV
            go_wp2_with (with_reducible refine wpList_store_row rfl 40 (.tmp 14) (.tmp 62) rfl _ _ rfl rfl 40 _ H3.out HIP2.out HSP.out HONP.out ?_)
            rw [← HVE.out]
            generalize w6.heap.size = s2 at *
            have HK : Hid (∀ W, Below V5.heap.size V5 W → (fun w' => w'.heap[s]? = some (.cells pv 45 (0, 0)) ∧ w'.heap[s2]? = some (.cells pv 40 (0, 0)) ∧ Below w.heap.size w w' ∧ Below V5.heap.size V5 w') W) := Lib.hid (fun W hW => ⟨(hW.block s (Array.getElem?_eq_some_iff.1 HXP7.out).1).trans HXP7.out, (hW.block _ (Array.getElem?_eq_some_iff.1 HXQ.out).1).trans HXQ.out, HB7.out.trans (hW.mono HB7.out.size), hW⟩)
            clear HVE H3
            refine wp_region_F (S := (fun w' => w'.heap[s]? = some (.cells pv 45 (0, 0)) ∧ w'.heap[s2]? = some (.cells pv 40 (0, 0)) ∧ Below w.heap.size w w' ∧ Below V5.heap.size V5 w')) [] (by kernel_rfl) (HK.out _ ((Below.refl _ _).drew)) (fun hHeld => ?_)
            refine wpAnyF_take (i := 0) (oi := _) (v := ?_) rfl (by kernel_rfl) (by kernel_rfl) (by kernel_rfl) (by kernel_rfl) (fun _ _ _ h => h) (Or.inl ⟨by rfl, ?_⟩) (by assumption) ?_
            rotate_left 1
            · intro w hSw
              (try dsimp only at hSw)
              (first | (go_simp; done) | (go_simp; with_reducible rfl))
            (try simp only [Act.put, List.getElem_toArray, List.getElem_cons_succ, List.getElem_cons_zero, List.setIfInBounds_toArray, List.set_cons_zero, List.set_cons_succ])
            refine wpAnyF_take (i := 1) (oi := _) (v := ?_) rfl (by kernel_rfl) (by kernel_rfl) (by kernel_rfl) (by kernel_rfl) (fun _ _ _ h => h) (Or.inl ⟨by rfl, ?_⟩) (by assumption) ?_
            rotate_left 1
            · intro w hSw
              (try dsimp only at hSw)
              (first | (go_simp; done) | (go_simp; with_reducible rfl))
            (try simp only [Act.put, List.getElem_toArray, List.getElem_cons_succ, List.getElem_cons_zero, List.setIfInBounds_toArray, List.set_cons_zero, List.set_cons_succ])
            refine wpAnyF_take (i := 2) (oi := _) (v := ?_) rfl (by kernel_rfl) (by kernel_rfl) (by kernel_rfl) (by kernel_rfl) (fun _ _ _ h => h) (Or.inl ⟨by rfl, ?_⟩) (by assumption) ?_
            rotate_left 1
            · intro w hSw
              (try dsimp only at hSw)
              (first | (go_simp; done) | (go_simp; with_reducible rfl))
            (try simp only [Act.put, List.getElem_toArray, List.getElem_cons_succ, List.getElem_cons_zero, List.setIfInBounds_toArray, List.set_cons_zero, List.set_cons_succ])
            refine wpAnyF_take (i := 3) (oi := _) (v := ?_) rfl (by kernel_rfl) (by kernel_rfl) (by kernel_rfl) (by kernel_rfl) (fun _ _ _ h => h) (Or.inl ⟨by rfl, ?_⟩) (by assumption) ?_
            rotate_left 1
            · intro w hSw
              (try dsimp only at hSw)
              (first | (go_simp; done) | (go_simp; with_reducible rfl))
            (try simp only [Act.put, List.getElem_toArray, List.getElem_cons_succ, List.getElem_cons_zero, List.setIfInBounds_toArray, List.set_cons_zero, List.set_cons_succ])
            refine wpAnyF_take (i := 4) (oi := _) (v := ?_) rfl (by kernel_rfl) (by kernel_rfl) (by kernel_rfl) (by kernel_rfl) (fun _ _ _ h => h) (Or.inl ⟨by rfl, ?_⟩) (by assumption) ?_
            rotate_left 1
            · intro w hSw
              (try dsimp only at hSw)
              (first | (go_simp; done) | (go_simp; with_reducible rfl))
            (try simp only [Act.put, List.getElem_toArray, List.getElem_cons_succ, List.getElem_cons_zero, List.setIfInBounds_toArray, List.set_cons_zero, List.set_cons_succ])
            refine wpAnyF_take (i := 5) (oi := _) (v := ?_) rfl (by kernel_rfl) (by kernel_rfl) (by kernel_rfl) (by kernel_rfl) (fun _ _ _ h => h) (Or.inl ⟨by rfl, ?_⟩) (by assumption) ?_
            rotate_left 1
            · intro w hSw
              (try dsimp only at hSw)
              (first | (go_simp; done) | (go_simp; with_reducible rfl))
            (try simp only [Act.put, List.getElem_toArray, List.getElem_cons_succ, List.getElem_cons_zero, List.setIfInBounds_toArray, List.set_cons_zero, List.set_cons_succ])
            refine wpAnyF_take (i := 6) (oi := _) (v := ?_) rfl (by kernel_rfl) (by kernel_rfl) (by kernel_rfl) (by kernel_rfl) (fun _ _ _ h => h) (Or.inl ⟨by rfl, ?_⟩) (by assumption) ?_
            rotate_left 1
            · intro w hSw
              (try dsimp only at hSw)
              (first | (go_simp; done) | (go_simp; with_reducible rfl))
            (try simp only [Act.put, List.getElem_toArray, List.getElem_cons_succ, List.getElem_cons_zero, List.setIfInBounds_toArray, List.set_cons_zero, List.set_cons_succ])
            refine wpAnyF_take (i := 7) (oi := _) (v := ?_) rfl (by kernel_rfl) (by kernel_rfl) (by kernel_rfl) (by kernel_rfl) (fun _ _ _ h => h) (Or.inl ⟨by rfl, ?_⟩) (by assumption) ?_
            rotate_left 1
            · intro w hSw
              (try dsimp only at hSw)
              (first | (go_simp; done) | (go_simp; with_reducible rfl))
            (try simp only [Act.put, List.getElem_toArray, List.getElem_cons_succ, List.getElem_cons_zero, List.setIfInBounds_toArray, List.set_cons_zero, List.set_cons_succ])
            refine wpAnyF_take (i := 8) (oi := _) (v := ?_) rfl (by kernel_rfl) (by kernel_rfl) (by kernel_rfl) (by kernel_rfl) (fun _ _ _ h => h) (Or.inl ⟨by rfl, ?_⟩) (by assumption) ?_
            rotate_left 1
            · intro w hSw
              (try dsimp only at hSw)
              (first | (go_simp; done) | (go_simp; with_reducible rfl))
            (try simp only [Act.put, List.getElem_toArray, List.getElem_cons_succ, List.getElem_cons_zero, List.setIfInBounds_toArray, List.set_cons_zero, List.set_cons_succ])
            refine wpAnyF_take (i := 9) (oi := _) (v := ?_) rfl (by kernel_rfl) (by kernel_rfl) (by kernel_rfl) (by kernel_rfl) (fun _ _ _ h => h) (Or.inl ⟨by rfl, ?_⟩) (by assumption) ?_
            rotate_left 1
            · intro w hSw
              (try dsimp only at hSw)
              (first | (go_simp; done) | (go_simp; with_reducible rfl))
            (try simp only [Act.put, List.getElem_toArray, List.getElem_cons_succ, List.getElem_cons_zero, List.setIfInBounds_toArray, List.set_cons_zero, List.set_cons_succ])
            refine wpAnyF_take (i := 10) (oi := _) (v := ?_) rfl (by kernel_rfl) (by kernel_rfl) (by kernel_rfl) (by kernel_rfl) (fun _ _ _ h => h) (Or.inl ⟨by rfl, ?_⟩) (by assumption) ?_
            rotate_left 1
            · intro w hSw
              (try dsimp only at hSw)
              (first | (go_simp; done) | (go_simp; with_reducible rfl))
            (try simp only [Act.put, List.getElem_toArray, List.getElem_cons_succ, List.getElem_cons_zero, List.setIfInBounds_toArray, List.set_cons_zero, List.set_cons_succ])
            refine wpAnyF_take (i := 11) (oi := _) (v := ?_) rfl (by kernel_rfl) (by kernel_rfl) (by kernel_rfl) (by kernel_rfl) (fun _ _ _ h => h) (Or.inl ⟨by rfl, ?_⟩) (by assumption) ?_
            rotate_left 1
            · intro w hSw
              (try dsimp only at hSw)
              (first | (go_simp; done) | (go_simp; with_reducible rfl))
            (try simp only [Act.put, List.getElem_toArray, List.getElem_cons_succ, List.getElem_cons_zero, List.setIfInBounds_toArray, List.set_cons_zero, List.set_cons_succ])
            refine wpAnyF_take (i := 12) (oi := _) (v := _) rfl (by kernel_rfl) (by kernel_rfl) (by kernel_rfl) (by kernel_rfl) (fun _ _ _ h => h) (yields_row17 (by rfl) 45 (.tmp 12) rfl s 0 rfl pv _ (fun W h => range_row h.1) Try.underlying45 rfl HIP.out) (by assumption) ?_
            (try simp only [Act.put, List.getElem_toArray, List.getElem_cons_succ, List.getElem_cons_zero, List.setIfInBounds_toArray, List.set_cons_zero, List.set_cons_succ])
            refine wpAnyF_take (i := 14) (oi := _) (v := _) rfl (by kernel_rfl) (by kernel_rfl) (by kernel_rfl) (by kernel_rfl) (fun _ _ _ h => h) (yields_row17 (by rfl) 40 (.tmp 14) rfl s2 0 rfl pv _ (fun W h => range_row h.2.1) Try.underlying40 rfl HIP2.out) (by assumption) ?_
            (try simp only [Act.put, List.getElem_toArray, List.getElem_cons_succ, List.getElem_cons_zero, List.setIfInBounds_toArray, List.set_cons_zero, List.set_cons_succ])
            refine wpAnyF_ready (rs := [13]) (by kernel_rfl) (by simp) ?_
            refine AllReadyF.cons (o := _) rfl (fun K hK => ?_) AllReadyF.nil
            go_simp
            (go_at_call 17)
            refine (HPL.out _).mono ?_
            rintro e wn13 ⟨rfl, hbn13⟩
            refine hK.out _ _ (HK.out _ (hHeld.2.2.2.trans (hbn13.mono hHeld.2.2.2.size))) (fun hHeld13 => ?_)
            clear hK K
            (try simp only [Act.put, List.getElem_toArray, List.getElem_cons_succ, List.getElem_cons_zero, List.setIfInBounds_toArray, List.set_cons_zero, List.set_cons_succ])
            refine wpAnyF_take (i := 15) (oi := _) (v := ?_) rfl (by kernel_rfl) (by kernel_rfl) (by kernel_rfl) (by kernel_rfl) (fun _ _ _ h => h) (Or.inl ⟨by rfl, ?_⟩) (by assumption) ?_
            rotate_left 1
            · intro w hSw
              (try dsimp only at hSw)
              (first | (go_simp; done) | (go_simp; with_reducible rfl))
            (try simp only [Act.put, List.getElem_toArray, List.getElem_cons_succ, List.getElem_cons_zero, List.setIfInBounds_toArray, List.set_cons_zero, List.set_cons_succ])
            refine wpAnyF_take (i := 16) (oi := _) (v := ?_) rfl (by kernel_rfl) (by kernel_rfl) (by kernel_rfl) (by kernel_rfl) (fun _ _ _ h => h) (Or.inl ⟨by rfl, ?_⟩) (by assumption) ?_
            rotate_left 1
            · intro w hSw
              (try dsimp only at hSw)
              (first | (go_simp; done) | (go_simp; with_reducible rfl))
            (try simp only [Act.put, List.getElem_toArray, List.getElem_cons_succ, List.getElem_cons_zero, List.setIfInBounds_toArray, List.set_cons_zero, List.set_cons_succ])
            refine wpAnyF_take (i := 17) (oi := _) (v := ?_) rfl (by kernel_rfl) (by kernel_rfl) (by kernel_rfl) (by kernel_rfl) (fun _ _ _ h => h) (Or.inl ⟨by rfl, ?_⟩) (by assumption) ?_
            rotate_left 1
            · intro w hSw
              (try dsimp only at hSw)
              (first | (go_simp; done) | (go_simp; with_reducible rfl))
            (try simp only [Act.put, List.getElem_toArray, List.getElem_cons_succ, List.getElem_cons_zero, List.setIfInBounds_toArray, List.set_cons_zero, List.set_cons_succ])
            refine wpAnyF_ready (rs := [18]) (by kernel_rfl) (by simp) ?_
            refine AllReadyF.cons (o := _) rfl (fun K hK => ?_) AllReadyF.nil
            go_simp
            (go_at_call 10)
            refine (HAW.out _).mono ?_
            rintro e wn18 ⟨rfl, hbn18⟩
            refine hK.out _ _ (HK.out _ (hHeld13.2.2.2.trans (hbn18.mono hHeld13.2.2.2.size))) (fun hHeld18 => ?_)
            clear hK K
            (try simp only [Act.put, List.getElem_toArray, List.getElem_cons_succ, List.getElem_cons_zero, List.setIfInBounds_toArray, List.set_cons_zero, List.set_cons_succ])
            refine wpAnyF_take (i := 19) (oi := _) (v := ?_) rfl (by kernel_rfl) (by kernel_rfl) (by kernel_rfl) (by kernel_rfl) (fun _ _ _ h => h) (Or.inl ⟨by rfl, ?_⟩) (by assumption) ?_
            rotate_left 1
            · intro w hSw
              (try dsimp only at hSw)
              (first | (go_simp; done) | (go_simp; with_reducible rfl))
            (try simp only [Act.put, List.getElem_toArray, List.getElem_cons_succ, List.getElem_cons_zero, List.setIfInBounds_toArray, List.set_cons_zero, List.set_cons_succ])
            refine wpAnyF_ready (rs := [20]) (by kernel_rfl) (by simp) ?_
            refine AllReadyF.cons (o := _) rfl (fun K hK => ?_) AllReadyF.nil
            go_simp
            refine hK.out _ _ (by assumption) (fun hHeld20 => ?_)
            clear hK K
            (try simp only [Act.put, List.getElem_toArray, List.getElem_cons_succ, List.getElem_cons_zero, List.setIfInBounds_toArray, List.set_cons_zero, List.set_cons_succ])
            refine wpAnyF_done (by kernel_rfl) ?_ _
            have HF := Lib.hid hHeld18.2.2.1
            go_wp2
            go_ret
            exact ⟨rfl, HF.out⟩
      · have hd1 : decide (0 < cu) = false := decide_eq_false hc0
        have hbs0 : BS wr wr.heap.size (some ⟨g, 0, none⟩) 256 cap m := by
          obtain ⟨A9, c9, e9, h9⟩ := hown.bs hmb
          rw [hml] at e9 h9
          injection e9 with e1 e2 e3
          rw [e1, e3]; exact h9
        obtain ⟨v, er, hv, her, hvl⟩ := parse_ex m
        rcases her with rfl | rfl
        · have hbs := hbs0
          clear hbs0
          have HPA := Lib.hid (hparse_any (some ⟨g, 0, none⟩) 256 cap m v 0 wr hbs (by omega) hv)
          have HPB := Lib.hid (fun W (h : BS W W.heap.size (some ⟨g, 0, none⟩) 256 cap m) => rparse_any (some ⟨g, 0, none⟩) 256 cap m v 0 W h hv)
          have HPL := Lib.hid (fun W => plain_any v W)
          have HAW := Lib.hid (fun W => awakeH_any W)
          have HIP := Lib.hid (info_rth v)
          have HIP2 := Lib.hid (info_rtr v)
          have HONP := Lib.hid (rt_one v)
          have HSP : Hid ((rtV zl17).size = (rtV v).size) := Lib.hid (by rw [rowV_size, rowV_size])
          have hqe := eq_r v v hvl hvl
          rw [decide_eq_true rfl] at hqe
          have HS := Lib.hid hbs
          have HB := Lib.hid hb
          obtain ⟨pv, hpv⟩ : ∃ z, z = rtV v := ⟨_, rfl⟩
          obtain ⟨zz, hzz⟩ : ∃ z, z = rtV zl17 := ⟨_, rfl⟩
          have hzs : zz.size = 17 := by rw [hzz, rowV_size]
          rw [← hpv] at HPL HIP HIP2 HONP HSP hqe
          rw [← hzz] at HSP hz hzh
          have HPV := Lib.hid hpv
          clear hbs hb hpv hzz hv hvl hown hmb hml hcl HB2 HO2 H1 H2
          go_wp2_with fail
          refine HPA.out.mono ?_
          rintro e w4 ⟨rfl, hb4⟩
          have HB4 := Lib.hid (HB.out.trans (hb4.mono HB.out.size))
          have HS4 := Lib.hid ((HS.out.below hb4).more hb4.size)
          rw [← HPV.out]
          clear hb4
          have h3 := heap_alloc_new w4 (.cells zz 45)
          obtain ⟨V3, hV3⟩ : ∃ V3, V3 = (w4.alloc (.cells zz 45)).setRow w4.heap.size pv := ⟨_, rfl⟩
          have hbV : Below w4.heap.size w4 V3 := by rw [hV3]; exact below_setRow ((Below.refl _ _).alloc (Nat.le_refl _) _) (Nat.le_refl _) _
          have HXP : Hid (V3.heap[w4.heap.size]? = some (.cells pv 45 (0, 0))) := Lib.hid (by rw [hV3]; exact setRow_heap _ _ _ pv _ _ h3)
          have HB5 := Lib.hid (HB4.out.trans (hbV.mono HB4.out.size))
          have HS5 := Lib.hid ((HS4.out.below hbV).more hbV.size)
          have HLW : Hid (w.heap.size ≤ w4.heap.size) := Lib.hid HB4.out.size
          have H3 := Lib.hid h3
          have HVE := Lib.hid hV3
          clear h3 hV3 hbV
          go_wp2_with (with_reducible refine wpList_store_row rfl 45 (.tmp 12) (.tmp 57) rfl _ _ rfl rfl 45 _ H3.out HIP.out HSP.out HONP.out ?_)
          rw [← HVE.out]
          generalize w4.heap.size = s at *
          refine (HPB.out _ HS5.out).mono ?_
          rintro e w6 ⟨rfl, hb6⟩
          have HXP6 : Hid (w6.heap[s]? = some (.cells pv 45 (0, 0))) := Lib.hid ((hb6.block s (Array.getElem?_eq_some_iff.1 HXP.out).1).trans HXP.out)
          have HB6 := Lib.hid (HB5.out.trans (hb6.mono HB5.out.size))
          rw [← HPV.out]
          clear hb6 HVE H3
          have h3 := heap_alloc_new w6 (.cells zz 40)
          obtain ⟨V5, hV3⟩ : ∃ V5, V5 = (w6.alloc (.cells zz 40)).setRow w6.heap.size pv := ⟨_, rfl⟩
          have hbV : Below w6.heap.size w6 V5 := by rw [hV3]; exact below_setRow ((Below.refl _ _).alloc (Nat.le_refl _) _) (Nat.le_refl _) _
          have HXQ : Hid (V5.heap[w6.heap.size]? = some (.cells pv 40 (0, 0))) := Lib.hid (by rw [hV3]; exact setRow_heap _ _ _ pv _ _ h3)
          have HXP7 : Hid (V5.heap[s]? = some (.cells pv 45 (0, 0))) := Lib.hid ((hbV.block s (Array.getElem?_eq_some_iff.1 HXP6.out).1).trans HXP6.out)
          have HB7 := Lib.hid (HB6.out.trans (hbV.mono HB6.out.size))
          have H3 := Lib.hid h3
          have HVE := Lib.hid hV3
          clear h3 hV3 hbV
          go_wp2_with (with_reducible refine wpList_store_row rfl 40 (.tmp 14) (.tmp 62) rfl _ _ rfl rfl 40 _ H3.out HIP2.out HSP.out HONP.out ?_)
          rw [← HVE.out]
          generalize w6.heap.size = s2 at *
          have HK : Hid (∀ W, Below V5.heap.size V5 W → (fun w' => w'.heap[s]? = some (.cells pv 45 (0, 0)) ∧ w'.heap[s2]? = some (.cells pv 40 (0, 0)) ∧ Below w.heap.size w w' ∧ Below V5.heap.size V5 w') W) := Lib.hid (fun W hW => ⟨(hW.block s (Array.getElem?_eq_some_iff.1 HXP7.out).1).trans HXP7.out, (hW.block _ (Array.getElem?_eq_some_iff.1 HXQ.out).1).trans HXQ.out, HB7.out.trans (hW.mono HB7.out.size), hW⟩)
          clear HVE H3
          refine wp_region_F (S := (fun w' => w'.heap[s]? = some (.cells pv 45 (0, 0)) ∧ w'.heap[s2]? = some (.cells pv 40 (0, 0)) ∧ Below w.heap.size w w' ∧ Below V5.heap.size V5 w')) [] (by kernel_rfl) (HK.out _ ((Below.refl _ _).drew)) (fun hHeld => ?_)
          refine wpAnyF_take (i := 0) (oi := _) (v := ?_) rfl (by kernel_rfl) (by kernel_rfl) (by kernel_rfl) (by kernel_rfl) (fun _ _ _ h => h) (Or.inl ⟨by rfl, ?_⟩) (by assumption) ?_
          rotate_left 1
          · intro w hSw
            (try dsimp only at hSw)
            (first | (go_simp; done) | (go_simp; with_reducible rfl))
          (try simp only [Act.put, List.getElem_toArray, List.getElem_cons_succ, List.getElem_cons_zero, List.setIfInBounds_toArray, List.set_cons_zero, List.set_cons_succ])
          refine wpAnyF_take (i := 1) (oi := _) (v := ?_) rfl (by kernel_rfl) (by kernel_rfl) (by kernel_rfl) (by kernel_rfl) (fun _ _ _ h => h) (Or.inl ⟨by rfl, ?_⟩) (by assumption) ?_
          rotate_left 1
          · intro w hSw
            (try dsimp only at hSw)
            (first | (go_simp; done) | (go_simp; with_reducible rfl))
          (try simp only [Act.put, List.getElem_toArray, List.getElem_cons_succ, List.getElem_cons_zero, List.setIfInBounds_toArray, List.set_cons_zero, List.set_cons_succ])
          refine wpAnyF_take (i := 2) (oi := _) (v := ?_) rfl (by kernel_rfl) (by kernel_rfl) (by kernel_rfl) (by kernel_rfl) (fun _ _ _ h => h) (Or.inl ⟨by rfl, ?_⟩) (by assumption) ?_
          rotate_left 1
          · intro w hSw
            (try dsimp only at hSw)
            (first | (go_simp; done) | (go_simp; with_reducible rfl))
          (try simp only [Act.put, List.getElem_toArray, List.getElem_cons_succ, List.getElem_cons_zero, List.setIfInBounds_toArray, List.set_cons_zero, List.set_cons_succ])
          refine wpAnyF_take (i := 3) (oi := _) (v := ?_) rfl (by kernel_rfl) (by kernel_rfl) (by kernel_rfl) (by kernel_rfl) (fun _ _ _ h => h) (Or.inl ⟨by rfl, ?_⟩) (by assumption) ?_
          rotate_left 1
          · intro w hSw
            (try dsimp only at hSw)
            (first | (go_simp; done) | (go_simp; with_reducible rfl))
          (try simp only [Act.put, List.getElem_toArray, List.getElem_cons_succ, List.getElem_cons_zero, List.setIfInBounds_toArray, List.set_cons_zero, List.set_cons_succ])
          refine wpAnyF_take (i := 4) (oi := _) (v := ?_) rfl (by kernel_rfl) (by kernel_rfl) (by kernel_rfl) (by kernel_rfl) (fun _ _ _ h => h) (Or.inl ⟨by rfl, ?_⟩) (by assumption) ?_
          rotate_left 1
          · intro w hSw
            (try dsimp only at hSw)
            (first | (go_simp; done) | (go_simp; with_reducible rfl))
          (try simp only [Act.put, List.getElem_toArray, List.getElem_cons_succ, List.getElem_cons_zero, List.setIfInBounds_toArray, List.set_cons_zero, List.set_cons_succ])
          refine wpAnyF_take (i := 5) (oi := _) (v := ?_) rfl (by kernel_rfl) (by kernel_rfl) (by kernel_rfl) (by kernel_rfl) (fun _ _ _ h => h) (Or.inl ⟨by rfl, ?_⟩) (by assumption) ?_
          rotate_left 1
          · intro w hSw
            (try dsimp only at hSw)
            (first | (go_simp; done) | (go_simp; with_reducible rfl))
          (try simp only [Act.put, List.getElem_toArray, List.getElem_cons_succ, List.getElem_cons_zero, List.setIfInBounds_toArray, List.set_cons_zero, List.set_cons_succ])
          refine wpAnyF_take (i := 6) (oi := _) (v := ?_) rfl (by kernel_rfl) (by kernel_rfl) (by kernel_rfl) (by kernel_rfl) (fun _ _ _ h => h) (Or.inl ⟨by rfl, ?_⟩) (by assumption) ?_
          rotate_left 1
          · intro w hSw
            (try dsimp only at hSw)
            (first | (go_simp; done) | (go_simp; with_reducible rfl))
          (try simp only [Act.put, List.getElem_toArray, List.getElem_cons_succ, List.getElem_cons_zero, List.setIfInBounds_toArray, List.set_cons_zero, List.set_cons_succ])
          refine wpAnyF_take (i := 7) (oi := _) (v := undef) rfl (by kernel_rfl) (by kernel_rfl) (by kernel_rfl) (by kernel_rfl) (fun _ _ _ h => h) (Or.inr ⟨by rfl, rfl⟩) (by assumption) ?_
          (try simp only [Act.put, List.getElem_toArray, List.getElem_cons_succ, List.getElem_cons_zero, List.setIfInBounds_toArray, List.set_cons_zero, List.set_cons_succ])
          refine wpAnyF_take (i := 8) (oi := _) (v := undef) rfl (by kernel_rfl) (by kernel_rfl) (by kernel_rfl) (by kernel_rfl) (fun _ _ _ h => h) (Or.inr ⟨by rfl, rfl⟩) (by assumption) ?_
          (try simp only [Act.put, List.getElem_toArray, List.getElem_cons_succ, List.getElem_cons_zero, List.setIfInBounds_toArray, List.set_cons_zero, List.set_cons_succ])
          refine wpAnyF_take (i := 9) (oi := _) (v := ?_) rfl (by kernel_rfl) (by kernel_rfl) (by kernel_rfl) (by kernel_rfl) (fun _ _ _ h => h) (Or.inl ⟨by rfl, ?_⟩) (by assumption) ?_
          rotate_left 1
          · intro w hSw
            (try dsimp only at hSw)
            (first | (go_simp; done) | (go_simp; with_reducible rfl))
          (try simp only [Act.put, List.getElem_toArray, List.getElem_cons_succ, List.getElem_cons_zero, List.setIfInBounds_toArray, List.set_cons_zero, List.set_cons_succ])
          refine wpAnyF_take (i := 10) (oi := _) (v := ?_) rfl (by kernel_rfl) (by kernel_rfl) (by kernel_rfl) (by kernel_rfl) (fun _ _ _ h => h) (Or.inl ⟨by rfl, ?_⟩) (by assumption) ?_
          rotate_left 1
          · intro w hSw
            (try dsimp only at hSw)
            (first | (go_simp; done) | (go_simp; with_reducible rfl))
          (try simp only [Act.put, List.getElem_toArray, List.getElem_cons_succ, List.getElem_cons_zero, List.setIfInBounds_toArray, List.set_cons_zero, List.set_cons_succ])
          refine wpAnyF_take (i := 11) (oi := _) (v := ?_) rfl (by kernel_rfl) (by kernel_rfl) (by kernel_rfl) (by kernel_rfl) (fun _ _ _ h => h) (Or.inl ⟨by rfl, ?_⟩) (by assumption) ?_
          rotate_left 1
          · intro w hSw
            (try dsimp only at hSw)
            (first | (go_simp; done) | (go_simp; with_reducible rfl))
          (try simp only [Act.put, List.getElem_toArray, List.getElem_cons_succ, List.getElem_cons_zero, List.setIfInBounds_toArray, List.set_cons_zero, List.set_cons_succ])
          refine wpAnyF_take (i := 12) (oi := _) (v := _) rfl (by kernel_rfl) (by kernel_rfl) (by kernel_rfl) (by kernel_rfl) (fun _ _ _ h => h) (yields_row17 (by rfl) 45 (.tmp 12) rfl s 0 rfl pv _ (fun W h => range_row h.1) Try.underlying45 rfl HIP.out) (by assumption) ?_
          (try simp only [Act.put, List.getElem_toArray, List.getElem_cons_succ, List.getElem_cons_zero, List.setIfInBounds_toArray, List.set_cons_zero, List.set_cons_succ])
          refine wpAnyF_take (i := 14) (oi := _) (v := _) rfl (by kernel_rfl) (by kernel_rfl) (by kernel_rfl) (by kernel_rfl) (fun _ _ _ h => h) (yields_row17 (by rfl) 40 (.tmp 14) rfl s2 0 rfl pv _ (fun W h => range_row h.2.1) Try.underlying40 rfl HIP2.out) (by assumption) ?_
          (try simp only [Act.put, List.getElem_toArray, List.getElem_cons_succ, List.getElem_cons_zero, List.setIfInBounds_toArray, List.set_cons_zero, List.set_cons_succ])
          refine wpAnyF_ready (rs := [13]) (by kernel_rfl) (by simp) ?_
          refine AllReadyF.cons (o := _) rfl (fun K hK => ?_) AllReadyF.nil
          go_simp
          (go_at_call 17)
          refine (HPL.out _).mono ?_
          rintro e wn13 ⟨rfl, hbn13⟩
          refine hK.out _ _ (HK.out _ (hHeld.2.2.2.trans (hbn13.mono hHeld.2.2.2.size))) (fun hHeld13 => ?_)
          clear hK K
          (try simp only [Act.put, List.getElem_toArray, List.getElem_cons_succ, List.getElem_cons_zero, List.setIfInBounds_toArray, List.set_cons_zero, List.set_cons_succ])
          refine wpAnyF_take (i := 15) (oi := _) (v := ?_) rfl (by kernel_rfl) (by kernel_rfl) (by kernel_rfl) (by kernel_rfl) (fun _ _ _ h => h) (Or.inl ⟨by rfl, ?_⟩) (by assumption) ?_
          rotate_left 1
          · intro w hSw
            (try dsimp only at hSw)
            (first | (go_simp; done) | (go_simp; with_reducible rfl))
          (try simp only [Act.put, List.getElem_toArray, List.getElem_cons_succ, List.getElem_cons_zero, List.setIfInBounds_toArray, List.set_cons_zero, List.set_cons_succ])
          refine wpAnyF_take (i := 16) (oi := _) (v := ?_) rfl (by kernel_rfl) (by kernel_rfl) (by kernel_rfl) (by kernel_rfl) (fun _ _ _ h => h) (Or.inl ⟨by rfl, ?_⟩) (by assumption) ?_
          rotate_left 1
          · intro w hSw
            (try dsimp only at hSw)
            (first | (go_simp; done) | (go_simp; with_reducible rfl))
          (try simp only [Act.put, List.getElem_toArray, List.getElem_cons_succ, List.getElem_cons_zero, List.setIfInBounds_toArray, List.set_cons_zero, List.set_cons_succ])
          refine wpAnyF_take (i := 17) (oi := _) (v := ?_) rfl (by kernel_rfl) (by kernel_rfl) (by kernel_rfl) (by kernel_rfl) (fun _ _ _ h => h) (Or.inl ⟨by rfl, ?_⟩) (by assumption) ?_
          rotate_left 1
          · intro w hSw
            (try dsimp only at hSw)
            (first | (go_simp; done) | (go_simp; with_reducible rfl))
          (try simp only [Act.put, List.getElem_toArray, List.getElem_cons_succ, List.getElem_cons_zero, List.setIfInBounds_toArray, List.set_cons_zero, List.set_cons_succ])
          refine wpAnyF_ready (rs := [18]) (by kernel_rfl) (by simp) ?_
          refine AllReadyF.cons (o := _) rfl (fun K hK => ?_) AllReadyF.nil
          go_simp
          (go_at_call 10)
          refine (HAW.out _).mono ?_
          rintro e wn18 ⟨rfl, hbn18⟩
          refine hK.out _ _ (HK.out _ (hHeld13.2.2.2.trans (hbn18.mono hHeld13.2.2.2.size))) (fun hHeld18 => ?_)
          clear hK K
          (try simp only [Act.put, List.getElem_toArray, List.getElem_cons_succ, List.getElem_cons_zero, List.setIfInBounds_toArray, List.set_cons_zero, List.set_cons_succ])
          refine wpAnyF_take (i := 19) (oi := _) (v := ?_) rfl (by kernel_rfl) (by kernel_rfl) (by kernel_rfl) (by kernel_rfl) (fun _ _ _ h => h) (Or.inl ⟨by rfl, ?_⟩) (by assumption) ?_
          rotate_left 1
          · intro w hSw
            (try dsimp only at hSw)
            (first | (go_simp; done) | (go_simp; with_reducible rfl))
          (try simp only [Act.put, List.getElem_toArray, List.getElem_cons_succ, List.getElem_cons_zero, List.setIfInBounds_toArray, List.set_cons_zero, List.set_cons_succ])
          refine wpAnyF_ready (rs := [20]) (by kernel_rfl) (by simp) ?_
          refine AllReadyF.cons (o := _) rfl (fun K hK => ?_) AllReadyF.nil
          go_simp
          refine hK.out _ _ (by assumption) (fun hHeld20 => ?_)
          clear hK K
          (try simp only [Act.put, List.getElem_toArray, List.getElem_cons_succ, List.getElem_cons_zero, List.setIfInBounds_toArray, List.set_cons_zero, List.set_cons_succ])
          refine wpAnyF_done (by kernel_rfl) ?_ _
          have HF := Lib.hid hHeld18.2.2.1
          go_wp2
          go_ret
          exact ⟨rfl, HF.out⟩
        · have hbs := hbs0
          clear hbs0
          have HPA := Lib.hid (hparse_any (some ⟨g, 0, none⟩) 256 cap m v 4 wr hbs (by omega) hv)
          have HPB := Lib.hid (fun W (h : BS W W.heap.size (some ⟨g, 0, none⟩) 256 cap m) => rparse_any (some ⟨g, 0, none⟩) 256 cap m v 4 W h hv)
          have HPL := Lib.hid (fun W => plain_any v W)
          have HAW := Lib.hid (fun W => awakeH_any W)
          have HIP := Lib.hid (info_rth v)
          have HIP2 := Lib.hid (info_rtr v)
          have HONP := Lib.hid (rt_one v)
          have HSP : Hid ((rtV zl17).size = (rtV v).size) := Lib.hid (by rw [rowV_size, rowV_size])
          have hqe := eq_r v v hvl hvl
          rw [decide_eq_true rfl] at hqe
          have HS := Lib.hid hbs
          have HB := Lib.hid hb
          obtain ⟨pv, hpv⟩ : ∃ z, z = rtV v := ⟨_, rfl⟩
          obtain ⟨zz, hzz⟩ : ∃ z, z = rtV zl17 := ⟨_, rfl⟩
          have hzs : zz.size = 17 := by rw [hzz, rowV_size]
          rw [← hpv] at HPL HIP HIP2 HONP HSP hqe
          rw [← hzz] at HSP hz hzh
          have HPV := Lib.hid hpv
          clear hbs hb hpv hzz hv hvl hown hmb hml hcl HB2 HO2 H1 H2
          go_wp2_with fail
          refine HPA.out.mono ?_
          rintro e w4 ⟨rfl, hb4⟩
          have HB4 := Lib.hid (HB.out.trans (hb4.mono HB.out.size))
          have HS4 := Lib.hid ((HS.out.below hb4).more hb4.size)
          rw [← HPV.out]
          clear hb4
          have h3 := heap_alloc_new w4 (.cells zz 45)
          obtain ⟨V3, hV3⟩ : ∃ V3, V3 = (w4.alloc (.cells zz 45)).setRow w4.heap.size pv := ⟨_, rfl⟩
          have hbV : Below w4.heap.size w4 V3 := by rw [hV3]; exact below_setRow ((Below.refl _ _).alloc (Nat.le_refl _) _) (Nat.le_refl _) _
          have HXP : Hid (V3.heap[w4.heap.size]? = some (.cells pv 45 (0, 0))) := Lib.hid (by rw [hV3]; exact setRow_heap _ _ _ pv _ _ h3)
          have HB5 := Lib.hid (HB4.out.trans (hbV.mono HB4.out.size))
          have HS5 := Lib.hid ((HS4.out.below hbV).more hbV.size)
          have HLW : Hid (w.heap.size ≤ w4.heap.size) := Lib.hid HB4.out.size
          have H3 := Lib.hid h3
          have HVE := Lib.hid hV3
          clear h3 hV3 hbV
          go_wp2_with (with_reducible refine wpList_store_row rfl 45 (.tmp 12) (.tmp 57) rfl _ _ rfl rfl 45 _ H3.out HIP.out HSP.out HONP.out ?_)
          rw [← HVE.out]
          generalize w4.heap.size = s at *
          refine (HPB.out _ HS5.out).mono ?_
          rintro e w6 ⟨rfl, hb6⟩
          have HXP6 : Hid (w6.heap[s]? = some (.cells pv 45 (0, 0))) := Lib.hid ((hb6.block s (Array.getElem?_eq_some_iff.1 HXP.out).1).trans HXP.out)
          have HB6 := Lib.hid (HB5.out.trans (hb6.mono HB5.out.size))
          rw [← HPV.out]
          clear hb6 HVE H3
          have h3 := heap_alloc_new w6 (.cells zz 40)
          obtain ⟨V5, hV3⟩ : ∃ V5, V5 = (w6.alloc (.cells zz 40)).setRow w6.heap.size pv := ⟨_, rfl⟩
          have hbV : Below w6.heap.size w6 V5 := by rw [hV3]; exact below_setRow ((Below.refl _ _).alloc (Nat.le_refl _) _) (Nat.le_refl _) _
          have HXQ : Hid (V5.heap[w6.heap.size]? = some (.cells pv 40 (0, 0))) := Lib.hid (by rw [hV3]; exact setRow_heap _ _ _ pv _ _ h3)
          have HXP7 : Hid (V5.heap[s]? = some (.cells pv 45 (0, 0))) := Lib.hid ((hbV.block s (Array.getElem?_eq_some_iff.1 HXP6.out).1).trans HXP6.out)
          have HB7 := Lib.hid (HB6.out.trans (hbV.mono HB6.out.size))
          have H3 := Lib.hid h3
          have HVE := Lib.hid hV3
          clear h3 hV3 hbV
          go_wp2_with (with_reducible refine wpList_store_row rfl 40 (.tmp 14) (.tmp 62) rfl _ _ rfl rfl 40 _ H3.out HIP2.out HSP.out HONP.out ?_)
          rw [← HVE.out]
          generalize w6.heap.size = s2 at *
          have HK : Hid (∀ W, Below V5.heap.size V5 W → (fun w' => w'.heap[s]? = some (.cells pv 45 (0, 0)) ∧ w'.heap[s2]? = some (.cells pv 40 (0, 0)) ∧ Below w.heap.size w w' ∧ Below V5.heap.size V5 w') W) := Lib.hid (fun W hW => ⟨(hW.block s (Array.getElem?_eq_some_iff.1 HXP7.out).1).trans HXP7.out, (hW.block _ (Array.getElem?_eq_some_iff.1 HXQ.out).1).trans HXQ.out, HB7.out.trans (hW.mono HB7.out.size), hW⟩)
          clear HVE H3
          refine wp_region_F (S := (fun w' => w'.heap[s]? = some (.cells pv 45 (0, 0)) ∧ w'.heap[s2]? = some (.cells pv 40 (0, 0)) ∧ Below w.heap.size w w' ∧ Below V5.heap.size V5 w')) [] (by kernel_rfl) (HK.out _ ((Below.refl _ _).drew)) (fun hHeld => ?_)
          refine wpAnyF_take (i := 0) (oi := _) (v := ?_) rfl (by kernel_rfl) (by kernel_rfl) (by kernel_rfl) (by kernel_rfl) (fun _ _ _ h => h) (Or.inl ⟨by rfl, ?_⟩) (by assumption) ?_
          rotate_left 1
          · intro w hSw
            (try dsimp only at hSw)
            (first | (go_simp; done) | (go_simp; with_reducible rfl))
          (try simp only [Act.put, List.getElem_toArray, List.getElem_cons_succ, List.getElem_cons_zero, List.setIfInBounds_toArray, List.set_cons_zero, List.set_cons_succ])
          refine wpAnyF_take (i := 1) (oi := _) (v := ?_) rfl (by kernel_rfl) (by kernel_rfl) (by kernel_rfl) (by kernel_rfl) (fun _ _ _ h => h) (Or.inl ⟨by rfl, ?_⟩) (by assumption) ?_
          rotate_left 1
          · intro w hSw
            (try dsimp only at hSw)
            (first | (go_simp; done) | (go_simp; with_reducible rfl))
          (try simp only [Act.put, List.getElem_toArray, List.getElem_cons_succ, List.getElem_cons_zero, List.setIfInBounds_toArray, List.set_cons_zero, List.set_cons_succ])
          refine wpAnyF_take (i := 2) (oi := _) (v := ?_) rfl (by kernel_rfl) (by kernel_rfl) (by kernel_rfl) (by kernel_rfl) (fun _ _ _ h => h) (Or.inl ⟨by rfl, ?_⟩) (by assumption) ?_
          rotate_left 1
          · intro w hSw
            (try dsimp only at hSw)
            (first | (go_simp; done) | (go_simp; with_reducible rfl))
          (try simp only [Act.put, List.getElem_toArray, List.getElem_cons_succ, List.getElem_cons_zero, List.setIfInBounds_toArray, List.set_cons_zero, List.set_cons_succ])
          refine wpAnyF_take (i := 3) (oi := _) (v := ?_) rfl (by kernel_rfl) (by kernel_rfl) (by kernel_rfl) (by kernel_rfl) (fun _ _ _ h => h) (Or.inl ⟨by rfl, ?_⟩) (by assumption) ?_
          rotate_left 1
          · intro w hSw
            (try dsimp only at hSw)
            (first | (go_simp; done) | (go_simp; with_reducible rfl))
          (try simp only [Act.put, List.getElem_toArray, List.getElem_cons_succ, List.getElem_cons_zero, List.setIfInBounds_toArray, List.set_cons_zero, List.set_cons_succ])
          refine wpAnyF_take (i := 4) (oi := _) (v := ?_) rfl (by kernel_rfl) (by kernel_rfl) (by kernel_rfl) (by kernel_rfl) (fun _ _ _ h => h) (Or.inl ⟨by rfl, ?_⟩) (by assumption) ?_
          rotate_left 1
          · intro w hSw
            (try dsimp only at hSw)
            (first | (go_simp; done) | (go_simp; with_reducible rfl))
          (try simp only [Act.put, List.getElem_toArray, List.getElem_cons_succ, List.getElem_cons_zero, List.setIfInBounds_toArray, List.set_cons_zero, List.set_cons_succ])
          refine wpAnyF_take (i := 5) (oi := _) (v := ?_) rfl (by kernel_rfl) (by kernel_rfl) (by kernel_rfl) (by kernel_rfl) (fun _ _ _ h => h) (Or.inl ⟨by rfl, ?_⟩) (by assumption) ?_
          rotate_left 1
          · intro w hSw
            (try dsimp only at hSw)
            (first | (go_simp; done) | (go_simp; with_reducible rfl))
          (try simp only [Act.put, List.getElem_toArray, List.getElem_cons_succ, List.getElem_cons_zero, List.setIfInBounds_toArray, List.set_cons_zero, List.set_cons_succ])
          refine wpAnyF_take (i := 6) (oi := _) (v := ?_) rfl (by kernel_rfl) (by kernel_rfl) (by kernel_rfl) (by kernel_rfl) (fun _ _ _ h => h) (Or.inl ⟨by rfl, ?_⟩) (by assumption) ?_
          rotate_left 1
          · intro w hSw
            (try dsimp only at hSw)
            (first | (go_simp; done) | (go_simp; with_reducible rfl))
          (try simp only [Act.put, List.getElem_toArray, List.getElem_cons_succ, List.getElem_cons_zero, List.setIfInBounds_toArray, List.set_cons_zero, List.set_cons_succ])
          refine wpAnyF_take (i := 7) (oi := _) (v := ?_) rfl (by kernel_rfl) (by kernel_rfl) (by kernel_rfl) (by kernel_rfl) (fun _ _ _ h => h) (Or.inl ⟨by rfl, ?_⟩) (by assumption) ?_
          rotate_left 1
          · intro w hSw
            (try dsimp only at hSw)
            (first | (go_simp; done) | (go_simp; with_reducible rfl))
          (try simp only [Act.put, List.getElem_toArray, List.getElem_cons_succ, List.getElem_cons_zero, List.setIfInBounds_toArray, List.set_cons_zero, List.set_cons_succ])
          refine wpAnyF_take (i := 8) (oi := _) (v := ?_) rfl (by kernel_rfl) (by kernel_rfl) (by kernel_rfl) (by kernel_rfl) (fun _ _ _ h => h) (Or.inl ⟨by rfl, ?_⟩) (by assumption) ?_
          rotate_left 1
          · intro w hSw
            (try dsimp only at hSw)
            (first | (go_simp; done) | (go_simp; with_reducible rfl))
          (try simp only [Act.put, List.getElem_toArray, List.getElem_cons_succ, List.getElem_cons_zero, List.setIfInBounds_toArray, List.set_cons_zero, List.set_cons_succ])
          refine wpAnyF_take (i := 9) (oi := _) (v := ?_) rfl (by kernel_rfl) (by kernel_rfl) (by kernel_rfl) (by kernel_rfl) (fun _ _ _ h => h) (Or.inl ⟨by rfl, ?_⟩) (by assumption) ?_
          rotate_left 1
          · intro w hSw
            (try dsimp only at hSw)
            (first | (go_simp; done) | (go_simp; with_reducible rfl))
          (try simp only [Act.put, List.getElem_toArray, List.getElem_cons_succ, List.getElem_cons_zero, List.setIfInBounds_toArray, List.set_cons_zero, List.set_cons_succ])
          refine wpAnyF_take (i := 10) (oi := _) (v := ?_) rfl (by kernel_rfl) (by kernel_rfl) (by kernel_rfl) (by kernel_rfl) (fun _ _ _ h => h) (Or.inl ⟨by rfl, ?_⟩) (by assumption) ?_
          rotate_left 1
          · intro w hSw
            (try dsimp only at hSw)
            (first | (go_simp; done) | (go_simp; with_reducible rfl))
          (try simp only [Act.put, List.getElem_toArray, List.getElem_cons_succ, List.getElem_cons_zero, List.setIfInBounds_toArray, List.set_cons_zero, List.set_cons_succ])
          refine wpAnyF_take (i := 11) (oi := _) (v := ?_) rfl (by kernel_rfl) (by kernel_rfl) (by kernel_rfl) (by kernel_rfl) (fun _ _ _ h => h) (Or.inl ⟨by rfl, ?_⟩) (by assumption) ?_
          rotate_left 1
          · intro w hSw
            (try dsimp only at hSw)
            (first | (go_simp; done) | (go_simp; with_reducible rfl))
          (try simp only [Act.put, List.getElem_toArray, List.getElem_cons_succ, List.getElem_cons_zero, List.setIfInBounds_toArray, List.set_cons_zero, List.set_cons_succ])
          refine wpAnyF_take (i := 12) (oi := _) (v := _) rfl (by kernel_rfl) (by kernel_rfl) (by kernel_rfl) (by kernel_rfl) (fun _ _ _ h => h) (yields_row17 (by rfl) 45 (.tmp 12) rfl s 0 rfl pv _ (fun W h => range_row h.1) Try.underlying45 rfl HIP.out) (by assumption) ?_
          (try simp only [Act.put, List.getElem_toArray, List.getElem_cons_succ, List.getElem_cons_zero, List.setIfInBounds_toArray, List.set_cons_zero, List.set_cons_succ])
          refine wpAnyF_take (i := 14) (oi := _) (v := _) rfl (by kernel_rfl) (by kernel_rfl) (by kernel_rfl) (by kernel_rfl) (fun _ _ _ h => h) (yields_row17 (by rfl) 40 (.tmp 14) rfl s2 0 rfl pv _ (fun W h => range_row h.2.1) Try.underlying40 rfl HIP2.out) (by assumption) ?_
          (try simp only [Act.put, List.getElem_toArray, List.getElem_cons_succ, List.getElem_cons_zero, List.setIfInBounds_toArray, List.set_cons_zero, List.set_cons_succ])
          refine wpAnyF_ready (rs := [13]) (by kernel_rfl) (by simp) ?_
          refine AllReadyF.cons (o := _) rfl (fun K hK => ?_) AllReadyF.nil
          go_simp
          (go_at_call 17)
          refine (HPL.out _).mono ?_
          rintro e wn13 ⟨rfl, hbn13⟩
          refine hK.out _ _ (HK.out _ (hHeld.2.2.2.trans (hbn13.mono hHeld.2.2.2.size))) (fun hHeld13 => ?_)
          clear hK K
          (try simp only [Act.put, List.getElem_toArray, List.getElem_cons_succ, List.getElem_cons_zero, List.setIfInBounds_toArray, List.set_cons_zero, List.set_cons_succ])
          refine wpAnyF_take (i := 15) (oi := _) (v := ?_) rfl (by kernel_rfl) (by kernel_rfl) (by kernel_rfl) (by kernel_rfl) (fun _ _ _ h => h) (Or.inl ⟨by rfl, ?_⟩) (by assumption) ?_
          rotate_left 1
          · intro w hSw
            (try dsimp only at hSw)
            (first | (go_simp; done) | (go_simp; with_reducible rfl))
          (try simp only [Act.put, List.getElem_toArray, List.getElem_cons_succ, List.getElem_cons_zero, List.setIfInBounds_toArray, List.set_cons_zero, List.set_cons_succ])
          refine wpAnyF_take (i := 16) (oi := _) (v := ?_) rfl (by kernel_rfl) (by kernel_rfl) (by kernel_rfl) (by kernel_rfl) (fun _ _ _ h => h) (Or.inl ⟨by rfl, ?_⟩) (by assumption) ?_
          rotate_left 1
          · intro w hSw
            (try dsimp only at hSw)
            (first | (go_simp; done) | (go_simp; with_reducible rfl))
          (try simp only [Act.put, List.getElem_toArray, List.getElem_cons_succ, List.getElem_cons_zero, List.setIfInBounds_toArray, List.set_cons_zero, List.set_cons_succ])
          refine wpAnyF_take (i := 17) (oi := _) (v := ?_) rfl (by kernel_rfl) (by kernel_rfl) (by kernel_rfl) (by kernel_rfl) (fun _ _ _ h => h) (Or.inl ⟨by rfl, ?_⟩) (by assumption) ?_
          rotate_left 1
          · intro w hSw
            (try dsimp only at hSw)
            (first | (go_simp; done) | (go_simp; with_reducible rfl))
          (try simp only [Act.put, List.getElem_toArray, List.getElem_cons_succ, List.getElem_cons_zero, List.setIfInBounds_toArray, List.set_cons_zero, List.set_cons_succ])
          refine wpAnyF_ready (rs := [18]) (by kernel_rfl) (by simp) ?_
          refine AllReadyF.cons (o := _) rfl (fun K hK => ?_) AllReadyF.nil
          go_simp
          (go_at_call 10)
          refine (HAW.out _).mono ?_
          rintro e wn18 ⟨rfl, hbn18⟩
          refine hK.out _ _ (HK.out _ (hHeld13.2.2.2.trans (hbn18.mono hHeld13.2.2.2.size))) (fun hHeld18 => ?_)
          clear hK K
          (try simp only [Act.put, List.getElem_toArray, List.getElem_cons_succ, List.getElem_cons_zero, List.setIfInBounds_toArray, List.set_cons_zero, List.set_cons_succ])
          refine wpAnyF_take (i := 19) (oi := _) (v := ?_) rfl (by kernel_rfl) (by kernel_rfl) (by kernel_rfl) (by kernel_rfl) (fun _ _ _ h => h) (Or.inl ⟨by rfl, ?_⟩) (by assumption) ?_
          rotate_left 1
          · intro w hSw
            (try dsimp only at hSw)
            (first | (go_simp; done) | (go_simp; with_reducible rfl))
          (try simp only [Act.put, List.getElem_toArray, List.getElem_cons_succ, List.getElem_cons_zero, List.setIfInBounds_toArray, List.set_cons_zero, List.set_cons_succ])
          refine wpAnyF_ready (rs := [20]) (by kernel_rfl) (by simp) ?_
          refine AllReadyF.cons (o := _) rfl (fun K hK => ?_) AllReadyF.nil
          go_simp
          refine hK.out _ _ (by assumption) (fun hHeld20 => ?_)
          clear hK K
          (try simp only [Act.put, List.getElem_toArray, List.getElem_cons_succ, List.getElem_cons_zero, List.setIfInBounds_toArray, List.set_cons_zero, List.set_cons_succ])
          refine wpAnyF_done (by kernel_rfl) ?_ _
          have HF := Lib.hid hHeld18.2.2.1
          go_wp2
          go_ret
          exact ⟨rfl, HF.out⟩
end Go.Proofs.Ytfnppoagmambgaa
