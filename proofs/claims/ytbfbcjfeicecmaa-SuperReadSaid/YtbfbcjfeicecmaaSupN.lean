/-
  Package super: SuperRead's walk.
-/
import Derived.Test.YtbfbcjfeicecmaaSupM
import Derived.Deep.DeepCutAuto
import Derived.Deep.LoopGhost
import Derived.BigRegion
namespace Go.Proofs.Ytbfbcjfeicecmaa
open Go.RowKit Go
set_option linter.unusedVariables false
set_option linter.unusedSimpArgs false
/-- block b holds 256 bytes, whatever -/
def Fill (w : World) (g : Nat) : Prop := ∃ cs : Array Value, w.heap[g]? = some (.cells cs 5 (0, 0)) ∧ cs.size = 256 ∧ ∀ i, i < 256 → ∃ x : Nat, x < 256 ∧ cs[i]? = some (.int .u8 (x : Int))
theorem Fill.set {w : World} {g k x : Nat} (h : Fill w g) (hk : k < 256) (hx : x < 256) : Fill (w.setCell ⟨g, k, none⟩ (.int .u8 (x : Int))) g := by
  obtain ⟨cs, h1, h2, h3⟩ := h
  refine ⟨_, blk_set h1 k _, by simpa using h2, fun i hi => ?_⟩
  by_cases e : i = k
  · subst e
    exact ⟨x, hx, by rw [Array.getElem?_setIfInBounds_self_of_lt (by omega)]⟩
  · obtain ⟨y, h4, h5⟩ := h3 i hi
    exact ⟨y, h4, by rw [Array.getElem?_setIfInBounds_ne (by omega)]; exact h5⟩
theorem Fill.cell {w : World} {g k : Nat} (h : Fill w g) (hk : k < 256) : (∃ u, w.cell? ⟨g, k, none⟩ = some u) ∧ w.frozen? ⟨g, k, none⟩ = false := by
  obtain ⟨cs, h1, h2, h3⟩ := h
  obtain ⟨x, _, hx⟩ := h3 k hk
  exact ⟨⟨_, (blk_cell h1 k).trans hx⟩, blk_free h1 k⟩
theorem Fill.item {w : World} {g : Nat} (h : Fill w g) : ∃ l, BkI w l (.slice (some ⟨g, 0, none⟩) 256 256) := by
  obtain ⟨cs, h1, h2, h3⟩ := h
  refine ⟨(List.range 256).map fun i => match cs[i]? with | some (Value.int IntKind.u8 z) => z.toNat | _ => 0, g, cs, rfl, h1, fun i hi => ?_, by simp, fun i => ?_⟩
  · obtain ⟨x, hx, hc⟩ := h3 i hi
    rw [getD_map_range, if_pos hi, hc]
    simp
  · rw [getD_map_range]
    split
    · obtain ⟨x, hx, hc⟩ := h3 i ‹_›
      rw [hc]
      simpa using hx
    · omega
theorem fill_new (w : World) : Fill (w.alloc (.cells (zeros 256) 5)) w.heap.size :=
  ⟨_, heap_alloc_new w _, by rw [zeros, Array.size_replicate], fun i hi => ⟨0, by omega, zeros_at hi⟩⟩
def Stop (p : Prop) : Prop := p
theorem Stop.intro {p : Prop} (h : Stop p) : p := h
theorem bk_cut {w : World} {g : Nat} {Ls : List (List Nat)} {csr : Array Value} (hc : ∀ i, i < Ls.length → ∃ x, w.cell? ⟨g, i, none⟩ = some x ∧ BkI w (Ls.getD i []) x) (hrow : w.heap[g]? = some (.cells csr 24 (0, 0))) (hl : 0 < Ls.length) :
    ∃ bi, w.cell? ⟨g, 0, none⟩ = some (.slice (some ⟨bi, 0, none⟩) 256 256) ∧ ∃ Ls', Ls'.length = Ls.length ∧ (Ls'.getD 0 []).length = 255 ∧ Bks (w.setCell ⟨g, 0, none⟩ (.slice (some ⟨bi, 0, none⟩) 255 256)) g 0 Ls' := by
  obtain ⟨x, h1, h2⟩ := hc 0 hl
  obtain ⟨bi, cs, rfl, k2, k3, k4, k5⟩ := h2
  have hgb : w.grownBy (w.setCell ⟨g, 0, none⟩ (.slice (some ⟨bi, 0, none⟩) 255 256)) (some g) := only_set (p := ⟨g, 0, none⟩) (World.grownBy.refl w (some g)) (.inl rfl) _
  have hkeep : ∀ l y, BkI w l y → BkI (w.setCell ⟨g, 0, none⟩ (.slice (some ⟨bi, 0, none⟩) 255 256)) l y := fun l y h => h.keep hgb (fun g' e => by obtain rfl := Option.some.inj e; exact hrow) (by decide)
  have hb0 := hkeep _ _ (show BkI w (Ls.getD 0 []) (.slice (some ⟨bi, 0, none⟩) 256 256) from ⟨bi, cs, rfl, k2, k3, k4, k5⟩)
  obtain ⟨A0, e0, hbs⟩ := hb0.bs
  injection e0 with e0 _ _
  subst e0
  refine ⟨bi, h1, Ls.set 0 ((Ls.getD 0 []).take 255), by rw [List.length_set], ?_, ?_, fun i hi => ?_⟩
  · have e : (Ls.set 0 ((Ls.getD 0 []).take 255)).getD 0 [] = (Ls.getD 0 []).take 255 := by rw [List.getD_eq_getElem?_getD, List.getElem?_set_self hl]; rfl
    rw [e, List.length_take, k4]; rfl
  · rw [size_set]; exact blk_lt hrow
  · rw [List.length_set] at hi
    rw [Nat.zero_add]
    by_cases hi0 : i = 0
    · subst hi0
      have e : (Ls.set 0 ((Ls.getD 0 []).take 255)).getD 0 [] = (Ls.getD 0 []).take 255 := by rw [List.getD_eq_getElem?_getD, List.getElem?_set_self hl]; rfl
      have e2 : ((Ls.getD 0 []).take 255).length = 255 := by rw [List.length_take, k4]; rfl
      rw [e, e2]
      refine ⟨some ⟨bi, 0, none⟩, 256, ?_, hbs.take (by omega)⟩
      have h9 := blk_cell (blk_set hrow 0 (.slice (some ⟨bi, 0, none⟩) 255 256)) 0
      have h8 := blk_cell hrow 0
      rw [h1] at h8
      have hlt : 0 < csr.size := by
        rcases Nat.eq_zero_or_pos csr.size with hz | hz
        · rw [Array.getElem?_eq_none (by omega)] at h8; cases h8
        · exact hz
      rw [h9, Array.getElem?_setIfInBounds_self_of_lt hlt]
    · have e : (Ls.set 0 ((Ls.getD 0 []).take 255)).getD i [] = Ls.getD i [] := by rw [List.getD_eq_getElem?_getD, List.getElem?_set_ne (Ne.symm hi0), ← List.getD_eq_getElem?_getD]
      rw [e]
      obtain ⟨y, m1, m2⟩ := hc i hi
      obtain ⟨A, rfl, m3⟩ := (hkeep _ _ m2).bs
      have hl6 : (Ls.getD i []).length = 256 := by obtain ⟨_, _, _, _, _, q, _⟩ := m2; exact q
      rw [hl6]
      exact ⟨A, 256, by rw [World.cell?_setCell_other w ⟨g, 0, none⟩ ⟨g, i, none⟩ _ (fun e => hi0 (by injection e with _ e2 _; omega))]; exact m1, m3⟩
def Few (W : World) (b : Value) (wx : World) : Prop := b = .int .i64 1 ∧ After W wx
/-- so many blocks are made -/
def RdR (w : World) (ee gk : Nat) (bv kv : Value) (wr : World) : Prop :=
  ∃ (k : Nat) (Ls : List (List Nat)), kv = .int .i64 (k : Int) ∧ k + gk = ee ∧ Ls.length = k ∧ BkO wr w.heap.size bv Ls ∧ After w wr
/-- one block is being filled -/
def FiR (w wr : World) (g : Nat) (gk : Nat) (iv : Value) (w2 : World) : Prop :=
  ∃ j : Nat, iv = .int .i64 (j : Int) ∧ j + gk = 256 ∧ Fill w2 g ∧ Below wr.heap.size wr w2
set_option maxRecDepth 100000 in
set_option maxHeartbeats 4000000 in
theorem superRead_yes (p t : Nat) (h : Geo.May p t) (A4 : Option Addr) (n4 c4 : Nat) (l4 : List Nat) (short : Bool) (w : World) (hs4 : BS w w.heap.size A4 n4 c4 l4) :
    Calls Try.prog 6 #[.agg #[.int .i64 (p : Int), .int .i64 (t : Int)], .slice A4 n4 c4, .bool short] w fun e w' => e = .returned (.bool true) ∧ Below w.heap.size w w' := by
  have hp : p ≤ 64 := by unfold Geo.May at h; omega
  have ht24 : t ≤ 24 := by unfold Geo.May at h; omega
  have hb : Below w.heap.size w (w.alloc (.cells #[.int .i64 (p : Int), .int .i64 (t : Int)] 23)) := (Below.refl _ _).alloc (Nat.le_refl _) _
  have ht := Two.new w 23 (p : Int) (t : Int)
  have HB := Lib.hid hb
  have HT := Lib.hid ht
  have HM := Lib.hid h
  have HI : Hid ((Try.prog.info? 23).map (·.size) = some (#[Value.int .i64 (p : Int), Value.int .i64 (t : Int)] : Array Value).size) := Lib.hid (info_geo2 p t)
  have HRE := Lib.hid (fun W => repochs p t hp W)
  have HRS := Lib.hid (fun W => rsealed p t hp W)
  have HS4 := Lib.hid hs4
  have h4c := hs4.cap
  have hee : Geo.ep p ≤ 3 := by unfold Geo.ep Geo.se Geo.mp; omega
  have hee1 : 1 ≤ Geo.ep p := by unfold Geo.ep Geo.se Geo.mp; omega
  have hse : Geo.se p ≤ 32 * Geo.ep p := by unfold Geo.ep; omega
  have hmk : ∀ W : World, (Instr.makeSlice 24 (.int .i64 256) (.int .i64 256)).run Try.prog W = .ok (.slice (some ⟨W.heap.size, 0, none⟩) 256 256) (W.alloc (.cells (zeros 256) 5)) := fun W => make_bytes 256 (by omega) W
  have HMK := Lib.hid hmk
  have HEP := Lib.hid (fun b o c Ls W (hn : Ls.length = Geo.ep p) (hcc : Ls.length ≤ c) hk ha => epochs_yes p t b o c Ls h hn hcc W hk ha)
  have HFE := Lib.hid (fun A n c (hn : n ≠ Geo.ep p) (hn9 : n ≤ 1000) W => epochs_few p t A n c h hn hn9 W)
  have HOD := Lib.hid (fun b o c (Ls : List (List Nat)) (hn : Ls.length = Geo.ep p) W hk (h255 : 0 < Ls.length ∧ (Ls.getD 0 []).length = 255) => epochs_odd p t b o c 0 Ls h hn W hk h255.1 (by rw [h255.2]; omega))
  generalize hgz : zeros 256 = Z at *
  have HZ := Lib.hid hgz
  clear hb ht hs4 h hgz hmk
  go_enter Try.func6, Try.ntmps6
  go_wp2_with fail
  generalize w.alloc (.cells #[.int .i64 (p : Int), .int .i64 (t : Int)] 23) = W0 at *
  refine (rmay_yes p t HM.out _).mono ?_
  rintro e w1 ⟨rfl, hb1⟩
  have HB1 := Lib.hid (HB.out.trans (hb1.mono HB.out.size))
  have HT1 := Lib.hid (HT.out.after hb1)
  clear hb1
  go_wp2
  generalize Geo.ep p = ee at *
  generalize Geo.se p = se at *
  go_loopg [7, 8] ee (fun gk bv kv wr => RdR w1 ee gk bv kv wr)
  case atStart => exact ⟨0, [], rfl, by omega, rfl, BkO.nil _ _, After.refl _⟩
  case round =>
    obtain ⟨k, Ls, rfl, hk, hlen, hown, haf⟩ := hrel
    have HOWN := Lib.hid hown
    have HBL := Lib.hid (HB1.out.trans (Below.mono haf HB1.out.size))
    have HAF := Lib.hid haf
    have HLEN := Lib.hid hlen
    have htw := HT1.out.after haf
    have HTW := Lib.hid htw
    have c0 := htw.fst
    have c1 := htw.snd
    clear hown haf hlen htw
    go_wp2_with fail
    refine (HRE.out _).mono ?_
    rintro e w2 ⟨rfl, hb2⟩
    have HA2 := Lib.hid (HAF.out.next hb2)
    have HO2 := Lib.hid (HOWN.out.below hb2)
    have HB2 := Lib.hid (HBL.out.trans (hb2.mono HBL.out.size))
    have HT2 := Lib.hid (HTW.out.after hb2)
    clear hb2 c0 c1
    by_cases hlt : k < ee
    · have hmk := HMK.out w2
      have hF := fill_new w2
      rw [HZ.out] at hF
      have hba : Below w2.heap.size w2 (w2.alloc (.cells Z 5)) := (Below.refl _ _).alloc (Nat.le_refl _) _
      have HF0 := Lib.hid hF
      have HBA := Lib.hid hba
      clear hF hba
      have hF2 : Hid (FiR w w2 w2.heap.size 256 (.int .i64 0) (w2.alloc (.cells Z 5))) := Lib.hid ⟨0, rfl, rfl, HF0.out, HBA.out⟩
      have HY4 := Lib.hid (fun j => HS4.out.byte j)
      have HC4 := Lib.hid (fun (h0 : 0 < n4) => HS4.out.at_ h0)
      go_wp2
      go_loopg [31] 256 (fun gk2 iv wr2 => FiR w w2 w2.heap.size gk2 iv wr2)
      case atStart => exact hF2.out
      case round =>
        clear hF2 hmk
        obtain ⟨j, rfl, hj, hfill, hbj⟩ := hrel
        by_cases hlt2 : j < 256
        · obtain ⟨⟨old, f1⟩, f2⟩ := hfill.cell hlt2
          have HFI := Lib.hid hfill
          have HBJ := Lib.hid hbj
          by_cases h0 : 0 < n4
          · obtain ⟨bb, oo, rfl, hbb, hcell⟩ := HC4.out h0
            obtain ⟨m, hm⟩ : ∃ m : Nat, (j + 7 * k) % n4 = m := ⟨_, rfl⟩
            have hmlt : m < n4 := by rw [← hm]; exact Nat.mod_lt _ h0
            have q1 : ((j : Int) + 7 * (k : Int)) % (n4 : Int) = (m : Int) := by
              rw [← hm]; simp
            have k4 : wr.cell? ⟨bb, oo + m, none⟩ = some (.int .u8 ((l4.getD m 0 : Nat) : Int)) := ((HB2.out.trans (hbj.mono HB2.out.size)).cell (p := ⟨bb, oo + m, none⟩) hbb).trans (hcell m hmlt)
            have y4 := HY4.out m
            clear hcell hfill hbj hm
            generalize l4.getD m 0 = y at *
            have HF3 := Lib.hid (HFI.out.set hlt2 y4)
            have HB4 := Lib.hid (HBJ.out.setCell (p := ⟨w2.heap.size, j, none⟩) (Nat.le_refl _) (.int .u8 (y : Int)))
            go_wp2
            go_roundg (255 - j)
            case measure => omega
            case rel => exact ⟨j + 1, rfl, by omega, HF3.out, HB4.out⟩
          · obtain rfl : n4 = 0 := by omega
            clear hfill hbj
            go_wp2
            go_roundg (255 - j)
            case measure => omega
            case rel => exact ⟨j + 1, rfl, by omega, HFI.out, HBJ.out⟩
        · obtain rfl : j = 256 := by omega
          have HO3 := Lib.hid (HO2.out.below hbj)
          have HB3 := Lib.hid (HB2.out.trans (hbj.mono HB2.out.size))
          have HA3 := Lib.hid (HA2.out.next hbj)
          obtain ⟨l9, hit⟩ := hfill.item
          have HIT := Lib.hid hit
          have hl9 : Ls.length < 1000 := by rw [HLEN.out]; omega
          have HGE : Hid (k + 1 + (ee - k - 1) = ee) := Lib.hid (by omega)
          clear hfill hbj hit
          go_wp2_with (at_builtin; refine wp_appB wr rfl _ _ rfl w1.heap.size u7 (.slice (some ⟨w2.heap.size, 0, none⟩) 256 256) Ls l9 rfl HO3.out hl9 rfl HIT.out (Below.size HA3.out) ?_; intro v' w9 hown9 hb9 hk9 hu9)
          have HF9 : Hid (RdR w1 ee (ee - (k + 1)) v' (.int .i64 ((k : Int) + 1)) w9) := Lib.hid ⟨k + 1, Ls ++ [l9], rfl, by omega, by rw [List.length_append, HLEN.out]; rfl, hown9, Below.trans HA3.out hb9⟩
          clear hown9 hb9 hk9 hu9
          go_wp2
          go_roundg (ee - (k + 1))
          case measure => omega
          case rel => exact HF9.out
    · obtain rfl : k = ee := by omega
      obtain ⟨g, cap, rfl, hcap, hg, hbk, hall, hfz, ⟨csr, hrow⟩, hcells⟩ := HO2.out.bks (by rw [HLEN.out]; omega)
      have HBK := Lib.hid hbk
      have HALL := Lib.hid hall
      have HFZ := Lib.hid hfz
      have HROW := Lib.hid hrow
      have HCE := Lib.hid hcells
      have HLEN2 := Lib.hid HLEN.out
      rw [HLEN.out] at hcap ⊢
      clear hbk hall hfz hrow hcells
      have c0 := HT2.out.fst
      have c1 := HT2.out.snd
      cases short
      · have hE := HEP.out g 0 cap Ls w2 HLEN2.out (by rw [HLEN2.out]; exact hcap) HBK.out HALL.out
        rw [HLEN2.out] at hE
        have HE2 := Lib.hid hE
        have hdiv : ∀ i, i < se → i / 32 < k := fun i hi => by omega
        have HDIV := Lib.hid hdiv
        have HEPO := Lib.hid (fun c i W (hW : Bks W g 0 Ls) (hi : i < se) => repoch_any g 0 c i Ls W hW HALL.out (by rw [HLEN2.out]; exact HDIV.out i hi) (by rw [HLEN2.out]; omega))
        rw [HLEN2.out] at HEPO
        generalize Ls.flatten = FL at *
        clear hE hdiv
        go_wp2_with fail
        refine HE2.out.mono ?_
        rintro e w3 ⟨g2, rfl, hb3, hr3⟩
        have HT3 := Lib.hid (HT2.out.after hb3)
        have HB3 := Lib.hid (HB2.out.trans (hb3.mono HB2.out.size))
        have HBK3 := Lib.hid (HBK.out.below hb3)
        have HR3 := Lib.hid hr3
        clear hb3 hr3 c0 c1
        have c0 := HT3.out.fst
        have c1 := HT3.out.snd
        go_wp2_with fail
        refine (HRS.out _).mono ?_
        rintro e w4 ⟨rfl, hb4⟩
        have HB4 := Lib.hid (HB3.out.trans (hb4.mono HB3.out.size))
        have HBK4 := Lib.hid (HBK3.out.below hb4)
        have HR4 := Lib.hid (Row.below HR3.out hb4 HR3.out.lt)
        have hse9 : se ≤ 96 := by omega
        clear hb4 c0 c1
        go_wp2
        go_loopg [101] se (fun gk iv wr => ∃ i : Nat, iv = .int .i64 (i : Int) ∧ i + gk = se ∧ After w4 wr)
        case atStart => exact ⟨0, rfl, by omega, After.refl _⟩
        case round =>
          obtain ⟨i, rfl, hi, haf⟩ := hrel
          have HA4 := Lib.hid haf
          by_cases hlt : i < se
          · have k1 : wr.cell? ⟨g2, i, none⟩ = some (.int .u64 ((numAt FL 8 i : Nat) : Int)) := (Row.below HR4.out haf HR4.out.lt).cell hlt
            have k2 : wr.drew.cell? ⟨g2, i, none⟩ = some (.int .u64 ((numAt FL 8 i : Nat) : Int)) := k1
            have HBK5 := Lib.hid (HBK4.out.below haf)
            have HCA := Lib.hid (fun c W (hW : Bks W g 0 Ls) => HEPO.out c i W hW hlt)
            have hbk5 : Bks wr.drew g 0 Ls := HBK5.out.below (After.drew wr)
            generalize numAt FL 8 i = x at *
            clear haf
            go_wp2_with fail
            go_region_with (
              (go_at_call 21; (with_reducible refine (HCA.out _ _ hbk5).mono ?_); rintro e w5 ⟨rfl, rfl⟩))
            all_goals
              have HA5 := Lib.hid (HA4.out.next (After.drew wr))
              clear k1 k2 hbk5
              go_wp2
              go_roundg (se - (i + 1))
              case measure => omega
              case rel => exact ⟨i + 1, rfl, by omega, HA5.out⟩
          · have HB5 := Lib.hid (HB4.out.trans (Below.mono haf HB4.out.size))
            obtain rfl : i = se := by omega
            clear haf
            go_wp2_with fail
            refine (awake13_any _).mono ?_
            rintro e w6 ⟨rfl, hb6⟩
            have HB6 := Lib.hid (HB5.out.trans (hb6.mono HB5.out.size))
            clear hb6
            go_wp2
            go_ret
            exact ⟨rfl, HB6.out⟩
      · have HFEW := Lib.hid (fun A n c (hn : n ≠ k) (hn9 : n ≤ 1000) W => HFE.out A n c hn hn9 W)
        have HODD := Lib.hid (fun b o c Ls9 (hn : Ls9.length = k) W hk h255 => HOD.out b o c Ls9 hn W hk h255)
        have hglt : g < w2.heap.size := HBK.out.1
        have hg2 : w.heap.size < g := by have := HT1.out.lt; omega
        go_upto_region 16 with (fail)
        go_cut [12] (fun b wx => Few w2 b wx)
        case first =>
          by_cases hc1 : cap = 1
          · have hk1 : k = 1 := by omega
            subst hc1 hk1
            go_region_with (
              (go_at_call 17; (with_reducible refine (HFEW.out _ _ _ (by omega) (by omega) _).mono ?_); rintro e w5 ⟨rfl, hb5⟩))
            all_goals
              have HF : Hid (Few w2 (.int .i64 1) w5) := Lib.hid ⟨rfl, Below.trans (After.drew w2) hb5⟩
              clear hb5 c0 c1
              go_wp2
              go_meet
              case rel => exact HF.out
          · have hk1 : 1 ≤ k := hee1
            go_region_with (
              (go_at_call 17; (with_reducible refine (HFEW.out _ _ _ (by omega) (by omega) _).mono ?_); rintro e w5 ⟨rfl, hb5⟩))
            all_goals
              have HF : Hid (Few w2 (.int .i64 1) w5) := Lib.hid ⟨rfl, Below.trans (After.drew w2) hb5⟩
              clear hb5 c0 c1
              go_wp2
              go_meet
              case rel => exact HF.out
        case rest =>
          obtain ⟨rfl, hbX⟩ := hcut
          have HBX := Lib.hid hbX
          have hrowc : wc.heap[g]? = some (.cells csr 24 (0, 0)) := (hbX.block g hglt).trans HROW.out
          obtain ⟨bi, k0, Ls', hl1, hl2, hbk5⟩ := bk_cut (w := wc) (g := g) (Ls := Ls) (csr := csr) (fun i hi => by
            obtain ⟨x, a1, a2⟩ := HCE.out i hi
            exact ⟨x, (hbX.cell (p := ⟨g, i, none⟩) hglt).trans a1, a2.below hbX⟩) hrowc (by rw [HLEN2.out]; omega)
          have f0 : wc.frozen? ⟨g, 0, none⟩ = false := blk_free hrowc 0
          have HBK5 := Lib.hid hbk5
          have ht5 := HT2.out.after hbX
          have d0 : (wc.setCell ⟨g, 0, none⟩ (.slice (some ⟨bi, 0, none⟩) 255 256)).cell? ⟨w.heap.size, 0, none⟩ = some (.int .i64 (p : Int)) := by rw [World.cell?_setCell_other _ _ _ _ (fun e => by injection e with e1 _ _; omega)]; exact ht5.fst
          have d1 : (wc.setCell ⟨g, 0, none⟩ (.slice (some ⟨bi, 0, none⟩) 255 256)).cell? ⟨w.heap.size, 1, none⟩ = some (.int .i64 (t : Int)) := by rw [World.cell?_setCell_other _ _ _ _ (fun e => by injection e with e1 _ _; omega)]; exact ht5.snd
          have hO := HODD.out g 0 cap Ls' (hl1.trans HLEN2.out) _ HBK5.out ⟨by rw [hl1, HLEN2.out]; omega, hl2⟩
          rw [hl1, HLEN2.out] at hO
          have HO5 := Lib.hid hO
          have HB5 := Lib.hid ((HB2.out.trans (Below.mono hbX HB2.out.size)).setCell (p := ⟨g, 0, none⟩) (by show w.heap.size ≤ g; omega) (.slice (some ⟨bi, 0, none⟩) 255 256))
          clear hO hbX hrowc hl1 hl2 hbk5 ht5 c0 c1
          go_wp2_with fail
          refine HO5.out.mono ?_
          rintro e w6 ⟨rfl, hb6⟩
          have HB6 := Lib.hid (HB5.out.trans (hb6.mono HB5.out.size))
          clear hb6 d0 d1 k0 f0
          go_wp2_with fail
          refine (awake13_any _).mono ?_
          rintro e w7 ⟨rfl, hb7⟩
          have HB7 := Lib.hid (HB6.out.trans (hb7.mono HB6.out.size))
          clear hb7
          go_wp2
          go_ret
          exact ⟨rfl, HB7.out⟩
set_option maxHeartbeats 1000000 in
theorem superRead_no (p t : Int) (h : ¬ Geo.May p t) (v : Value) (short : Bool) (w : World) :
    Calls Try.prog 6 #[.agg #[.int .i64 p, .int .i64 t], v, .bool short] w fun e w' => e = .returned (.bool true) ∧ Below w.heap.size w w' := by
  have hb : Below w.heap.size w (w.alloc (.cells #[.int .i64 p, .int .i64 t] 23)) := (Below.refl _ _).alloc (Nat.le_refl _) _
  have ht := Two.new w 23 p t
  have HB := Lib.hid hb
  have HT := Lib.hid ht
  have HM := Lib.hid h
  have HI : Hid ((Try.prog.info? 23).map (·.size) = some (#[Value.int .i64 p, Value.int .i64 t] : Array Value).size) := Lib.hid (info_geo2 p t)
  clear hb ht h
  go_enter Try.func6, Try.ntmps6
  go_wp2_with fail
  generalize w.alloc (.cells #[.int .i64 p, .int .i64 t] 23) = W0 at *
  refine (rmay_no p t HM.out _).mono ?_
  rintro e w1 ⟨rfl, hb1⟩
  have HB1 := Lib.hid (HB.out.trans (hb1.mono HB.out.size))
  clear hb1
  go_wp2_with fail
  refine (awake13_any _).mono ?_
  rintro e w3 ⟨rfl, hb3⟩
  have HB3 := Lib.hid (HB1.out.trans (hb3.mono HB1.out.size))
  clear hb3
  go_wp2
  go_ret
  exact ⟨rfl, HB3.out⟩
theorem superRead_any (p t : Int) (A4 : Option Addr) (n4 c4 : Nat) (l4 : List Nat) (short : Bool) (w : World) (hs4 : BS w w.heap.size A4 n4 c4 l4) :
    Calls Try.prog 6 #[.agg #[.int .i64 p, .int .i64 t], .slice A4 n4 c4, .bool short] w fun e w' => e = .returned (.bool true) ∧ Below w.heap.size w w' := by
  by_cases h : Geo.May p t
  · obtain ⟨p', rfl⟩ : ∃ k : Nat, p = (k : Int) := ⟨p.toNat, by unfold Geo.May at h; omega⟩
    obtain ⟨t', rfl⟩ : ∃ k : Nat, t = (k : Int) := ⟨t.toNat, by unfold Geo.May at h; omega⟩
    exact superRead_yes p' t' h A4 n4 c4 l4 short w hs4
  · exact superRead_no p t h _ short w
end Go.Proofs.Ytbfbcjfeicecmaa
