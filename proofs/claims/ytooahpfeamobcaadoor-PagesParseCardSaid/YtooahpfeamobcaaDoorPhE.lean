/-
  PagesParse.
-/
import Derived.Test.YtooahpfeamobcaaDoorPhD
import Derived.Test.YtooahpfeamobcaaDoorIntE
namespace Go.Proofs.YtooahpfeamobcaaDoor
open Go.RowKit Go Go.Shelf Go.WideShapes Go.ChangeShapes Go.Deep
set_option linter.unusedVariables false
set_option linter.unusedSimpArgs false
set_option maxRecDepth 100000
theorem PS_nil (W : World) : PS W none 0 0 [] := ⟨rfl, by omega, by omega, fun _ => rfl, fun q => absurd q (by omega)⟩
def TurnB (w : World) (v i : Value) (n1 : Nat) (wr : World) : Prop := ∃ k : Nat, i = .int .i64 (k : Int) ∧ k ≤ n1 ∧ Below w.heap.size w wr ∧ OwnB wr w.heap.size v 256
set_option maxHeartbeats 8000000 in
theorem parse19_any (A : Option Addr) (n c : Nat) (l : List Pg) (A1 : Option Addr) (n1 c1 : Nat) (A2 : Option Addr) (n2 c2 : Nat) (l2 : List Nat) (cu : Int) (w : World) (h : PS w A n c l) (h1 : IntsE w A1 n1) (h2 : BS w w.heap.size A2 n2 c2 l2) (hS : SZ w) :
    Calls Tryd.prog 3 #[.slice A n c, .slice A1 n1 c1, .slice A2 n2 c2, .int .i64 cu] w fun e w' => e = .returned (.bool true) ∧ Below w.heap.size w w' := by
  have HP := Lib.hid h
  have hln := h.len
  have HLN := Lib.hid hln
  have hcn := h.cap
  have hcm := h.capm
  have HSV : Hid (∀ W, Below w.heap.size w W → SZ W) := Lib.hid (fun W hb => hS.below hb)
  have H1 := Lib.hid h1
  have H2 := Lib.hid h2
  have hn1 := h1.1
  clear h hln h1 h2 hS
  go_enter Tryd.func3, Tryd.ntmps3
  go_wp2
  go_loopw [9, 23] (fun v i W => ∃ (k : Nat) (xs : List Pg), i = .int .i64 (k : Int) ∧ k ≤ n ∧ xs.length ≤ k ∧ xs.length ≤ 16 ∧ xs.all oneP = true ∧ OwnP W w.heap.size RT v xs ∧ Below w.heap.size w W) (fun _ i _ => n - (intOf i).toNat)
  case atStart => exact ⟨0, [], rfl, Nat.zero_le _, by simp, by simp, rfl, OwnP.nil _ _ _, Below.refl _ _⟩
  case round =>
    obtain ⟨k, xs, rfl, hk, hxk, hx16, hone, hown, hb⟩ := hrel
    have HB := Lib.hid hb
    have HOW := Lib.hid hown
    have HONE := Lib.hid hone
    clear hown hb hone
    by_cases hlt : k < n
    · obtain ⟨b, o, rfl, hb0, hcell⟩ := HP.out.cells (by omega)
      have hbW := (hcell _ HB.out).1
      have hp := (hcell _ HB.out).2 k hlt
      obtain ⟨p, hpe⟩ : ∃ p, p = pg l k := ⟨_, rfl⟩
      rw [← hpe] at hp
      have HPE := Lib.hid hpe
      obtain ⟨c0, c1, c2, c3, c4⟩ := hp
      have HB2 := Lib.hid (HB.out.trans ((bel_alloc wr (.cells #[.int .i64 p.k, .int .i64 p.c, .int .i64 p.r, .int .i64 p.s, .int .u64 p.n] RT)).mono HB.out.size))
      have HNEW := Lib.hid (heap_alloc_new wr (.cells #[.int .i64 p.k, .int .i64 p.c, .int .i64 p.r, .int .i64 p.s, .int .u64 p.n] RT))
      have HO2 := Lib.hid (HOW.out.alloc (.cells #[.int .i64 p.k, .int .i64 p.c, .int .i64 p.r, .int .i64 p.s, .int .u64 p.n] RT))
      clear hpe hcell
      by_cases h6 : k < 16
      · have h6i : decide ((k : Int) < 16) = true := decide_eq_true (by omega)
        go_wp2_with fail
        refine (rone_any p _ (HSV.out _ HB2.out)).mono ?_
        rintro e w4 ⟨rfl, hb4⟩
        have HB4 := Lib.hid (HB2.out.trans (hb4.mono HB2.out.size))
        have HO4 := Lib.hid (HO2.out.below hb4)
        have hX := (hb4.block wr.heap.size (by simp)).trans HNEW.out
        have x0 := blk_cell hX 0
        have x1 := blk_cell hX 1
        have x2 := blk_cell hX 2
        have x3 := blk_cell hX 3
        have x4 := blk_cell hX 4
        have HS4 : Hid (w.heap.size ≤ w4.heap.size) := Lib.hid HB4.out.size
        clear hb4 c0 c1 c2 c3 c4 hX
        obtain ⟨x, hx⟩ : ∃ x, x = oneP p := ⟨_, rfl⟩
        rw [← hx]
        have HX := Lib.hid hx
        clear hx
        cases x
        · go_wp2
          go_roundw
          case rel => exact ⟨k + 1, xs, by go_num, by omega, by omega, hx16, HONE.out, HO4.out, HB4.out⟩
          case measure => simp [intOf]; omega
        · by_cases hx15 : xs.length < 16
          · go_wp2_with (at_builtin; refine wp_appP kdR _ rfl (.tmp 34) (.tmp 36) rfl w.heap.size u9 xs p rfl HO4.out w4.heap.size rfl rfl (by omega) HS4.out ?_; intro v' w5 hown5 hb5; have HO5 := Lib.hid hown5; have HB5 := Lib.hid (HB4.out.trans hb5); clear hown5 hb5)
            go_roundw
            case rel => exact ⟨k + 1, xs ++ [p], by go_num, by omega, by simp; omega, by simp; omega, by rw [List.all_append, HONE.out]; simp [← HX.out], HO5.out, HB5.out⟩
            case measure => simp [intOf]; omega
          · omega
      · have h6i : decide ((k : Int) < 16) = false := decide_eq_false (by omega)
        go_wp2
        go_roundw
        case rel => exact ⟨k + 1, xs, by go_num, by omega, by omega, hx16, HONE.out, HO2.out, HB2.out⟩
        case measure => simp [intOf]; omega
    · obtain rfl : k = n := by omega
      obtain ⟨A3, c3, hv3, hps3, _⟩ := HOW.out.ps
      obtain ⟨q, hq⟩ : ∃ q, q = xs.length := ⟨_, rfl⟩
      rw [← hq] at hv3 hps3 hx16
      subst hv3
      have HB0 := Lib.hid (HB.out.trans ((bel_alloc wr (.cells #[] 5)).mono HB.out.size))
      have hown0 : Own (wr.alloc (.cells #[] 5)) w.heap.size (.slice (some ⟨wr.heap.size, 0, none⟩) 0 0) [] :=
        Own.blk HB.out.size (heap_alloc_new _ _) rfl (Nat.le_refl _) (by unfold maxLen; omega) rfl rfl
      have HO0 := Lib.hid hown0
      have HRB := Lib.hid (rbytes_any A3 q c3 xs _ (hps3.below (bel_alloc wr (.cells #[] 5))) hx16 HONE.out)
      have HLB := Lib.hid (blkP_len xs)
      have HBY : Hid (∀ i, (blkP xs).getD i 0 < 256) := Lib.hid (fun i => padL_byte (flB_byte xs) 256 i)
      clear hown0 hps3 hq HOW HONE
      generalize blkP xs = bx at *
      go_wp2_with fail
      refine HRB.out.mono ?_
      rintro e w1 ⟨A4, c4, rfl, hb1, hbs1⟩
      rw [HLB.out] at hbs1 ⊢
      have HB1 := Lib.hid (HB0.out.trans (hb1.mono HB0.out.size))
      have HO1 := Lib.hid (HO0.out.below hb1)
      have HS1 := Lib.hid hbs1
      obtain ⟨b4, o4, hA4, _, _⟩ := hbs1.at_ (by omega)
      subst hA4
      clear hb1 hbs1 HRB HO0 HB0
      go_wp2_with (at_builtin; refine wp_apps _ rfl _ _ rfl w.heap.size _ _ rfl HO1.out _ _ 256 _ _ rfl HS1.out (fun h => by cases h) (by simp) HB1.out.size ?_; intro v' w2 hown2 hb2)
      have HB2 := Lib.hid (HB1.out.trans hb2)
      have hown2' : Own w2 w.heap.size v' bx := by simpa using hown2
      obtain ⟨g, cap, rfl, hcap, hcap2, _⟩ := hown2'.at256 (by rw [HLB.out]; omega)
      rw [HLB.out] at hown2' hcap ⊢
      have HO2 : Hid (OwnB w2 w.heap.size (.slice (some ⟨g, 0, none⟩) 256 cap) 256) := Lib.hid ⟨bx, HLB.out, HBY.out, hown2'⟩
      have hgB : w.heap.size ≤ g := (hown2'.lt (by simp [Value.ownBlock])).1
      clear hown2 hown2' hb2
      clear HB1 HO1 HS1 HB HLB HBY
      go_wp2
      go_loopw [45] (fun i wr => TurnB w (.slice (some ⟨g, 0, none⟩) 256 cap) i n1 wr) (fun i _ => (n1 - intOf i).toNat)
      case atStart => exact ⟨0, rfl, by omega, HB2.out, HO2.out⟩
      case round =>
        obtain ⟨k, rfl, hk, hb, m, hml, hmb, hown⟩ := hrel
        have hcl : ∀ k, k < 256 → (∃ u, wr.cell? ⟨g, k, none⟩ = some u) ∧ wr.frozen? ⟨g, k, none⟩ = false := by
          obtain ⟨g', cap', he, _, _, h9⟩ := hown.at256 (by omega)
          injection he with e1 e2 e3
          injection e1 with e1
          injection e1 with e1 e4 e5
          subst e1
          rw [hml] at h9
          exact h9
        by_cases hlt : k < n1
        · obtain ⟨b1, o1, rfl, hb1, hcell⟩ := H1.out.2 (by omega)
          obtain ⟨z, hzc⟩ := hcell k hlt
          have k1 : wr.cell? ⟨b1, o1 + k, none⟩ = some (.int .i64 z) := (hb.cell hb1).trans hzc
          have HSAME : Hid (TurnB w (.slice (some ⟨g, 0, none⟩) 256 cap) (.int .i64 ((k : Int) + 1)) n1 wr) := Lib.hid ⟨k + 1, by simp, by omega, hb, m, hml, hmb, hown⟩
          by_cases h6 : k < 6
          · have h6i : decide ((k : Int) < 6) = true := decide_eq_true (by omega)
            by_cases h2n : k < n2
            · obtain ⟨b2, o2, rfl, hb2, hcell2⟩ := H2.out.at_ (by omega)
              have k2 : wr.cell? ⟨b2, o2 + k, none⟩ = some (.int .u8 ((l2.getD k 0 : Nat) : Int)) := (hb.cell hb2).trans (hcell2 k h2n)
              have hy := H2.out.byte k
              obtain ⟨j, hj, hand⟩ := and255 z
              obtain ⟨⟨old, k3⟩, k4⟩ := hcl j (by omega)
              have hset := hown.set (k := j) (x := l2.getD k 0) (by omega)
              have HN : Hid (TurnB w (.slice (some ⟨g, 0, none⟩) 256 cap) (.int .i64 ((k : Int) + 1)) n1 (wr.setCell ⟨g, j, none⟩ (.int .u8 ((l2.getD k 0 : Nat) : Int)))) := Lib.hid ⟨k + 1, by simp, by omega, hb.setCell (p := ⟨g, j, none⟩) hgB _, m.set j (l2.getD k 0), by simpa using hml, fun i => by
                rw [List.getD_eq_getElem?_getD, List.getElem?_set]
                split
                · split
                  · exact hy
                  · decide
                · rw [← List.getD_eq_getElem?_getD]; exact hmb i, hset⟩
              generalize l2.getD k 0 = y at *
              clear hset hown hmb hml hcl hb hcell hcell2 hzc HB2 HO2 HSAME
              go_wp2
              go_roundw
              case rel => exact HN.out
              case measure => simp [intOf]; omega
            · have h2i : decide ((k : Int) < (n2 : Int)) = false := decide_eq_false (by omega)
              have h2' : decide (k < n2) = false := decide_eq_false h2n
              clear hown hmb hml hcl hb hcell hzc HB2 HO2
              go_wp2
              go_roundw
              case rel => exact HSAME.out
              case measure => simp [intOf]; omega
          · have h6i : decide ((k : Int) < 6) = false := decide_eq_false (by omega)
            clear hown hmb hml hcl hb hcell hzc HB2 HO2
            go_wp2
            go_roundw
            case rel => exact HSAME.out
            case measure => simp [intOf]; omega
        · obtain rfl : k = n1 := by omega
          have HB := Lib.hid hb
          obtain ⟨A9, c9, e9, h9⟩ := hown.bs hmb
          rw [hml] at e9 h9
          injection e9 with e1 e2 e3
          subst e1 e3
          have HBS := Lib.hid h9
          clear hown hmb hml hcl hb h9 HB2 HO2 H1 H2 e2
          by_cases hc0 : 0 < cu
          · by_cases hc1 : cu < 256
            · obtain ⟨u, rfl⟩ : ∃ u : Nat, cu = (u : Int) := ⟨cu.toNat, by omega⟩
              have hd1 : decide ((0 : Int) < (u : Int)) = true := decide_eq_true hc0
              have hd2 : decide ((u : Int) < 256) = true := decide_eq_true hc1
              have hu : u < 256 := by omega
              have hu0 : 0 < u := by omega
              go_wp2_with fail
              refine (parse_short _ _ _ _ (by omega)).mono ?_
              rintro e w4 ⟨rfl, hb4⟩
              have HB4 := Lib.hid (HB.out.trans (hb4.mono HB.out.size))
              clear hb4
              go_wp2_with fail
              refine (awake19_any _ (HSV.out _ HB4.out)).mono ?_
              rintro e w9 ⟨rfl, hb⟩
              have HB9 := Lib.hid (HB4.out.trans (hb.mono HB4.out.size))
              clear hb
              go_wp2
              go_ret
              exact ⟨rfl, HB9.out⟩

            · have hd1 : decide ((0 : Int) < cu) = true := decide_eq_true hc0
              have hd2 : decide (cu < 256) = false := decide_eq_false hc1
              have HPA := Lib.hid (parse_any _ _ m wr HBS.out (HSV.out _ HB.out))
              go_wp2_with fail
              refine HPA.out.mono ?_
              rintro e w4 ⟨hb4, hd⟩
              have HB4 := Lib.hid (HB.out.trans (hb4.mono HB.out.size))
              have HPB := Lib.hid (rparse_any _ _ m w4 ((HBS.out.below hb4).more hb4.size) (HSV.out _ HB4.out))
              clear hb4
              rcases hd with ⟨hno, rfl⟩ | ⟨hyes, A5, c5, rfl, hps5⟩
              · go_wp2_with fail
                refine HPB.out.mono ?_
                rintro e w5 ⟨hb5, hd⟩
                have HB5 := Lib.hid (HB4.out.trans (hb5.mono HB4.out.size))
                clear hb5
                rcases hd with ⟨_, rfl⟩ | ⟨h9, _⟩
                rotate_left 1
                · rw [hno] at h9; cases h9
                clear hno
                go_wp2_with fail
                refine (plain_any none 0 0 [] w5 (PS_nil w5) (by omega)).mono ?_
                rintro e w6 ⟨A7, c7, rfl, hps7, _, hb7⟩
                dsimp only [List.length_nil] at hps7 ⊢
                have HB6 := Lib.hid (HB5.out.trans (hb7.mono HB5.out.size))
                have HP7 := Lib.hid hps7

                clear hb7 hps7
                go_wp2_with fail
                refine (same_any _ _ _ _ _ _ _ _ _ HP7.out (PS_nil w6) (by omega)).mono ?_
                rintro e w7 ⟨rfl, hb8⟩
                have HB7 := Lib.hid (HB6.out.trans (hb8.mono HB6.out.size))
                clear hb8
                rw [show eqL ([] : List Pg) [] = true from rfl]
                go_wp2_with fail
                refine (awake19_any _ (HSV.out _ HB7.out)).mono ?_
                rintro e w9 ⟨rfl, hb⟩
                have HB9 := Lib.hid (HB7.out.trans (hb.mono HB7.out.size))
                clear hb
                go_wp2
                go_ret
                exact ⟨rfl, HB9.out⟩
              · have HPS5 := Lib.hid hps5
                clear hps5
                go_wp2_with fail
                refine HPB.out.mono ?_
                rintro e w5 ⟨hb5, hd⟩
                have HB5 := Lib.hid (HB4.out.trans (hb5.mono HB4.out.size))
                have HPX := Lib.hid (HPS5.out.below hb5)
                clear hb5 HPS5
                rcases hd with ⟨h9, _⟩ | ⟨_, A6, c6, rfl, hps6⟩
                · rw [hyes] at h9; cases h9
                clear hyes
                have HPY := Lib.hid hps6
                have HLR : Hid ((rd16 m).length = 16) := Lib.hid hps6.len
                clear hps6
                go_wp2_with fail
                refine (plain_any _ _ _ _ w5 HPX.out (by omega)).mono ?_
                rintro e w6 ⟨A7, c7, rfl, hps7, _, hb7⟩
                rw [HLR.out] at hps7 ⊢
                have HB6 := Lib.hid (HB5.out.trans (hb7.mono HB5.out.size))
                have HP7 := Lib.hid hps7
                have HPY7 := Lib.hid (HPY.out.below hb7)
                clear hb7 hps7
                go_wp2_with fail
                refine (same_any _ _ _ _ _ _ _ _ _ HP7.out HPY7.out (by omega)).mono ?_
                rintro e w7 ⟨rfl, hb8⟩
                have HB7 := Lib.hid (HB6.out.trans (hb8.mono HB6.out.size))
                clear hb8
                rw [(eqL_iff _ _).2 rfl]
                go_wp2_with fail
                refine (awake19_any _ (HSV.out _ HB7.out)).mono ?_
                rintro e w9 ⟨rfl, hb⟩
                have HB9 := Lib.hid (HB7.out.trans (hb.mono HB7.out.size))
                clear hb
                go_wp2
                go_ret
                exact ⟨rfl, HB9.out⟩

          · have hd1 : decide ((0 : Int) < cu) = false := decide_eq_false hc0
            have HPA := Lib.hid (parse_any _ _ m wr HBS.out (HSV.out _ HB.out))
            go_wp2_with fail
            refine HPA.out.mono ?_
            rintro e w4 ⟨hb4, hd⟩
            have HB4 := Lib.hid (HB.out.trans (hb4.mono HB.out.size))
            have HPB := Lib.hid (rparse_any _ _ m w4 ((HBS.out.below hb4).more hb4.size) (HSV.out _ HB4.out))
            clear hb4
            rcases hd with ⟨hno, rfl⟩ | ⟨hyes, A5, c5, rfl, hps5⟩
            · go_wp2_with fail
              refine HPB.out.mono ?_
              rintro e w5 ⟨hb5, hd⟩
              have HB5 := Lib.hid (HB4.out.trans (hb5.mono HB4.out.size))
              clear hb5
              rcases hd with ⟨_, rfl⟩ | ⟨h9, _⟩
              rotate_left 1
              · rw [hno] at h9; cases h9
              clear hno
              go_wp2_with fail
              refine (plain_any none 0 0 [] w5 (PS_nil w5) (by omega)).mono ?_
              rintro e w6 ⟨A7, c7, rfl, hps7, _, hb7⟩
              dsimp only [List.length_nil] at hps7 ⊢
              have HB6 := Lib.hid (HB5.out.trans (hb7.mono HB5.out.size))
              have HP7 := Lib.hid hps7

              clear hb7 hps7
              go_wp2_with fail
              refine (same_any _ _ _ _ _ _ _ _ _ HP7.out (PS_nil w6) (by omega)).mono ?_
              rintro e w7 ⟨rfl, hb8⟩
              have HB7 := Lib.hid (HB6.out.trans (hb8.mono HB6.out.size))
              clear hb8
              rw [show eqL ([] : List Pg) [] = true from rfl]
              go_wp2_with fail
              refine (awake19_any _ (HSV.out _ HB7.out)).mono ?_
              rintro e w9 ⟨rfl, hb⟩
              have HB9 := Lib.hid (HB7.out.trans (hb.mono HB7.out.size))
              clear hb
              go_wp2
              go_ret
              exact ⟨rfl, HB9.out⟩
            · have HPS5 := Lib.hid hps5
              clear hps5
              go_wp2_with fail
              refine HPB.out.mono ?_
              rintro e w5 ⟨hb5, hd⟩
              have HB5 := Lib.hid (HB4.out.trans (hb5.mono HB4.out.size))
              have HPX := Lib.hid (HPS5.out.below hb5)
              clear hb5 HPS5
              rcases hd with ⟨h9, _⟩ | ⟨_, A6, c6, rfl, hps6⟩
              · rw [hyes] at h9; cases h9
              clear hyes
              have HPY := Lib.hid hps6
              have HLR : Hid ((rd16 m).length = 16) := Lib.hid hps6.len
              clear hps6
              go_wp2_with fail
              refine (plain_any _ _ _ _ w5 HPX.out (by omega)).mono ?_
              rintro e w6 ⟨A7, c7, rfl, hps7, _, hb7⟩
              rw [HLR.out] at hps7 ⊢
              have HB6 := Lib.hid (HB5.out.trans (hb7.mono HB5.out.size))
              have HP7 := Lib.hid hps7
              have HPY7 := Lib.hid (HPY.out.below hb7)
              clear hb7 hps7
              go_wp2_with fail
              refine (same_any _ _ _ _ _ _ _ _ _ HP7.out HPY7.out (by omega)).mono ?_
              rintro e w7 ⟨rfl, hb8⟩
              have HB7 := Lib.hid (HB6.out.trans (hb8.mono HB6.out.size))
              clear hb8
              rw [(eqL_iff _ _).2 rfl]
              go_wp2_with fail
              refine (awake19_any _ (HSV.out _ HB7.out)).mono ?_
              rintro e w9 ⟨rfl, hb⟩
              have HB9 := Lib.hid (HB7.out.trans (hb.mono HB7.out.size))
              clear hb
              go_wp2
              go_ret
              exact ⟨rfl, HB9.out⟩


end Go.Proofs.YtooahpfeamobcaaDoor
