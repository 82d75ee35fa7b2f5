/-
  Joined: NwD, NwE, NwD0, NwD1, NwD2, NwD3, NwD4.
-/
import Derived.Test.YthigknolpdohoaaZwA
import Derived.Test.YthigknolpdohoaaNvBE
namespace Go.Proofs.Ythigknolpdohoaa
set_option maxRecDepth 100000
section
open Go.RowKit Go
set_option linter.unusedVariables false
set_option linter.unusedSimpArgs false
set_option maxRecDepth 100000
theorem cut_bsN {w : World} {B n c : Nat} {A : Option Addr} {l : List Nat} (k : Nat) (h : BS w B A n c l) : BS w B A (min n k) c (l.take k) := by
  rcases Nat.le_total n k with h1 | h1
  · rw [Nat.min_eq_left h1, List.take_of_length_le (by rw [h.len]; exact h1)]; exact h
  · rw [Nat.min_eq_right h1]; exact h.take h1
/-- a slice that came in lies in none of the devices' blocks -/
theorem far_low {w0 : World} {n c : Nat} {A : Option Addr} {l : List Nat} (h : BS w0 w0.heap.size A n c l) {S : Nat → Prop} (hS : ∀ j, S j → w0.heap.size ≤ j) : 0 < n → ∀ ad, A = some ad → ¬ S ad.block := fun h0 ad e q => by
  obtain ⟨b, o, e2, hb, _⟩ := h.at_ h0
  rw [e2] at e
  injection e with e
  subst e
  exact absurd (hS _ q) (by show ¬ w0.heap.size ≤ b; omega)
theorem bs_now {w0 W : World} {n c : Nat} {A : Option Addr} {l : List Nat} (h : BS w0 w0.heap.size A n c l) (hb : Below w0.heap.size w0 W) : BS W W.heap.size A n c l := (h.below hb).more hb.size
theorem ps_off {g b n : Nat} {av pv : Value} {A : Option Addr} (h : 0 < n → ∀ ad, A = some ad → ¬ PS g b av pv ad.block) : Off n A b := fun h0 ad e q => h h0 ad e (.inr (.inl q))
/-- one byte of a row of its own turns -/
theorem xor_row {l : List Nat} {r : List Value} {i v : Nat} (hi : i < l.length) : ((bvals l ++ r).set i (.int .u8 (v : Int))) = bvals (l.set i v) ++ r := by
  rw [List.set_append_left _ _ (by rw [bvals_len]; exact hi), bvals_set]
end
section
open Go.RowKit Go
set_option linter.unusedVariables false
/-- the bytes that were stored are turned -/
def XoR (w0 : World) (z : List (Nat × Obj)) (g b L c : Nat) (r : RI) (s t : DSt) (q nc : Nat) (r2 : List Value) (iv : Value) (W : World) : Prop :=
  ∃ (i : Nat) (l : List Nat), iv = .int .i64 (i : Int) ∧ i ≤ nc ∧ l.length = nc ∧ (∀ v ∈ l, v < 256) ∧ Duo w0 W ((q, rowO l r2) :: z) g b L c r s t
theorem BS.zero {W : World} {B0 : Nat} (A : Option Addr) (c : Nat) (h : Own W B0 (.slice A 0 c) []) : BS W W.heap.size A 0 c [] := by
  obtain ⟨A', c', e, hs⟩ := h.bs (fun i => by simp)
  injection e with e1 e2 e3
  subst e1
  subst e3
  exact hs
end
section
open Go.RowKit Go
set_option linter.unusedVariables false
set_option linter.unusedSimpArgs false
set_option maxRecDepth 100000
set_option maxHeartbeats 8000000 in
theorem step_0 (w0 w : World) (z : List (Nat × Obj)) (g b L c : Nat) (r : RI) (s t : DSt) (h : Duo w0 w z g b L c r s t) (hks : s.k < 16384) (hkt : t.k < 16384) (at_ m : Int) (lb lp : List Nat) (B1 B2 : Option Addr) (e1 e2 : Nat) (hb1 : BS w0 w0.heap.size B1 lb.length e1 lb) (hb2 : BS w0 w0.heap.size B2 lp.length e2 lp) (hA1 : B1 = none → e1 = 0) (hA2 : B2 = none → e2 = 0) (hfa : -9223372036854775808 ≤ at_ ∧ at_ ≤ 9223372036854775807) (hfm : -9223372036854775808 ≤ m ∧ m ≤ 9223372036854775807) :
    Calls Try.prog 10 #[.pointer (some ⟨g, 0, none⟩), .pointer (some ⟨r.g, 0, none⟩), .agg #[.int .i64 0, .int .i64 at_, .int .i64 m, .slice B1 lb.length e1, .slice B2 lp.length e2]] w fun e w' => e = .returned (.bool (stB (O8.cut ⟨0, at_, m, lb, lp⟩) L s t)) ∧ Duo w0 w' z g b L c r (stS (O8.cut ⟨0, at_, m, lb, lp⟩) L s) (stS (O8.cut ⟨0, at_, m, lb, lp⟩) L t) := by
  obtain ⟨nb, hnb⟩ : ∃ nb, lb.length = nb := ⟨_, rfl⟩
  obtain ⟨np, hnp⟩ : ∃ np, lp.length = np := ⟨_, rfl⟩
  rw [hnb] at hb1 ⊢
  rw [hnp] at hb2 ⊢
  have HT1 : Hid (BS w0 w0.heap.size B1 (min nb 150) e1 (lb.take 150)) := Lib.hid (cut_bsN 150 hb1)
  have HT2 : Hid (BS w0 w0.heap.size B2 (min np 12) e2 (lp.take 12)) := Lib.hid (cut_bsN 12 hb2)
  have HCC := Lib.hid (fun W => cut8_any 0 at_ m B1 B2 nb e1 np e2 hb1.cap.1 hb2.cap.1 W)
  have HD0 := Lib.hid h
  have HNN := Lib.hid (And.intro hA1 hA2)
  have HFF := Lib.hid (And.intro hfa hfm)
  have HKK := Lib.hid (And.intro hks hkt)
  have HLB : Hid (min nb 150 ≤ 150 ∧ min np 12 ≤ 12 ∧ (lb.take 150).length = min nb 150 ∧ (lp.take 12).length = min np 12) := Lib.hid ⟨Nat.min_le_right _ _, Nat.min_le_right _ _, HT1.out.len, HT2.out.len⟩
  have hX : ∀ wA, Below (w.heap.size + 1) (w.alloc (.cells #[.int .i64 0, .int .i64 at_, .int .i64 m, .slice B1 nb e1, .slice B2 np e2] 30)) wA → wA.heap[w.heap.size]? = some (.cells #[.int .i64 0, .int .i64 at_, .int .i64 m, .slice B1 nb e1, .slice B2 np e2] 30 (0, 0)) := fun wA hb => (hb.block _ (by simp)).trans (heap_alloc_new _ _)
  have HX := Lib.hid hX
  obtain ⟨oc, hoc⟩ : ∃ oc, oc = O8.cut ⟨0, at_, m, lb, lp⟩ := ⟨_, rfl⟩
  rw [← hoc]
  have HOC : Hid (oc = ⟨0, at_, m, lb.take 150, lp.take 12⟩) := Lib.hid hoc
  clear h hks hkt hb1 hb2 hA1 hA2 hfa hfm hX hoc
  go_enter Try.func10, Try.ntmps10
  go_wp2_with fail
  refine (HCC.out _).mono ?_
  rintro e wA ⟨rfl, hb⟩
  have hXA := HX.out wA (by rw [show w.heap.size + 1 = (w.alloc (.cells #[.int .i64 0, .int .i64 at_, .int .i64 m, .slice B1 nb e1, .slice B2 np e2] 30)).heap.size by simp]; exact hb)
  have HBA : Hid (Below w.heap.size w wA) := Lib.hid (((Below.refl _ _).alloc (Nat.le_refl _) _).trans (hb.mono (by simp)))
  clear hb HX HCC
  have hI9 : (Try.prog.info? 30).map (·.size) = some (#[.int .i64 0, .int .i64 at_, .int .i64 m, .slice B1 (min nb 150) e1, .slice B2 (min np 12) e2] : Array Value).size := info_op8
  have hS9 : (#[.int .i64 0, .int .i64 at_, .int .i64 m, .slice B1 nb e1, .slice B2 np e2] : Array Value).size = (#[.int .i64 0, .int .i64 at_, .int .i64 m, .slice B1 (min nb 150) e1, .slice B2 (min np 12) e2] : Array Value).size := rfl
  have hO9 : (#[.int .i64 0, .int .i64 at_, .int .i64 m, .slice B1 (min nb 150) e1, .slice B2 (min np 12) e2] : Array Value).all (·.oneCell') = true := by simp [Value.oneCell']
  generalize lb.take 150 = l1 at *
  generalize lp.take 12 = l2 at *
  generalize min nb 150 = nc at *
  generalize min np 12 = pc at *
  go_upto_region 6 with (refine wpList_store_row rfl 30 (.tmp 5) (.tmp 15) rfl w.heap.size #[.int .i64 0, .int .i64 at_, .int .i64 m, .slice B1 nc e1, .slice B2 pc e2] rfl rfl 30 _ hXA hI9 hS9 hO9 ?_; obtain ⟨wB, hwB⟩ : ∃ wB, wB = wA.setRow w.heap.size #[.int .i64 0, .int .i64 at_, .int .i64 m, .slice B1 nc e1, .slice B2 pc e2] := ⟨_, rfl⟩; rw [← hwB]; have hY : wB.heap[w.heap.size]? = some (.cells #[.int .i64 0, .int .i64 at_, .int .i64 m, .slice B1 nc e1, .slice B2 pc e2] 30 (0, 0)) := (by rw [hwB]; exact setRow_heap _ _ _ _ _ _ hXA); have hWB : Below w.heap.size w wB := (by rw [hwB]; exact below_setRow HBA.out (Nat.le_refl _) _); have HD := Lib.hid (HD0.out.mark hWB (Nat.le_refl _) hY); clear hwB hXA hI9 hS9 hO9 hWB; have y0 : wB.cell? ⟨w.heap.size, 0, none⟩ = some (.int .i64 0) := blk_cell hY 0; have y1 : wB.cell? ⟨w.heap.size, 1, none⟩ = some (.int .i64 at_) := blk_cell hY 1; have y2 : wB.cell? ⟨w.heap.size, 2, none⟩ = some (.int .i64 m) := blk_cell hY 2; have y3 : wB.cell? ⟨w.heap.size, 3, none⟩ = some (.slice B1 nc e1) := blk_cell hY 3; have y4 : wB.cell? ⟨w.heap.size, 4, none⟩ = some (.slice B2 pc e2) := blk_cell hY 4; clear hY)
  have HX0 : Hid (Own (wB.alloc (.cells #[] 5)) wB.heap.size (.slice (some ⟨wB.heap.size, 0, none⟩) 0 0) []) := Lib.hid ⟨rfl, .inr ⟨wB.heap.size, 0, #[], rfl, Nat.le_refl _, heap_alloc_new _ _, Nat.le_refl _, by unfold maxLen; omega, rfl, rfl⟩⟩
  have HAL : Hid (Below wB.heap.size wB (wB.alloc (.cells #[] 5))) := Lib.hid ((Below.refl _ _).alloc (Nat.le_refl _) _)
  have HS1 : Hid (BS (wB.alloc (.cells #[] 5)) wB.heap.size B1 nc e1 l1) := Lib.hid ((bs_now HT1.out HD.out.under).below HAL.out)
  have hwl : w.heap.size < wB.heap.size := blk_lt' (HD.out.has (List.mem_cons_self ..))
  go_upto_region 7 with (at_builtin; refine wpList_plain rfl fun K0 hK => ?_; refine step_appsG _ (.tmp 22) (.tmp 24) rfl wB.heap.size _ [] rfl HX0.out _ B1 nc e1 l1 rfl HS1.out HNN.out.1 (by have := HLB.out; simp; omega) HAL.out.size ?_; intro v9 w9 ho9 hb9 _; rw [List.nil_append] at ho9; have HO9 := Lib.hid ho9; have HB9 : Hid (Below wB.heap.size wB w9) := Lib.hid (HAL.out.trans hb9); obtain ⟨A9, c9, e9⟩ := own_form ho9; rw [HLB.out.2.2.1] at e9; subst e9; clear ho9 hb9; refine hK _ _ ?_)
  have hd9 := HD.out.next HB9.out
  have hX5 := hd9.has (List.mem_cons_self ..)
  have p1 : w9.cell? ⟨w.heap.size, 1, none⟩ = some (.int .i64 at_) := blk_cell hX5 1
  have p2 : w9.cell? ⟨w.heap.size, 2, none⟩ = some (.int .i64 m) := blk_cell hX5 2
  have p3 : w9.cell? ⟨w.heap.size, 3, none⟩ = some (.slice B1 nc e1) := blk_cell hX5 3
  have p4 : w9.cell? ⟨w.heap.size, 4, none⟩ = some (.slice B2 pc e2) := blk_cell hX5 4
  clear hX5
  have HD9 := Lib.hid hd9
  clear hd9 HX0 HAL HS1 hwl
  rcases Nat.eq_zero_or_pos nc with hn0 | hn0
  · have HN0 := Lib.hid hn0
    have hlt0 : ¬ (0 : Int) < (nc : Int) := by omega
    have HS9 : Hid (BS w9 w9.heap.size A9 nc c9 l1) := Lib.hid (by
      obtain ⟨A', c', e, hs⟩ := HO9.out.bs (fun i => HT1.out.byte i)
      rw [HLB.out.2.2.1] at e hs
      injection e with e1 e2 e3
      subst e1
      subst e3
      exact hs)
    clear hn0
    go_wp2_with fail
    refine (HD9.out.doP (fun av pv hp hlt hz => store_P g b L c nc c9 at_ A9 l1 av pv s _ hp HKK.out.1 HS9.out (fun h0 => absurd h0 (by have := HN0.out; omega)))).mono ?_
    rintro e x1 ⟨rfl, hd⟩
    have HD1 := Lib.hid hd
    have hX6 := hd.has (List.mem_cons_self ..)
    have q1 : x1.cell? ⟨w.heap.size, 1, none⟩ = some (.int .i64 at_) := blk_cell hX6 1
    have q2 : x1.cell? ⟨w.heap.size, 2, none⟩ = some (.int .i64 m) := blk_cell hX6 2
    have q3 : x1.cell? ⟨w.heap.size, 3, none⟩ = some (.slice B1 nc e1) := blk_cell hX6 3
    have q4 : x1.cell? ⟨w.heap.size, 4, none⟩ = some (.slice B2 pc e2) := blk_cell hX6 4
    clear hX6
    clear hd
    go_wp2_with fail
    go_loopw [33] (fun iv wr => iv = .int .i64 0 ∧ wr = x1) (fun iv _ => 0)
    case atStart => exact ⟨rfl, rfl⟩
    case round =>
      obtain ⟨rfl, rfl⟩ := hrel
      go_wp2_with fail
      refine (HD1.out.doR (fun N M kv av2 pl hp hlt hz => store_R r L N M nc e1 kv av2 pl t at_ B1 l1 _ hp HKK.out.2 hp.w.sz.2.2 (bs_now HT1.out HD1.out.under) (far_low HT1.out (S := RS r kv av2) (fun j q => (hlt j q).1)) HFF.out.1.2)).mono ?_
      rintro e x2 ⟨rfl, hd⟩
      have HD2 := Lib.hid hd
      clear hd
      have HF : Hid (Duo w0 x2 z g b L c r (stS oc L s) (stS oc L t)) := Lib.hid (by
        rw [HOC.out]
        have eS : ∀ q : DSt, stS ⟨0, at_, m, l1, l2⟩ L q = actS q L 1 at_ (nc : Int) (putW Wd.st at_.toNat l1 q.ws) := fun q => by have := HLB.out.2.2.1; simp [stS, this]
        rw [eS, eS]
        exact HD2.out.sub (fun x hx => List.mem_cons_of_mem _ hx))
      have HV : Hid (stB oc L s t = (actE s L at_ (nc : Int) == actE t L at_ (nc : Int))) := Lib.hid (by
        rw [HOC.out]
        have := HLB.out.2.2.1
        simp [stB, this])
      go_wp2
      go_ret
      refine ⟨?_, HF.out⟩
      rw [HV.out]
      rfl
  · obtain ⟨q, c2, r2, e2', hq, hh, hc2, hc3⟩ := own_row HO9.out (by rw [HLB.out.2.2.1]; exact hn0)
    rw [HLB.out.2.2.1] at e2' hc2
    injection e2' with f1 f2 f3
    subst f1
    subst f3
    have hqlt := blk_lt' hh
    have HQB : Hid (wB.heap.size ≤ q ∧ nc ≤ c9 ∧ c9 ≤ 9223372036854775807) := Lib.hid ⟨hq, hc2, hc3⟩
    have HDM := Lib.hid (HD.out.mark HB9.out hq hh)
    have hs9 : BS w9 w9.heap.size (some ⟨q, 0, none⟩) nc c9 l1 := by
      have := row_pic (c := c9) (by rw [HLB.out.2.2.1]; exact hc2) hc3 (bs_bytes HT1.out) hh
      rwa [HLB.out.2.2.1] at this
    have HS9 := Lib.hid hs9
    have HBYT := Lib.hid (bs_bytes HT1.out)
    clear hs9 hq hh hc2 hc3
    go_wp2_with fail
    refine (HDM.out.doP (fun av pv hp hlt hz => store_P g b L c nc c9 at_ (some ⟨q, 0, none⟩) l1 av pv s _ hp HKK.out.1 HS9.out (fun h0 ad e => by injection e with e; subst e; exact hz q _ (List.mem_cons_self ..)))).mono ?_
    rintro e x1 ⟨rfl, hd⟩
    have HD1 := Lib.hid hd
    have HST : Hid (XoR w0 ((w.heap.size, (.cells #[.int .i64 0, .int .i64 at_, .int .i64 m, .slice B1 nc e1, .slice B2 pc e2] 30 (0, 0))) :: z) g b L c r (actS s L 1 at_ (nc : Int) (putW Wd.st at_.toNat l1 s.ws)) t q nc r2 (.int .i64 0) x1) := Lib.hid ⟨0, l1, rfl, by omega, HLB.out.2.2.1, HBYT.out, hd⟩
    clear hd
    go_wp2_with fail
    go_loopw [33] (fun iv wr => XoR w0 ((w.heap.size, (.cells #[.int .i64 0, .int .i64 at_, .int .i64 m, .slice B1 nc e1, .slice B2 pc e2] 30 (0, 0))) :: z) g b L c r (actS s L 1 at_ (nc : Int) (putW Wd.st at_.toNat l1 s.ws)) t q nc r2 iv wr) (fun iv _ => (nc - (intOf iv).toNat))
    case atStart => exact HST.out
    case round =>
      clear HST
      obtain ⟨i, l', rfl, hi, hl', hby, hd⟩ := hrel
      have HDW := Lib.hid hd
      by_cases hlt : i < nc
      · have hlti : (i : Int) < (nc : Int) := by omega
        have hnc9 : nc ≤ 150 := HLB.out.1
        have hwi : IntKind.i64.wrap ((i : Int) + 1) = (i : Int) + 1 := IntWalk.i64_in _ ⟨by omega, by omega⟩
        have hrow := hd.has (List.mem_cons_self ..)
        obtain ⟨v, hv⟩ : ∃ v, l'[i]? = some v := ⟨_, List.getElem?_eq_getElem (by omega)⟩
        have hvb : v < 256 := hby v (List.mem_of_getElem? hv)
        have hc : wr.cell? ⟨q, i, none⟩ = some (.int .u8 (v : Int)) := by
          rw [blk_cell hrow i, List.getElem?_toArray, List.getElem?_append_left (by rw [bvals_len]; omega)]
          unfold bvals
          rw [List.getElem?_map, hv]
          rfl
        have hfr : wr.frozen? ⟨q, i, none⟩ = false := blk_free hrow i
        obtain ⟨x9, hx9⟩ : ∃ x9, x9 = v ^^^ 9 := ⟨_, rfl⟩
        have hxo : bits .xor .u8 (v : Int) 9 = (x9 : Int) := by rw [hx9]; exact xor8 hvb (by omega : 9 < 256)
        have hxb : x9 < 256 := by rw [hx9]; exact Nat.xor_lt_two_pow (n := 8) hvb (by omega)
        have HG : Hid (XoR w0 ((w.heap.size, (.cells #[.int .i64 0, .int .i64 at_, .int .i64 m, .slice B1 nc e1, .slice B2 pc e2] 30 (0, 0))) :: z) g b L c r (actS s L 1 at_ (nc : Int) (putW Wd.st at_.toNat l1 s.ws)) t q nc r2 (.int .i64 ((i : Int) + 1)) (wr.setCell ⟨q, i, none⟩ (.int .u8 (x9 : Int)))) := Lib.hid (by
          refine ⟨i + 1, l'.set i x9, by simp, by omega, by rw [List.length_set]; exact hl', mem_set hby hxb, ?_⟩
          refine hd.turn (fun q' o' hm => ?_) (Nat.le_trans HD.out.under.size HQB.out.1) (Turns.set _ _ rfl) ?_
          · have h1 := blk_lt' (HD.out.has hm)
            have h2 := HQB.out.1
            omega
          · have h3 := (set_row (cs := bvals l' ++ r2) hrow i (.int .u8 (x9 : Int))).2
            rw [xor_row (by omega)] at h3
            exact h3)
        clear hd hrow hv hx9 hby
        go_wp2_with fail
        go_roundw
        case rel => exact HG.out
        case measure => simp [intOf]; omega
      · have hlti : ¬ (i : Int) < (nc : Int) := by omega
        obtain rfl : i = nc := by omega
        have hX7 := hd.has (List.mem_cons_of_mem _ (List.mem_cons_self ..))
        have r1 : wr.cell? ⟨w.heap.size, 1, none⟩ = some (.int .i64 at_) := blk_cell hX7 1
        have r3 : wr.cell? ⟨w.heap.size, 3, none⟩ = some (.slice B1 i e1) := blk_cell hX7 3
        clear hX7 hd hby
        go_wp2_with fail
        refine (HDW.out.doR (fun N M kv av2 pl hp hlt hz => store_R r L N M i e1 kv av2 pl t at_ B1 l1 _ hp HKK.out.2 hp.w.sz.2.2 (bs_now HT1.out HDW.out.under) (far_low HT1.out (S := RS r kv av2) (fun j q => (hlt j q).1)) HFF.out.1.2)).mono ?_
        rintro e x2 ⟨rfl, hd⟩
        have HD2 := Lib.hid hd
        clear hd
        have HF : Hid (Duo w0 x2 z g b L c r (stS oc L s) (stS oc L t)) := Lib.hid (by
          rw [HOC.out]
          have eS : ∀ q : DSt, stS ⟨0, at_, m, l1, l2⟩ L q = actS q L 1 at_ (i : Int) (putW Wd.st at_.toNat l1 q.ws) := fun q => by have := HLB.out.2.2.1; simp [stS, this]
          rw [eS, eS]
          exact HD2.out.sub (fun x hx => List.mem_cons_of_mem _ (List.mem_cons_of_mem _ hx)))
        have HV : Hid (stB oc L s t = (actE s L at_ (i : Int) == actE t L at_ (i : Int))) := Lib.hid (by
          rw [HOC.out]
          have := HLB.out.2.2.1
          simp [stB, this])
        go_wp2
        go_ret
        refine ⟨?_, HF.out⟩
        rw [HV.out]
        rfl
end
section
open Go.RowKit Go
set_option linter.unusedVariables false
set_option linter.unusedSimpArgs false
set_option maxRecDepth 100000
set_option maxHeartbeats 8000000 in
theorem step_1 (w0 w : World) (z : List (Nat × Obj)) (g b L c : Nat) (r : RI) (s t : DSt) (h : Duo w0 w z g b L c r s t) (hks : s.k < 16384) (hkt : t.k < 16384) (at_ m : Int) (lb lp : List Nat) (B1 B2 : Option Addr) (e1 e2 : Nat) (hb1 : BS w0 w0.heap.size B1 lb.length e1 lb) (hb2 : BS w0 w0.heap.size B2 lp.length e2 lp) (hA1 : B1 = none → e1 = 0) (hA2 : B2 = none → e2 = 0) (hfa : -9223372036854775808 ≤ at_ ∧ at_ ≤ 9223372036854775807) (hfm : -9223372036854775808 ≤ m ∧ m ≤ 9223372036854775807) :
    Calls Try.prog 10 #[.pointer (some ⟨g, 0, none⟩), .pointer (some ⟨r.g, 0, none⟩), .agg #[.int .i64 1, .int .i64 at_, .int .i64 m, .slice B1 lb.length e1, .slice B2 lp.length e2]] w fun e w' => e = .returned (.bool (stB (O8.cut ⟨1, at_, m, lb, lp⟩) L s t)) ∧ Duo w0 w' z g b L c r (stS (O8.cut ⟨1, at_, m, lb, lp⟩) L s) (stS (O8.cut ⟨1, at_, m, lb, lp⟩) L t) := by
  obtain ⟨nb, hnb⟩ : ∃ nb, lb.length = nb := ⟨_, rfl⟩
  obtain ⟨np, hnp⟩ : ∃ np, lp.length = np := ⟨_, rfl⟩
  rw [hnb] at hb1 ⊢
  rw [hnp] at hb2 ⊢
  have HT1 : Hid (BS w0 w0.heap.size B1 (min nb 150) e1 (lb.take 150)) := Lib.hid (cut_bsN 150 hb1)
  have HT2 : Hid (BS w0 w0.heap.size B2 (min np 12) e2 (lp.take 12)) := Lib.hid (cut_bsN 12 hb2)
  have HCC := Lib.hid (fun W => cut8_any 1 at_ m B1 B2 nb e1 np e2 hb1.cap.1 hb2.cap.1 W)
  have HD0 := Lib.hid h
  have HNN := Lib.hid (And.intro hA1 hA2)
  have HFF := Lib.hid (And.intro hfa hfm)
  have HKK := Lib.hid (And.intro hks hkt)
  have HLB : Hid (min nb 150 ≤ 150 ∧ min np 12 ≤ 12 ∧ (lb.take 150).length = min nb 150 ∧ (lp.take 12).length = min np 12) := Lib.hid ⟨Nat.min_le_right _ _, Nat.min_le_right _ _, HT1.out.len, HT2.out.len⟩
  have hX : ∀ wA, Below (w.heap.size + 1) (w.alloc (.cells #[.int .i64 1, .int .i64 at_, .int .i64 m, .slice B1 nb e1, .slice B2 np e2] 30)) wA → wA.heap[w.heap.size]? = some (.cells #[.int .i64 1, .int .i64 at_, .int .i64 m, .slice B1 nb e1, .slice B2 np e2] 30 (0, 0)) := fun wA hb => (hb.block _ (by simp)).trans (heap_alloc_new _ _)
  have HX := Lib.hid hX
  obtain ⟨oc, hoc⟩ : ∃ oc, oc = O8.cut ⟨1, at_, m, lb, lp⟩ := ⟨_, rfl⟩
  rw [← hoc]
  have HOC : Hid (oc = ⟨1, at_, m, lb.take 150, lp.take 12⟩) := Lib.hid hoc
  clear h hks hkt hb1 hb2 hA1 hA2 hfa hfm hX hoc
  go_enter Try.func10, Try.ntmps10
  go_wp2_with fail
  refine (HCC.out _).mono ?_
  rintro e wA ⟨rfl, hb⟩
  have hXA := HX.out wA (by rw [show w.heap.size + 1 = (w.alloc (.cells #[.int .i64 1, .int .i64 at_, .int .i64 m, .slice B1 nb e1, .slice B2 np e2] 30)).heap.size by simp]; exact hb)
  have HBA : Hid (Below w.heap.size w wA) := Lib.hid (((Below.refl _ _).alloc (Nat.le_refl _) _).trans (hb.mono (by simp)))
  clear hb HX HCC
  have hI9 : (Try.prog.info? 30).map (·.size) = some (#[.int .i64 1, .int .i64 at_, .int .i64 m, .slice B1 (min nb 150) e1, .slice B2 (min np 12) e2] : Array Value).size := info_op8
  have hS9 : (#[.int .i64 1, .int .i64 at_, .int .i64 m, .slice B1 nb e1, .slice B2 np e2] : Array Value).size = (#[.int .i64 1, .int .i64 at_, .int .i64 m, .slice B1 (min nb 150) e1, .slice B2 (min np 12) e2] : Array Value).size := rfl
  have hO9 : (#[.int .i64 1, .int .i64 at_, .int .i64 m, .slice B1 (min nb 150) e1, .slice B2 (min np 12) e2] : Array Value).all (·.oneCell') = true := by simp [Value.oneCell']
  generalize lb.take 150 = l1 at *
  generalize lp.take 12 = l2 at *
  generalize min nb 150 = nc at *
  generalize min np 12 = pc at *
  go_upto_region 6 with (refine wpList_store_row rfl 30 (.tmp 5) (.tmp 15) rfl w.heap.size #[.int .i64 1, .int .i64 at_, .int .i64 m, .slice B1 nc e1, .slice B2 pc e2] rfl rfl 30 _ hXA hI9 hS9 hO9 ?_; obtain ⟨wB, hwB⟩ : ∃ wB, wB = wA.setRow w.heap.size #[.int .i64 1, .int .i64 at_, .int .i64 m, .slice B1 nc e1, .slice B2 pc e2] := ⟨_, rfl⟩; rw [← hwB]; have hY : wB.heap[w.heap.size]? = some (.cells #[.int .i64 1, .int .i64 at_, .int .i64 m, .slice B1 nc e1, .slice B2 pc e2] 30 (0, 0)) := (by rw [hwB]; exact setRow_heap _ _ _ _ _ _ hXA); have hWB : Below w.heap.size w wB := (by rw [hwB]; exact below_setRow HBA.out (Nat.le_refl _) _); have HD := Lib.hid (HD0.out.mark hWB (Nat.le_refl _) hY); clear hwB hXA hI9 hS9 hO9 hWB; have y0 : wB.cell? ⟨w.heap.size, 0, none⟩ = some (.int .i64 1) := blk_cell hY 0; have y1 : wB.cell? ⟨w.heap.size, 1, none⟩ = some (.int .i64 at_) := blk_cell hY 1; have y2 : wB.cell? ⟨w.heap.size, 2, none⟩ = some (.int .i64 m) := blk_cell hY 2; have y3 : wB.cell? ⟨w.heap.size, 3, none⟩ = some (.slice B1 nc e1) := blk_cell hY 3; have y4 : wB.cell? ⟨w.heap.size, 4, none⟩ = some (.slice B2 pc e2) := blk_cell hY 4; clear hY)
  have HX0 : Hid (Own (wB.alloc (.cells #[] 5)) wB.heap.size (.slice (some ⟨wB.heap.size, 0, none⟩) 0 0) []) := Lib.hid ⟨rfl, .inr ⟨wB.heap.size, 0, #[], rfl, Nat.le_refl _, heap_alloc_new _ _, Nat.le_refl _, by unfold maxLen; omega, rfl, rfl⟩⟩
  have HAL : Hid (Below wB.heap.size wB (wB.alloc (.cells #[] 5))) := Lib.hid ((Below.refl _ _).alloc (Nat.le_refl _) _)
  have HS1 : Hid (BS (wB.alloc (.cells #[] 5)) wB.heap.size B1 nc e1 l1) := Lib.hid ((bs_now HT1.out HD.out.under).below HAL.out)
  have hwl : w.heap.size < wB.heap.size := blk_lt' (HD.out.has (List.mem_cons_self ..))
  go_upto_region 7 with (at_builtin; refine wpList_plain rfl fun K0 hK => ?_; refine step_appsG _ (.tmp 22) (.tmp 24) rfl wB.heap.size _ [] rfl HX0.out _ B1 nc e1 l1 rfl HS1.out HNN.out.1 (by have := HLB.out; simp; omega) HAL.out.size ?_; intro v9 w9 ho9 hb9 _; rw [List.nil_append] at ho9; have HO9 := Lib.hid ho9; have HB9 : Hid (Below wB.heap.size wB w9) := Lib.hid (HAL.out.trans hb9); obtain ⟨A9, c9, e9⟩ := own_form ho9; rw [HLB.out.2.2.1] at e9; subst e9; clear ho9 hb9; refine hK _ _ ?_)
  have hd9 := HD.out.next HB9.out
  have hX5 := hd9.has (List.mem_cons_self ..)
  have p1 : w9.cell? ⟨w.heap.size, 1, none⟩ = some (.int .i64 at_) := blk_cell hX5 1
  have p2 : w9.cell? ⟨w.heap.size, 2, none⟩ = some (.int .i64 m) := blk_cell hX5 2
  have p3 : w9.cell? ⟨w.heap.size, 3, none⟩ = some (.slice B1 nc e1) := blk_cell hX5 3
  have p4 : w9.cell? ⟨w.heap.size, 4, none⟩ = some (.slice B2 pc e2) := blk_cell hX5 4
  clear hX5
  have HD9 := Lib.hid hd9
  clear hd9 HX0 HAL HS1 hwl
  rcases Nat.eq_zero_or_pos nc with hn0 | hn0
  · have HN0 := Lib.hid hn0
    have hlt0 : ¬ (0 : Int) < (nc : Int) := by omega
    have HS9 : Hid (BS w9 w9.heap.size A9 nc c9 l1) := Lib.hid (by
      obtain ⟨A', c', e, hs⟩ := HO9.out.bs (fun i => HT1.out.byte i)
      rw [HLB.out.2.2.1] at e hs
      injection e with e1 e2 e3
      subst e1
      subst e3
      exact hs)
    clear hn0
    go_wp2_with fail
    refine (HD9.out.doP (fun av pv hp hlt hz => store_P g b L c nc c9 at_ A9 l1 av pv s _ hp HKK.out.1 HS9.out (fun h0 => absurd h0 (by have := HN0.out; omega)))).mono ?_
    rintro e x1 ⟨rfl, hd⟩
    have HD1 := Lib.hid hd
    have hX6 := hd.has (List.mem_cons_self ..)
    have q1 : x1.cell? ⟨w.heap.size, 1, none⟩ = some (.int .i64 at_) := blk_cell hX6 1
    have q2 : x1.cell? ⟨w.heap.size, 2, none⟩ = some (.int .i64 m) := blk_cell hX6 2
    have q3 : x1.cell? ⟨w.heap.size, 3, none⟩ = some (.slice B1 nc e1) := blk_cell hX6 3
    have q4 : x1.cell? ⟨w.heap.size, 4, none⟩ = some (.slice B2 pc e2) := blk_cell hX6 4
    clear hX6
    clear hd
    go_wp2_with fail
    go_loopw [33] (fun iv wr => iv = .int .i64 0 ∧ wr = x1) (fun iv _ => 0)
    case atStart => exact ⟨rfl, rfl⟩
    case round =>
      obtain ⟨rfl, rfl⟩ := hrel
      go_wp2_with fail
      refine (HD1.out.doR (fun N M kv av2 pl hp hlt hz => store_R r L N M nc e1 kv av2 pl t at_ B1 l1 _ hp HKK.out.2 hp.w.sz.2.2 (bs_now HT1.out HD1.out.under) (far_low HT1.out (S := RS r kv av2) (fun j q => (hlt j q).1)) HFF.out.1.2)).mono ?_
      rintro e x2 ⟨rfl, hd⟩
      have HD2 := Lib.hid hd
      clear hd
      have HF : Hid (Duo w0 x2 z g b L c r (stS oc L s) (stS oc L t)) := Lib.hid (by
        rw [HOC.out]
        have eS : ∀ q : DSt, stS ⟨1, at_, m, l1, l2⟩ L q = actS q L 1 at_ (nc : Int) (putW Wd.st at_.toNat l1 q.ws) := fun q => by have := HLB.out.2.2.1; simp [stS, this]
        rw [eS, eS]
        exact HD2.out.sub (fun x hx => List.mem_cons_of_mem _ hx))
      have HV : Hid (stB oc L s t = (actE s L at_ (nc : Int) == actE t L at_ (nc : Int))) := Lib.hid (by
        rw [HOC.out]
        have := HLB.out.2.2.1
        simp [stB, this])
      go_wp2
      go_ret
      refine ⟨?_, HF.out⟩
      rw [HV.out]
      rfl
  · obtain ⟨q, c2, r2, e2', hq, hh, hc2, hc3⟩ := own_row HO9.out (by rw [HLB.out.2.2.1]; exact hn0)
    rw [HLB.out.2.2.1] at e2' hc2
    injection e2' with f1 f2 f3
    subst f1
    subst f3
    have hqlt := blk_lt' hh
    have HQB : Hid (wB.heap.size ≤ q ∧ nc ≤ c9 ∧ c9 ≤ 9223372036854775807) := Lib.hid ⟨hq, hc2, hc3⟩
    have HDM := Lib.hid (HD.out.mark HB9.out hq hh)
    have hs9 : BS w9 w9.heap.size (some ⟨q, 0, none⟩) nc c9 l1 := by
      have := row_pic (c := c9) (by rw [HLB.out.2.2.1]; exact hc2) hc3 (bs_bytes HT1.out) hh
      rwa [HLB.out.2.2.1] at this
    have HS9 := Lib.hid hs9
    have HBYT := Lib.hid (bs_bytes HT1.out)
    clear hs9 hq hh hc2 hc3
    go_wp2_with fail
    refine (HDM.out.doP (fun av pv hp hlt hz => store_P g b L c nc c9 at_ (some ⟨q, 0, none⟩) l1 av pv s _ hp HKK.out.1 HS9.out (fun h0 ad e => by injection e with e; subst e; exact hz q _ (List.mem_cons_self ..)))).mono ?_
    rintro e x1 ⟨rfl, hd⟩
    have HD1 := Lib.hid hd
    have HST : Hid (XoR w0 ((w.heap.size, (.cells #[.int .i64 1, .int .i64 at_, .int .i64 m, .slice B1 nc e1, .slice B2 pc e2] 30 (0, 0))) :: z) g b L c r (actS s L 1 at_ (nc : Int) (putW Wd.st at_.toNat l1 s.ws)) t q nc r2 (.int .i64 0) x1) := Lib.hid ⟨0, l1, rfl, by omega, HLB.out.2.2.1, HBYT.out, hd⟩
    clear hd
    go_wp2_with fail
    go_loopw [33] (fun iv wr => XoR w0 ((w.heap.size, (.cells #[.int .i64 1, .int .i64 at_, .int .i64 m, .slice B1 nc e1, .slice B2 pc e2] 30 (0, 0))) :: z) g b L c r (actS s L 1 at_ (nc : Int) (putW Wd.st at_.toNat l1 s.ws)) t q nc r2 iv wr) (fun iv _ => (nc - (intOf iv).toNat))
    case atStart => exact HST.out
    case round =>
      clear HST
      obtain ⟨i, l', rfl, hi, hl', hby, hd⟩ := hrel
      have HDW := Lib.hid hd
      by_cases hlt : i < nc
      · have hlti : (i : Int) < (nc : Int) := by omega
        have hnc9 : nc ≤ 150 := HLB.out.1
        have hwi : IntKind.i64.wrap ((i : Int) + 1) = (i : Int) + 1 := IntWalk.i64_in _ ⟨by omega, by omega⟩
        have hrow := hd.has (List.mem_cons_self ..)
        obtain ⟨v, hv⟩ : ∃ v, l'[i]? = some v := ⟨_, List.getElem?_eq_getElem (by omega)⟩
        have hvb : v < 256 := hby v (List.mem_of_getElem? hv)
        have hc : wr.cell? ⟨q, i, none⟩ = some (.int .u8 (v : Int)) := by
          rw [blk_cell hrow i, List.getElem?_toArray, List.getElem?_append_left (by rw [bvals_len]; omega)]
          unfold bvals
          rw [List.getElem?_map, hv]
          rfl
        have hfr : wr.frozen? ⟨q, i, none⟩ = false := blk_free hrow i
        obtain ⟨x9, hx9⟩ : ∃ x9, x9 = v ^^^ 9 := ⟨_, rfl⟩
        have hxo : bits .xor .u8 (v : Int) 9 = (x9 : Int) := by rw [hx9]; exact xor8 hvb (by omega : 9 < 256)
        have hxb : x9 < 256 := by rw [hx9]; exact Nat.xor_lt_two_pow (n := 8) hvb (by omega)
        have HG : Hid (XoR w0 ((w.heap.size, (.cells #[.int .i64 1, .int .i64 at_, .int .i64 m, .slice B1 nc e1, .slice B2 pc e2] 30 (0, 0))) :: z) g b L c r (actS s L 1 at_ (nc : Int) (putW Wd.st at_.toNat l1 s.ws)) t q nc r2 (.int .i64 ((i : Int) + 1)) (wr.setCell ⟨q, i, none⟩ (.int .u8 (x9 : Int)))) := Lib.hid (by
          refine ⟨i + 1, l'.set i x9, by simp, by omega, by rw [List.length_set]; exact hl', mem_set hby hxb, ?_⟩
          refine hd.turn (fun q' o' hm => ?_) (Nat.le_trans HD.out.under.size HQB.out.1) (Turns.set _ _ rfl) ?_
          · have h1 := blk_lt' (HD.out.has hm)
            have h2 := HQB.out.1
            omega
          · have h3 := (set_row (cs := bvals l' ++ r2) hrow i (.int .u8 (x9 : Int))).2
            rw [xor_row (by omega)] at h3
            exact h3)
        clear hd hrow hv hx9 hby
        go_wp2_with fail
        go_roundw
        case rel => exact HG.out
        case measure => simp [intOf]; omega
      · have hlti : ¬ (i : Int) < (nc : Int) := by omega
        obtain rfl : i = nc := by omega
        have hX7 := hd.has (List.mem_cons_of_mem _ (List.mem_cons_self ..))
        have r1 : wr.cell? ⟨w.heap.size, 1, none⟩ = some (.int .i64 at_) := blk_cell hX7 1
        have r3 : wr.cell? ⟨w.heap.size, 3, none⟩ = some (.slice B1 i e1) := blk_cell hX7 3
        clear hX7 hd hby
        go_wp2_with fail
        refine (HDW.out.doR (fun N M kv av2 pl hp hlt hz => store_R r L N M i e1 kv av2 pl t at_ B1 l1 _ hp HKK.out.2 hp.w.sz.2.2 (bs_now HT1.out HDW.out.under) (far_low HT1.out (S := RS r kv av2) (fun j q => (hlt j q).1)) HFF.out.1.2)).mono ?_
        rintro e x2 ⟨rfl, hd⟩
        have HD2 := Lib.hid hd
        clear hd
        have HF : Hid (Duo w0 x2 z g b L c r (stS oc L s) (stS oc L t)) := Lib.hid (by
          rw [HOC.out]
          have eS : ∀ q : DSt, stS ⟨1, at_, m, l1, l2⟩ L q = actS q L 1 at_ (i : Int) (putW Wd.st at_.toNat l1 q.ws) := fun q => by have := HLB.out.2.2.1; simp [stS, this]
          rw [eS, eS]
          exact HD2.out.sub (fun x hx => List.mem_cons_of_mem _ (List.mem_cons_of_mem _ hx)))
        have HV : Hid (stB oc L s t = (actE s L at_ (i : Int) == actE t L at_ (i : Int))) := Lib.hid (by
          rw [HOC.out]
          have := HLB.out.2.2.1
          simp [stB, this])
        go_wp2
        go_ret
        refine ⟨?_, HF.out⟩
        rw [HV.out]
        rfl
end
section
open Go.RowKit Go
set_option linter.unusedVariables false
set_option linter.unusedSimpArgs false
set_option maxRecDepth 100000
set_option maxHeartbeats 8000000 in
theorem step_2 (w0 w : World) (z : List (Nat × Obj)) (g b L c : Nat) (r : RI) (s t : DSt) (h : Duo w0 w z g b L c r s t) (hks : s.k < 16384) (hkt : t.k < 16384) (at_ m : Int) (lb lp : List Nat) (B1 B2 : Option Addr) (e1 e2 : Nat) (hb1 : BS w0 w0.heap.size B1 lb.length e1 lb) (hb2 : BS w0 w0.heap.size B2 lp.length e2 lp) (hA1 : B1 = none → e1 = 0) (hA2 : B2 = none → e2 = 0) (hfa : -9223372036854775808 ≤ at_ ∧ at_ ≤ 9223372036854775807) (hfm : -9223372036854775808 ≤ m ∧ m ≤ 9223372036854775807) :
    Calls Try.prog 10 #[.pointer (some ⟨g, 0, none⟩), .pointer (some ⟨r.g, 0, none⟩), .agg #[.int .i64 2, .int .i64 at_, .int .i64 m, .slice B1 lb.length e1, .slice B2 lp.length e2]] w fun e w' => e = .returned (.bool (stB (O8.cut ⟨2, at_, m, lb, lp⟩) L s t)) ∧ Duo w0 w' z g b L c r (stS (O8.cut ⟨2, at_, m, lb, lp⟩) L s) (stS (O8.cut ⟨2, at_, m, lb, lp⟩) L t) := by
  obtain ⟨nb, hnb⟩ : ∃ nb, lb.length = nb := ⟨_, rfl⟩
  obtain ⟨np, hnp⟩ : ∃ np, lp.length = np := ⟨_, rfl⟩
  rw [hnb] at hb1 ⊢
  rw [hnp] at hb2 ⊢
  have HT1 : Hid (BS w0 w0.heap.size B1 (min nb 150) e1 (lb.take 150)) := Lib.hid (cut_bsN 150 hb1)
  have HT2 : Hid (BS w0 w0.heap.size B2 (min np 12) e2 (lp.take 12)) := Lib.hid (cut_bsN 12 hb2)
  have HCC := Lib.hid (fun W => cut8_any 2 at_ m B1 B2 nb e1 np e2 hb1.cap.1 hb2.cap.1 W)
  have HD0 := Lib.hid h
  have HNN := Lib.hid (And.intro hA1 hA2)
  have HFF := Lib.hid (And.intro hfa hfm)
  have HKK := Lib.hid (And.intro hks hkt)
  have HLB : Hid (min nb 150 ≤ 150 ∧ min np 12 ≤ 12 ∧ (lb.take 150).length = min nb 150 ∧ (lp.take 12).length = min np 12) := Lib.hid ⟨Nat.min_le_right _ _, Nat.min_le_right _ _, HT1.out.len, HT2.out.len⟩
  have hX : ∀ wA, Below (w.heap.size + 1) (w.alloc (.cells #[.int .i64 2, .int .i64 at_, .int .i64 m, .slice B1 nb e1, .slice B2 np e2] 30)) wA → wA.heap[w.heap.size]? = some (.cells #[.int .i64 2, .int .i64 at_, .int .i64 m, .slice B1 nb e1, .slice B2 np e2] 30 (0, 0)) := fun wA hb => (hb.block _ (by simp)).trans (heap_alloc_new _ _)
  have HX := Lib.hid hX
  obtain ⟨oc, hoc⟩ : ∃ oc, oc = O8.cut ⟨2, at_, m, lb, lp⟩ := ⟨_, rfl⟩
  rw [← hoc]
  have HOC : Hid (oc = ⟨2, at_, m, lb.take 150, lp.take 12⟩) := Lib.hid hoc
  clear h hks hkt hb1 hb2 hA1 hA2 hfa hfm hX hoc
  go_enter Try.func10, Try.ntmps10
  go_wp2_with fail
  refine (HCC.out _).mono ?_
  rintro e wA ⟨rfl, hb⟩
  have hXA := HX.out wA (by rw [show w.heap.size + 1 = (w.alloc (.cells #[.int .i64 2, .int .i64 at_, .int .i64 m, .slice B1 nb e1, .slice B2 np e2] 30)).heap.size by simp]; exact hb)
  have HBA : Hid (Below w.heap.size w wA) := Lib.hid (((Below.refl _ _).alloc (Nat.le_refl _) _).trans (hb.mono (by simp)))
  clear hb HX HCC
  have hI9 : (Try.prog.info? 30).map (·.size) = some (#[.int .i64 2, .int .i64 at_, .int .i64 m, .slice B1 (min nb 150) e1, .slice B2 (min np 12) e2] : Array Value).size := info_op8
  have hS9 : (#[.int .i64 2, .int .i64 at_, .int .i64 m, .slice B1 nb e1, .slice B2 np e2] : Array Value).size = (#[.int .i64 2, .int .i64 at_, .int .i64 m, .slice B1 (min nb 150) e1, .slice B2 (min np 12) e2] : Array Value).size := rfl
  have hO9 : (#[.int .i64 2, .int .i64 at_, .int .i64 m, .slice B1 (min nb 150) e1, .slice B2 (min np 12) e2] : Array Value).all (·.oneCell') = true := by simp [Value.oneCell']
  generalize lb.take 150 = l1 at *
  generalize lp.take 12 = l2 at *
  generalize min nb 150 = nc at *
  generalize min np 12 = pc at *
  go_upto_region 6 with (refine wpList_store_row rfl 30 (.tmp 5) (.tmp 15) rfl w.heap.size #[.int .i64 2, .int .i64 at_, .int .i64 m, .slice B1 nc e1, .slice B2 pc e2] rfl rfl 30 _ hXA hI9 hS9 hO9 ?_; obtain ⟨wB, hwB⟩ : ∃ wB, wB = wA.setRow w.heap.size #[.int .i64 2, .int .i64 at_, .int .i64 m, .slice B1 nc e1, .slice B2 pc e2] := ⟨_, rfl⟩; rw [← hwB]; have hY : wB.heap[w.heap.size]? = some (.cells #[.int .i64 2, .int .i64 at_, .int .i64 m, .slice B1 nc e1, .slice B2 pc e2] 30 (0, 0)) := (by rw [hwB]; exact setRow_heap _ _ _ _ _ _ hXA); have hWB : Below w.heap.size w wB := (by rw [hwB]; exact below_setRow HBA.out (Nat.le_refl _) _); have HD := Lib.hid (HD0.out.mark hWB (Nat.le_refl _) hY); clear hwB hXA hI9 hS9 hO9 hWB; have y0 : wB.cell? ⟨w.heap.size, 0, none⟩ = some (.int .i64 2) := blk_cell hY 0; have y1 : wB.cell? ⟨w.heap.size, 1, none⟩ = some (.int .i64 at_) := blk_cell hY 1; have y2 : wB.cell? ⟨w.heap.size, 2, none⟩ = some (.int .i64 m) := blk_cell hY 2; have y3 : wB.cell? ⟨w.heap.size, 3, none⟩ = some (.slice B1 nc e1) := blk_cell hY 3; have y4 : wB.cell? ⟨w.heap.size, 4, none⟩ = some (.slice B2 pc e2) := blk_cell hY 4; clear hY)
  have HX0 : Hid (Own (wB.alloc (.cells #[] 5)) wB.heap.size (.slice (some ⟨wB.heap.size, 0, none⟩) 0 0) []) := Lib.hid ⟨rfl, .inr ⟨wB.heap.size, 0, #[], rfl, Nat.le_refl _, heap_alloc_new _ _, Nat.le_refl _, by unfold maxLen; omega, rfl, rfl⟩⟩
  have HAL : Hid (Below wB.heap.size wB (wB.alloc (.cells #[] 5))) := Lib.hid ((Below.refl _ _).alloc (Nat.le_refl _) _)
  have HS1 : Hid (BS (wB.alloc (.cells #[] 5)) wB.heap.size B1 nc e1 l1) := Lib.hid ((bs_now HT1.out HD.out.under).below HAL.out)
  have hwl : w.heap.size < wB.heap.size := blk_lt' (HD.out.has (List.mem_cons_self ..))
  go_upto_region 7 with (at_builtin; refine wpList_plain rfl fun K0 hK => ?_; refine step_appsG _ (.tmp 22) (.tmp 24) rfl wB.heap.size _ [] rfl HX0.out _ B1 nc e1 l1 rfl HS1.out HNN.out.1 (by have := HLB.out; simp; omega) HAL.out.size ?_; intro v9 w9 ho9 hb9 _; rw [List.nil_append] at ho9; have HO9 := Lib.hid ho9; have HB9 : Hid (Below wB.heap.size wB w9) := Lib.hid (HAL.out.trans hb9); obtain ⟨A9, c9, e9⟩ := own_form ho9; rw [HLB.out.2.2.1] at e9; subst e9; clear ho9 hb9; refine hK _ _ ?_)
  have hd9 := HD.out.next HB9.out
  have hX5 := hd9.has (List.mem_cons_self ..)
  have p1 : w9.cell? ⟨w.heap.size, 1, none⟩ = some (.int .i64 at_) := blk_cell hX5 1
  have p2 : w9.cell? ⟨w.heap.size, 2, none⟩ = some (.int .i64 m) := blk_cell hX5 2
  have p3 : w9.cell? ⟨w.heap.size, 3, none⟩ = some (.slice B1 nc e1) := blk_cell hX5 3
  have p4 : w9.cell? ⟨w.heap.size, 4, none⟩ = some (.slice B2 pc e2) := blk_cell hX5 4
  clear hX5
  have HD9 := Lib.hid hd9
  clear hd9 HX0 HAL HS1 hwl
  rcases Nat.eq_zero_or_pos nc with hn0 | hn0
  · have HN0 := Lib.hid hn0
    have hlt0 : ¬ (0 : Int) < (nc : Int) := by omega
    have HS9 : Hid (BS w9 w9.heap.size A9 nc c9 l1) := Lib.hid (by
      obtain ⟨A', c', e, hs⟩ := HO9.out.bs (fun i => HT1.out.byte i)
      rw [HLB.out.2.2.1] at e hs
      injection e with e1 e2 e3
      subst e1
      subst e3
      exact hs)
    clear hn0
    go_wp2_with fail
    refine (HD9.out.doP (fun av pv hp hlt hz => store_P g b L c nc c9 at_ A9 l1 av pv s _ hp HKK.out.1 HS9.out (fun h0 => absurd h0 (by have := HN0.out; omega)))).mono ?_
    rintro e x1 ⟨rfl, hd⟩
    have HD1 := Lib.hid hd
    have hX6 := hd.has (List.mem_cons_self ..)
    have q1 : x1.cell? ⟨w.heap.size, 1, none⟩ = some (.int .i64 at_) := blk_cell hX6 1
    have q2 : x1.cell? ⟨w.heap.size, 2, none⟩ = some (.int .i64 m) := blk_cell hX6 2
    have q3 : x1.cell? ⟨w.heap.size, 3, none⟩ = some (.slice B1 nc e1) := blk_cell hX6 3
    have q4 : x1.cell? ⟨w.heap.size, 4, none⟩ = some (.slice B2 pc e2) := blk_cell hX6 4
    clear hX6
    clear hd
    go_wp2_with fail
    go_loopw [33] (fun iv wr => iv = .int .i64 0 ∧ wr = x1) (fun iv _ => 0)
    case atStart => exact ⟨rfl, rfl⟩
    case round =>
      obtain ⟨rfl, rfl⟩ := hrel
      go_wp2_with fail
      refine (HD1.out.doR (fun N M kv av2 pl hp hlt hz => store_R r L N M nc e1 kv av2 pl t at_ B1 l1 _ hp HKK.out.2 hp.w.sz.2.2 (bs_now HT1.out HD1.out.under) (far_low HT1.out (S := RS r kv av2) (fun j q => (hlt j q).1)) HFF.out.1.2)).mono ?_
      rintro e x2 ⟨rfl, hd⟩
      have HD2 := Lib.hid hd
      clear hd
      have HF : Hid (Duo w0 x2 z g b L c r (stS oc L s) (stS oc L t)) := Lib.hid (by
        rw [HOC.out]
        have eS : ∀ q : DSt, stS ⟨2, at_, m, l1, l2⟩ L q = actS q L 1 at_ (nc : Int) (putW Wd.st at_.toNat l1 q.ws) := fun q => by have := HLB.out.2.2.1; simp [stS, this]
        rw [eS, eS]
        exact HD2.out.sub (fun x hx => List.mem_cons_of_mem _ hx))
      have HV : Hid (stB oc L s t = (actE s L at_ (nc : Int) == actE t L at_ (nc : Int))) := Lib.hid (by
        rw [HOC.out]
        have := HLB.out.2.2.1
        simp [stB, this])
      go_wp2
      go_ret
      refine ⟨?_, HF.out⟩
      rw [HV.out]
      rfl
  · obtain ⟨q, c2, r2, e2', hq, hh, hc2, hc3⟩ := own_row HO9.out (by rw [HLB.out.2.2.1]; exact hn0)
    rw [HLB.out.2.2.1] at e2' hc2
    injection e2' with f1 f2 f3
    subst f1
    subst f3
    have hqlt := blk_lt' hh
    have HQB : Hid (wB.heap.size ≤ q ∧ nc ≤ c9 ∧ c9 ≤ 9223372036854775807) := Lib.hid ⟨hq, hc2, hc3⟩
    have HDM := Lib.hid (HD.out.mark HB9.out hq hh)
    have hs9 : BS w9 w9.heap.size (some ⟨q, 0, none⟩) nc c9 l1 := by
      have := row_pic (c := c9) (by rw [HLB.out.2.2.1]; exact hc2) hc3 (bs_bytes HT1.out) hh
      rwa [HLB.out.2.2.1] at this
    have HS9 := Lib.hid hs9
    have HBYT := Lib.hid (bs_bytes HT1.out)
    clear hs9 hq hh hc2 hc3
    go_wp2_with fail
    refine (HDM.out.doP (fun av pv hp hlt hz => store_P g b L c nc c9 at_ (some ⟨q, 0, none⟩) l1 av pv s _ hp HKK.out.1 HS9.out (fun h0 ad e => by injection e with e; subst e; exact hz q _ (List.mem_cons_self ..)))).mono ?_
    rintro e x1 ⟨rfl, hd⟩
    have HD1 := Lib.hid hd
    have HST : Hid (XoR w0 ((w.heap.size, (.cells #[.int .i64 2, .int .i64 at_, .int .i64 m, .slice B1 nc e1, .slice B2 pc e2] 30 (0, 0))) :: z) g b L c r (actS s L 1 at_ (nc : Int) (putW Wd.st at_.toNat l1 s.ws)) t q nc r2 (.int .i64 0) x1) := Lib.hid ⟨0, l1, rfl, by omega, HLB.out.2.2.1, HBYT.out, hd⟩
    clear hd
    go_wp2_with fail
    go_loopw [33] (fun iv wr => XoR w0 ((w.heap.size, (.cells #[.int .i64 2, .int .i64 at_, .int .i64 m, .slice B1 nc e1, .slice B2 pc e2] 30 (0, 0))) :: z) g b L c r (actS s L 1 at_ (nc : Int) (putW Wd.st at_.toNat l1 s.ws)) t q nc r2 iv wr) (fun iv _ => (nc - (intOf iv).toNat))
    case atStart => exact HST.out
    case round =>
      clear HST
      obtain ⟨i, l', rfl, hi, hl', hby, hd⟩ := hrel
      have HDW := Lib.hid hd
      by_cases hlt : i < nc
      · have hlti : (i : Int) < (nc : Int) := by omega
        have hnc9 : nc ≤ 150 := HLB.out.1
        have hwi : IntKind.i64.wrap ((i : Int) + 1) = (i : Int) + 1 := IntWalk.i64_in _ ⟨by omega, by omega⟩
        have hrow := hd.has (List.mem_cons_self ..)
        obtain ⟨v, hv⟩ : ∃ v, l'[i]? = some v := ⟨_, List.getElem?_eq_getElem (by omega)⟩
        have hvb : v < 256 := hby v (List.mem_of_getElem? hv)
        have hc : wr.cell? ⟨q, i, none⟩ = some (.int .u8 (v : Int)) := by
          rw [blk_cell hrow i, List.getElem?_toArray, List.getElem?_append_left (by rw [bvals_len]; omega)]
          unfold bvals
          rw [List.getElem?_map, hv]
          rfl
        have hfr : wr.frozen? ⟨q, i, none⟩ = false := blk_free hrow i
        obtain ⟨x9, hx9⟩ : ∃ x9, x9 = v ^^^ 9 := ⟨_, rfl⟩
        have hxo : bits .xor .u8 (v : Int) 9 = (x9 : Int) := by rw [hx9]; exact xor8 hvb (by omega : 9 < 256)
        have hxb : x9 < 256 := by rw [hx9]; exact Nat.xor_lt_two_pow (n := 8) hvb (by omega)
        have HG : Hid (XoR w0 ((w.heap.size, (.cells #[.int .i64 2, .int .i64 at_, .int .i64 m, .slice B1 nc e1, .slice B2 pc e2] 30 (0, 0))) :: z) g b L c r (actS s L 1 at_ (nc : Int) (putW Wd.st at_.toNat l1 s.ws)) t q nc r2 (.int .i64 ((i : Int) + 1)) (wr.setCell ⟨q, i, none⟩ (.int .u8 (x9 : Int)))) := Lib.hid (by
          refine ⟨i + 1, l'.set i x9, by simp, by omega, by rw [List.length_set]; exact hl', mem_set hby hxb, ?_⟩
          refine hd.turn (fun q' o' hm => ?_) (Nat.le_trans HD.out.under.size HQB.out.1) (Turns.set _ _ rfl) ?_
          · have h1 := blk_lt' (HD.out.has hm)
            have h2 := HQB.out.1
            omega
          · have h3 := (set_row (cs := bvals l' ++ r2) hrow i (.int .u8 (x9 : Int))).2
            rw [xor_row (by omega)] at h3
            exact h3)
        clear hd hrow hv hx9 hby
        go_wp2_with fail
        go_roundw
        case rel => exact HG.out
        case measure => simp [intOf]; omega
      · have hlti : ¬ (i : Int) < (nc : Int) := by omega
        obtain rfl : i = nc := by omega
        have hX7 := hd.has (List.mem_cons_of_mem _ (List.mem_cons_self ..))
        have r1 : wr.cell? ⟨w.heap.size, 1, none⟩ = some (.int .i64 at_) := blk_cell hX7 1
        have r3 : wr.cell? ⟨w.heap.size, 3, none⟩ = some (.slice B1 i e1) := blk_cell hX7 3
        clear hX7 hd hby
        go_wp2_with fail
        refine (HDW.out.doR (fun N M kv av2 pl hp hlt hz => store_R r L N M i e1 kv av2 pl t at_ B1 l1 _ hp HKK.out.2 hp.w.sz.2.2 (bs_now HT1.out HDW.out.under) (far_low HT1.out (S := RS r kv av2) (fun j q => (hlt j q).1)) HFF.out.1.2)).mono ?_
        rintro e x2 ⟨rfl, hd⟩
        have HD2 := Lib.hid hd
        clear hd
        have HF : Hid (Duo w0 x2 z g b L c r (stS oc L s) (stS oc L t)) := Lib.hid (by
          rw [HOC.out]
          have eS : ∀ q : DSt, stS ⟨2, at_, m, l1, l2⟩ L q = actS q L 1 at_ (i : Int) (putW Wd.st at_.toNat l1 q.ws) := fun q => by have := HLB.out.2.2.1; simp [stS, this]
          rw [eS, eS]
          exact HD2.out.sub (fun x hx => List.mem_cons_of_mem _ (List.mem_cons_of_mem _ hx)))
        have HV : Hid (stB oc L s t = (actE s L at_ (i : Int) == actE t L at_ (i : Int))) := Lib.hid (by
          rw [HOC.out]
          have := HLB.out.2.2.1
          simp [stB, this])
        go_wp2
        go_ret
        refine ⟨?_, HF.out⟩
        rw [HV.out]
        rfl
end
section
open Go.RowKit Go
set_option linter.unusedVariables false
set_option linter.unusedSimpArgs false
set_option maxRecDepth 100000
set_option maxHeartbeats 8000000 in
theorem step_3 (w0 w : World) (z : List (Nat × Obj)) (g b L c : Nat) (r : RI) (s t : DSt) (h : Duo w0 w z g b L c r s t) (hks : s.k < 16384) (hkt : t.k < 16384) (at_ m : Int) (lb lp : List Nat) (B1 B2 : Option Addr) (e1 e2 : Nat) (hb1 : BS w0 w0.heap.size B1 lb.length e1 lb) (hb2 : BS w0 w0.heap.size B2 lp.length e2 lp) (hA1 : B1 = none → e1 = 0) (hA2 : B2 = none → e2 = 0) (hfa : -9223372036854775808 ≤ at_ ∧ at_ ≤ 9223372036854775807) (hfm : -9223372036854775808 ≤ m ∧ m ≤ 9223372036854775807) :
    Calls Try.prog 10 #[.pointer (some ⟨g, 0, none⟩), .pointer (some ⟨r.g, 0, none⟩), .agg #[.int .i64 3, .int .i64 at_, .int .i64 m, .slice B1 lb.length e1, .slice B2 lp.length e2]] w fun e w' => e = .returned (.bool (stB (O8.cut ⟨3, at_, m, lb, lp⟩) L s t)) ∧ Duo w0 w' z g b L c r (stS (O8.cut ⟨3, at_, m, lb, lp⟩) L s) (stS (O8.cut ⟨3, at_, m, lb, lp⟩) L t) := by
  obtain ⟨nb, hnb⟩ : ∃ nb, lb.length = nb := ⟨_, rfl⟩
  obtain ⟨np, hnp⟩ : ∃ np, lp.length = np := ⟨_, rfl⟩
  rw [hnb] at hb1 ⊢
  rw [hnp] at hb2 ⊢
  have HT1 : Hid (BS w0 w0.heap.size B1 (min nb 150) e1 (lb.take 150)) := Lib.hid (cut_bsN 150 hb1)
  have HT2 : Hid (BS w0 w0.heap.size B2 (min np 12) e2 (lp.take 12)) := Lib.hid (cut_bsN 12 hb2)
  have HCC := Lib.hid (fun W => cut8_any 3 at_ m B1 B2 nb e1 np e2 hb1.cap.1 hb2.cap.1 W)
  have HD0 := Lib.hid h
  have HNN := Lib.hid (And.intro hA1 hA2)
  have HFF := Lib.hid (And.intro hfa hfm)
  have HKK := Lib.hid (And.intro hks hkt)
  have HLB : Hid (min nb 150 ≤ 150 ∧ min np 12 ≤ 12 ∧ (lb.take 150).length = min nb 150 ∧ (lp.take 12).length = min np 12) := Lib.hid ⟨Nat.min_le_right _ _, Nat.min_le_right _ _, HT1.out.len, HT2.out.len⟩
  have hX : ∀ wA, Below (w.heap.size + 1) (w.alloc (.cells #[.int .i64 3, .int .i64 at_, .int .i64 m, .slice B1 nb e1, .slice B2 np e2] 30)) wA → wA.heap[w.heap.size]? = some (.cells #[.int .i64 3, .int .i64 at_, .int .i64 m, .slice B1 nb e1, .slice B2 np e2] 30 (0, 0)) := fun wA hb => (hb.block _ (by simp)).trans (heap_alloc_new _ _)
  have HX := Lib.hid hX
  obtain ⟨oc, hoc⟩ : ∃ oc, oc = O8.cut ⟨3, at_, m, lb, lp⟩ := ⟨_, rfl⟩
  rw [← hoc]
  have HOC : Hid (oc = ⟨3, at_, m, lb.take 150, lp.take 12⟩) := Lib.hid hoc
  clear h hks hkt hb1 hb2 hA1 hA2 hfa hfm hX hoc
  go_enter Try.func10, Try.ntmps10
  go_wp2_with fail
  refine (HCC.out _).mono ?_
  rintro e wA ⟨rfl, hb⟩
  have hXA := HX.out wA (by rw [show w.heap.size + 1 = (w.alloc (.cells #[.int .i64 3, .int .i64 at_, .int .i64 m, .slice B1 nb e1, .slice B2 np e2] 30)).heap.size by simp]; exact hb)
  have HBA : Hid (Below w.heap.size w wA) := Lib.hid (((Below.refl _ _).alloc (Nat.le_refl _) _).trans (hb.mono (by simp)))
  clear hb HX HCC
  have hI9 : (Try.prog.info? 30).map (·.size) = some (#[.int .i64 3, .int .i64 at_, .int .i64 m, .slice B1 (min nb 150) e1, .slice B2 (min np 12) e2] : Array Value).size := info_op8
  have hS9 : (#[.int .i64 3, .int .i64 at_, .int .i64 m, .slice B1 nb e1, .slice B2 np e2] : Array Value).size = (#[.int .i64 3, .int .i64 at_, .int .i64 m, .slice B1 (min nb 150) e1, .slice B2 (min np 12) e2] : Array Value).size := rfl
  have hO9 : (#[.int .i64 3, .int .i64 at_, .int .i64 m, .slice B1 (min nb 150) e1, .slice B2 (min np 12) e2] : Array Value).all (·.oneCell') = true := by simp [Value.oneCell']
  generalize lb.take 150 = l1 at *
  generalize lp.take 12 = l2 at *
  generalize min nb 150 = nc at *
  generalize min np 12 = pc at *
  go_upto_region 16 with (refine wpList_store_row rfl 30 (.tmp 5) (.tmp 15) rfl w.heap.size #[.int .i64 3, .int .i64 at_, .int .i64 m, .slice B1 nc e1, .slice B2 pc e2] rfl rfl 30 _ hXA hI9 hS9 hO9 ?_; obtain ⟨wB, hwB⟩ : ∃ wB, wB = wA.setRow w.heap.size #[.int .i64 3, .int .i64 at_, .int .i64 m, .slice B1 nc e1, .slice B2 pc e2] := ⟨_, rfl⟩; rw [← hwB]; have hY : wB.heap[w.heap.size]? = some (.cells #[.int .i64 3, .int .i64 at_, .int .i64 m, .slice B1 nc e1, .slice B2 pc e2] 30 (0, 0)) := (by rw [hwB]; exact setRow_heap _ _ _ _ _ _ hXA); have hWB : Below w.heap.size w wB := (by rw [hwB]; exact below_setRow HBA.out (Nat.le_refl _) _); have HD := Lib.hid (HD0.out.mark hWB (Nat.le_refl _) hY); clear hwB hXA hI9 hS9 hO9 hWB; have y0 : wB.cell? ⟨w.heap.size, 0, none⟩ = some (.int .i64 3) := blk_cell hY 0; have y1 : wB.cell? ⟨w.heap.size, 1, none⟩ = some (.int .i64 at_) := blk_cell hY 1; have y2 : wB.cell? ⟨w.heap.size, 2, none⟩ = some (.int .i64 m) := blk_cell hY 2; have y3 : wB.cell? ⟨w.heap.size, 3, none⟩ = some (.slice B1 nc e1) := blk_cell hY 3; have y4 : wB.cell? ⟨w.heap.size, 4, none⟩ = some (.slice B2 pc e2) := blk_cell hY 4; clear hY)
  refine wp_region_F (S := (fun w' => w'.cell? ⟨w.heap.size, 1, none⟩ = some (.int .i64 at_) ∧ w'.cell? ⟨w.heap.size, 2, none⟩ = some (.int .i64 m))) [] (by kernel_rfl) (⟨y1, y2⟩) (fun hHeld => ?_)
  refine wpAnyF_take (i := 0) (oi := _) (v := ?_) rfl (by kernel_rfl) (by kernel_rfl) (by kernel_rfl) (by kernel_rfl) (fun _ _ _ h => h) (Or.inl ⟨by rfl, ?_⟩) (by assumption) ?_
  rotate_left 1
  · intro w hSw
    (try dsimp only at hSw)
    (first | (go_simp; done) | (go_simp; with_reducible rfl))
  (try simp only [Act.put, List.getElem_toArray, List.getElem_cons_succ, List.getElem_cons_zero, List.setIfInBounds_toArray, List.set_cons_zero, List.set_cons_succ])
  refine wpAnyF_take (i := 1) (oi := _) (v := ?_) rfl (by kernel_rfl) (by kernel_rfl) (by kernel_rfl) (by kernel_rfl) (fun _ _ _ h => h) (Or.inl ⟨by rfl, ?_⟩) (by assumption) ?_
  rotate_left 1
  · intro w hSw
    (try dsimp only at hSw)
    (first | (go_simp; done) | (go_simp; with_reducible rfl))
  (try simp only [Act.put, List.getElem_toArray, List.getElem_cons_succ, List.getElem_cons_zero, List.setIfInBounds_toArray, List.set_cons_zero, List.set_cons_succ])
  refine wpAnyF_take (i := 2) (oi := _) (v := ?_) rfl (by kernel_rfl) (by kernel_rfl) (by kernel_rfl) (by kernel_rfl) (fun _ _ _ h => h) (Or.inl ⟨by rfl, ?_⟩) (by assumption) ?_
  rotate_left 1
  · intro w hSw
    (try dsimp only at hSw)
    (first | (go_simp; done) | (go_simp; with_reducible rfl))
  (try simp only [Act.put, List.getElem_toArray, List.getElem_cons_succ, List.getElem_cons_zero, List.setIfInBounds_toArray, List.set_cons_zero, List.set_cons_succ])
  refine wpAnyF_take (i := 3) (oi := _) (v := ?_) rfl (by kernel_rfl) (by kernel_rfl) (by kernel_rfl) (by kernel_rfl) (fun _ _ _ h => h) (Or.inl ⟨by rfl, ?_⟩) (by assumption) ?_
  rotate_left 1
  · intro w hSw
    (try dsimp only at hSw)
    (first | (go_simp; done) | (go_simp; with_reducible rfl))
  (try simp only [Act.put, List.getElem_toArray, List.getElem_cons_succ, List.getElem_cons_zero, List.setIfInBounds_toArray, List.set_cons_zero, List.set_cons_succ])
  refine wpAnyF_take (i := 4) (oi := _) (v := ?_) rfl (by kernel_rfl) (by kernel_rfl) (by kernel_rfl) (by kernel_rfl) (fun _ _ _ h => h) (Or.inl ⟨by rfl, ?_⟩) (by assumption) ?_
  rotate_left 1
  · intro w hSw
    (try dsimp only at hSw)
    (first | (go_simp; done) | (go_simp; with_reducible rfl))
  (try simp only [Act.put, List.getElem_toArray, List.getElem_cons_succ, List.getElem_cons_zero, List.setIfInBounds_toArray, List.set_cons_zero, List.set_cons_succ])
  refine wpAnyF_take (i := 6) (oi := _) (v := ?_) rfl (by kernel_rfl) (by kernel_rfl) (by kernel_rfl) (by kernel_rfl) (fun _ _ _ h => h) (Or.inl ⟨by rfl, ?_⟩) (by assumption) ?_
  rotate_left 1
  · intro w hSw
    (try dsimp only at hSw)
    (first | (go_simp; done) | (go_simp; with_reducible rfl))
  (try simp only [Act.put, List.getElem_toArray, List.getElem_cons_succ, List.getElem_cons_zero, List.setIfInBounds_toArray, List.set_cons_zero, List.set_cons_succ])
  refine wpAnyF_take (i := 7) (oi := _) (v := ?_) rfl (by kernel_rfl) (by kernel_rfl) (by kernel_rfl) (by kernel_rfl) (fun _ _ _ h => h) (Or.inl ⟨by rfl, ?_⟩) (by assumption) ?_
  rotate_left 1
  · intro w hSw
    (try dsimp only at hSw)
    (first | (go_simp; done) | (go_simp; with_reducible rfl))
  (try simp only [Act.put, List.getElem_toArray, List.getElem_cons_succ, List.getElem_cons_zero, List.setIfInBounds_toArray, List.set_cons_zero, List.set_cons_succ])
  refine wpAnyF_take (i := 8) (oi := _) (v := ?_) rfl (by kernel_rfl) (by kernel_rfl) (by kernel_rfl) (by kernel_rfl) (fun _ _ _ h => h) (Or.inl ⟨by rfl, ?_⟩) (by assumption) ?_
  rotate_left 1
  · intro w hSw
    (try dsimp only at hSw)
    (first | (go_simp; done) | (go_simp; with_reducible rfl))
  (try simp only [Act.put, List.getElem_toArray, List.getElem_cons_succ, List.getElem_cons_zero, List.setIfInBounds_toArray, List.set_cons_zero, List.set_cons_succ])
  refine wpAnyF_take (i := 9) (oi := _) (v := ?_) rfl (by kernel_rfl) (by kernel_rfl) (by kernel_rfl) (by kernel_rfl) (fun _ _ _ h => h) (Or.inl ⟨by rfl, ?_⟩) (by assumption) ?_
  rotate_left 1
  · intro w hSw
    (try dsimp only at hSw)
    (first | (go_simp; done) | (go_simp; with_reducible rfl))
  (try simp only [Act.put, List.getElem_toArray, List.getElem_cons_succ, List.getElem_cons_zero, List.setIfInBounds_toArray, List.set_cons_zero, List.set_cons_succ])
  refine wpAnyF_take (i := 10) (oi := _) (v := ?_) rfl (by kernel_rfl) (by kernel_rfl) (by kernel_rfl) (by kernel_rfl) (fun _ _ _ h => h) (Or.inl ⟨by rfl, ?_⟩) (by assumption) ?_
  rotate_left 1
  · intro w hSw
    (try dsimp only at hSw)
    (first | (go_simp; done) | (go_simp; with_reducible rfl))
  (try simp only [Act.put, List.getElem_toArray, List.getElem_cons_succ, List.getElem_cons_zero, List.setIfInBounds_toArray, List.set_cons_zero, List.set_cons_succ])
  refine wpAnyF_ready (rs := [5]) (by kernel_rfl) (by simp) ?_
  refine AllReadyF.cons (o := _) rfl (fun K hK => ?_) AllReadyF.nil
  go_simp
  refine ((HD.out.next (Below.refl _ _).drew).doP (fun av pv hp hlt hz => flush_P g b L c at_ m av pv s _ hp HKK.out.1)).mono ?_
  rintro e x1 ⟨rfl, hd⟩
  have HD1 := Lib.hid hd
  have hX5 := hd.has (List.mem_cons_self ..)
  have p1 : x1.cell? ⟨w.heap.size, 1, none⟩ = some (.int .i64 at_) := blk_cell hX5 1
  have p2 : x1.cell? ⟨w.heap.size, 2, none⟩ = some (.int .i64 m) := blk_cell hX5 2
  have p3 : x1.cell? ⟨w.heap.size, 3, none⟩ = some (.slice B1 nc e1) := blk_cell hX5 3
  have p4 : x1.cell? ⟨w.heap.size, 4, none⟩ = some (.slice B2 pc e2) := blk_cell hX5 4
  clear hX5
  clear hd
  refine hK.out _ _ (⟨p1, p2⟩) (fun hHeld5 => ?_)
  clear hK K
  (try simp only [Act.put, List.getElem_toArray, List.getElem_cons_succ, List.getElem_cons_zero, List.setIfInBounds_toArray, List.set_cons_zero, List.set_cons_succ])
  refine wpAnyF_ready (rs := [11]) (by kernel_rfl) (by simp) ?_
  refine AllReadyF.cons (o := _) rfl (fun K hK => ?_) AllReadyF.nil
  go_simp
  refine (HD1.out.doR (fun N M kv av2 pl hp hlt hz => flush_R r L N M kv av2 pl t at_ m _ hp HKK.out.2 hp.w.sz.2.2 HFF.out.2)).mono ?_
  rintro e x2 ⟨rfl, hd⟩
  have HD2 := Lib.hid hd
  have hX6 := hd.has (List.mem_cons_self ..)
  have q1 : x2.cell? ⟨w.heap.size, 1, none⟩ = some (.int .i64 at_) := blk_cell hX6 1
  have q2 : x2.cell? ⟨w.heap.size, 2, none⟩ = some (.int .i64 m) := blk_cell hX6 2
  have q3 : x2.cell? ⟨w.heap.size, 3, none⟩ = some (.slice B1 nc e1) := blk_cell hX6 3
  have q4 : x2.cell? ⟨w.heap.size, 4, none⟩ = some (.slice B2 pc e2) := blk_cell hX6 4
  clear hX6
  clear hd
  refine hK.out _ _ (⟨q1, q2⟩) (fun hHeld11 => ?_)
  clear hK K
  (try simp only [Act.put, List.getElem_toArray, List.getElem_cons_succ, List.getElem_cons_zero, List.setIfInBounds_toArray, List.set_cons_zero, List.set_cons_succ])
  refine wpAnyF_take (i := 12) (oi := _) (v := ?_) rfl (by kernel_rfl) (by kernel_rfl) (by kernel_rfl) (by kernel_rfl) (fun _ _ _ h => h) (Or.inl ⟨by rfl, ?_⟩) (by assumption) ?_
  rotate_left 1
  · intro w hSw
    (try dsimp only at hSw)
    (first | (go_simp; done) | (go_simp; with_reducible rfl))
  (try simp only [Act.put, List.getElem_toArray, List.getElem_cons_succ, List.getElem_cons_zero, List.setIfInBounds_toArray, List.set_cons_zero, List.set_cons_succ])
  refine wpAnyF_take (i := 13) (oi := _) (v := ?_) rfl (by kernel_rfl) (by kernel_rfl) (by kernel_rfl) (by kernel_rfl) (fun _ _ _ h => h) (Or.inl ⟨by rfl, ?_⟩) (by assumption) ?_
  rotate_left 1
  · intro w hSw
    (try dsimp only at hSw)
    (first | (go_simp; done) | (go_simp; with_reducible rfl))
  (try simp only [Act.put, List.getElem_toArray, List.getElem_cons_succ, List.getElem_cons_zero, List.setIfInBounds_toArray, List.set_cons_zero, List.set_cons_succ])
  refine wpAnyF_done (by kernel_rfl) ?_ _
  have HF : Hid (Duo w0 x2 z g b L c r (stS oc L s) (stS oc L t)) := Lib.hid (by
    rw [HOC.out]
    have eS : ∀ q : DSt, stS ⟨3, at_, m, l1, l2⟩ L q = actS q L 2 at_ m (flushW at_.toNat m.toNat q.ws) := fun q => by simp [stS]
    rw [eS, eS]
    exact HD2.out.sub (fun x hx => List.mem_cons_of_mem _ hx))
  have HV : Hid (stB oc L s t = (actE s L at_ m == actE t L at_ m)) := Lib.hid (by
    rw [HOC.out]
    simp [stB])
  go_wp2
  go_ret
  refine ⟨?_, HF.out⟩
  rw [HV.out]
  rfl
end
section
open Go.RowKit Go
set_option linter.unusedVariables false
set_option linter.unusedSimpArgs false
set_option maxRecDepth 100000
set_option maxHeartbeats 8000000 in
theorem step_4 (w0 w : World) (z : List (Nat × Obj)) (g b L c : Nat) (r : RI) (s t : DSt) (h : Duo w0 w z g b L c r s t) (hks : s.k < 16384) (hkt : t.k < 16384) (at_ m : Int) (lb lp : List Nat) (B1 B2 : Option Addr) (e1 e2 : Nat) (hb1 : BS w0 w0.heap.size B1 lb.length e1 lb) (hb2 : BS w0 w0.heap.size B2 lp.length e2 lp) (hA1 : B1 = none → e1 = 0) (hA2 : B2 = none → e2 = 0) (hfa : -9223372036854775808 ≤ at_ ∧ at_ ≤ 9223372036854775807) (hfm : -9223372036854775808 ≤ m ∧ m ≤ 9223372036854775807) :
    Calls Try.prog 10 #[.pointer (some ⟨g, 0, none⟩), .pointer (some ⟨r.g, 0, none⟩), .agg #[.int .i64 4, .int .i64 at_, .int .i64 m, .slice B1 lb.length e1, .slice B2 lp.length e2]] w fun e w' => e = .returned (.bool (stB (O8.cut ⟨4, at_, m, lb, lp⟩) L s t)) ∧ Duo w0 w' z g b L c r (stS (O8.cut ⟨4, at_, m, lb, lp⟩) L s) (stS (O8.cut ⟨4, at_, m, lb, lp⟩) L t) := by
  obtain ⟨nb, hnb⟩ : ∃ nb, lb.length = nb := ⟨_, rfl⟩
  obtain ⟨np, hnp⟩ : ∃ np, lp.length = np := ⟨_, rfl⟩
  rw [hnb] at hb1 ⊢
  rw [hnp] at hb2 ⊢
  have HT1 : Hid (BS w0 w0.heap.size B1 (min nb 150) e1 (lb.take 150)) := Lib.hid (cut_bsN 150 hb1)
  have HT2 : Hid (BS w0 w0.heap.size B2 (min np 12) e2 (lp.take 12)) := Lib.hid (cut_bsN 12 hb2)
  have HCC := Lib.hid (fun W => cut8_any 4 at_ m B1 B2 nb e1 np e2 hb1.cap.1 hb2.cap.1 W)
  have HD0 := Lib.hid h
  have HNN := Lib.hid (And.intro hA1 hA2)
  have HFF := Lib.hid (And.intro hfa hfm)
  have HKK := Lib.hid (And.intro hks hkt)
  have HLB : Hid (min nb 150 ≤ 150 ∧ min np 12 ≤ 12 ∧ (lb.take 150).length = min nb 150 ∧ (lp.take 12).length = min np 12) := Lib.hid ⟨Nat.min_le_right _ _, Nat.min_le_right _ _, HT1.out.len, HT2.out.len⟩
  have hX : ∀ wA, Below (w.heap.size + 1) (w.alloc (.cells #[.int .i64 4, .int .i64 at_, .int .i64 m, .slice B1 nb e1, .slice B2 np e2] 30)) wA → wA.heap[w.heap.size]? = some (.cells #[.int .i64 4, .int .i64 at_, .int .i64 m, .slice B1 nb e1, .slice B2 np e2] 30 (0, 0)) := fun wA hb => (hb.block _ (by simp)).trans (heap_alloc_new _ _)
  have HX := Lib.hid hX
  obtain ⟨oc, hoc⟩ : ∃ oc, oc = O8.cut ⟨4, at_, m, lb, lp⟩ := ⟨_, rfl⟩
  rw [← hoc]
  have HOC : Hid (oc = ⟨4, at_, m, lb.take 150, lp.take 12⟩) := Lib.hid hoc
  clear h hks hkt hb1 hb2 hA1 hA2 hfa hfm hX hoc
  go_enter Try.func10, Try.ntmps10
  go_wp2_with fail
  refine (HCC.out _).mono ?_
  rintro e wA ⟨rfl, hb⟩
  have hXA := HX.out wA (by rw [show w.heap.size + 1 = (w.alloc (.cells #[.int .i64 4, .int .i64 at_, .int .i64 m, .slice B1 nb e1, .slice B2 np e2] 30)).heap.size by simp]; exact hb)
  have HBA : Hid (Below w.heap.size w wA) := Lib.hid (((Below.refl _ _).alloc (Nat.le_refl _) _).trans (hb.mono (by simp)))
  clear hb HX HCC
  have hI9 : (Try.prog.info? 30).map (·.size) = some (#[.int .i64 4, .int .i64 at_, .int .i64 m, .slice B1 (min nb 150) e1, .slice B2 (min np 12) e2] : Array Value).size := info_op8
  have hS9 : (#[.int .i64 4, .int .i64 at_, .int .i64 m, .slice B1 nb e1, .slice B2 np e2] : Array Value).size = (#[.int .i64 4, .int .i64 at_, .int .i64 m, .slice B1 (min nb 150) e1, .slice B2 (min np 12) e2] : Array Value).size := rfl
  have hO9 : (#[.int .i64 4, .int .i64 at_, .int .i64 m, .slice B1 (min nb 150) e1, .slice B2 (min np 12) e2] : Array Value).all (·.oneCell') = true := by simp [Value.oneCell']
  generalize lb.take 150 = l1 at *
  generalize lp.take 12 = l2 at *
  generalize min nb 150 = nc at *
  generalize min np 12 = pc at *
  go_upto_region 16 with (refine wpList_store_row rfl 30 (.tmp 5) (.tmp 15) rfl w.heap.size #[.int .i64 4, .int .i64 at_, .int .i64 m, .slice B1 nc e1, .slice B2 pc e2] rfl rfl 30 _ hXA hI9 hS9 hO9 ?_; obtain ⟨wB, hwB⟩ : ∃ wB, wB = wA.setRow w.heap.size #[.int .i64 4, .int .i64 at_, .int .i64 m, .slice B1 nc e1, .slice B2 pc e2] := ⟨_, rfl⟩; rw [← hwB]; have hY : wB.heap[w.heap.size]? = some (.cells #[.int .i64 4, .int .i64 at_, .int .i64 m, .slice B1 nc e1, .slice B2 pc e2] 30 (0, 0)) := (by rw [hwB]; exact setRow_heap _ _ _ _ _ _ hXA); have hWB : Below w.heap.size w wB := (by rw [hwB]; exact below_setRow HBA.out (Nat.le_refl _) _); have HD := Lib.hid (HD0.out.mark hWB (Nat.le_refl _) hY); clear hwB hXA hI9 hS9 hO9 hWB; have y0 : wB.cell? ⟨w.heap.size, 0, none⟩ = some (.int .i64 4) := blk_cell hY 0; have y1 : wB.cell? ⟨w.heap.size, 1, none⟩ = some (.int .i64 at_) := blk_cell hY 1; have y2 : wB.cell? ⟨w.heap.size, 2, none⟩ = some (.int .i64 m) := blk_cell hY 2; have y3 : wB.cell? ⟨w.heap.size, 3, none⟩ = some (.slice B1 nc e1) := blk_cell hY 3; have y4 : wB.cell? ⟨w.heap.size, 4, none⟩ = some (.slice B2 pc e2) := blk_cell hY 4; clear hY)
  refine wp_region_F (S := (fun w' => w'.cell? ⟨w.heap.size, 1, none⟩ = some (.int .i64 at_) ∧ w'.cell? ⟨w.heap.size, 2, none⟩ = some (.int .i64 m))) [] (by kernel_rfl) (⟨y1, y2⟩) (fun hHeld => ?_)
  refine wpAnyF_take (i := 0) (oi := _) (v := ?_) rfl (by kernel_rfl) (by kernel_rfl) (by kernel_rfl) (by kernel_rfl) (fun _ _ _ h => h) (Or.inl ⟨by rfl, ?_⟩) (by assumption) ?_
  rotate_left 1
  · intro w hSw
    (try dsimp only at hSw)
    (first | (go_simp; done) | (go_simp; with_reducible rfl))
  (try simp only [Act.put, List.getElem_toArray, List.getElem_cons_succ, List.getElem_cons_zero, List.setIfInBounds_toArray, List.set_cons_zero, List.set_cons_succ])
  refine wpAnyF_take (i := 1) (oi := _) (v := ?_) rfl (by kernel_rfl) (by kernel_rfl) (by kernel_rfl) (by kernel_rfl) (fun _ _ _ h => h) (Or.inl ⟨by rfl, ?_⟩) (by assumption) ?_
  rotate_left 1
  · intro w hSw
    (try dsimp only at hSw)
    (first | (go_simp; done) | (go_simp; with_reducible rfl))
  (try simp only [Act.put, List.getElem_toArray, List.getElem_cons_succ, List.getElem_cons_zero, List.setIfInBounds_toArray, List.set_cons_zero, List.set_cons_succ])
  refine wpAnyF_take (i := 2) (oi := _) (v := ?_) rfl (by kernel_rfl) (by kernel_rfl) (by kernel_rfl) (by kernel_rfl) (fun _ _ _ h => h) (Or.inl ⟨by rfl, ?_⟩) (by assumption) ?_
  rotate_left 1
  · intro w hSw
    (try dsimp only at hSw)
    (first | (go_simp; done) | (go_simp; with_reducible rfl))
  (try simp only [Act.put, List.getElem_toArray, List.getElem_cons_succ, List.getElem_cons_zero, List.setIfInBounds_toArray, List.set_cons_zero, List.set_cons_succ])
  refine wpAnyF_take (i := 3) (oi := _) (v := ?_) rfl (by kernel_rfl) (by kernel_rfl) (by kernel_rfl) (by kernel_rfl) (fun _ _ _ h => h) (Or.inl ⟨by rfl, ?_⟩) (by assumption) ?_
  rotate_left 1
  · intro w hSw
    (try dsimp only at hSw)
    (first | (go_simp; done) | (go_simp; with_reducible rfl))
  (try simp only [Act.put, List.getElem_toArray, List.getElem_cons_succ, List.getElem_cons_zero, List.setIfInBounds_toArray, List.set_cons_zero, List.set_cons_succ])
  refine wpAnyF_take (i := 4) (oi := _) (v := ?_) rfl (by kernel_rfl) (by kernel_rfl) (by kernel_rfl) (by kernel_rfl) (fun _ _ _ h => h) (Or.inl ⟨by rfl, ?_⟩) (by assumption) ?_
  rotate_left 1
  · intro w hSw
    (try dsimp only at hSw)
    (first | (go_simp; done) | (go_simp; with_reducible rfl))
  (try simp only [Act.put, List.getElem_toArray, List.getElem_cons_succ, List.getElem_cons_zero, List.setIfInBounds_toArray, List.set_cons_zero, List.set_cons_succ])
  refine wpAnyF_take (i := 6) (oi := _) (v := ?_) rfl (by kernel_rfl) (by kernel_rfl) (by kernel_rfl) (by kernel_rfl) (fun _ _ _ h => h) (Or.inl ⟨by rfl, ?_⟩) (by assumption) ?_
  rotate_left 1
  · intro w hSw
    (try dsimp only at hSw)
    (first | (go_simp; done) | (go_simp; with_reducible rfl))
  (try simp only [Act.put, List.getElem_toArray, List.getElem_cons_succ, List.getElem_cons_zero, List.setIfInBounds_toArray, List.set_cons_zero, List.set_cons_succ])
  refine wpAnyF_take (i := 7) (oi := _) (v := ?_) rfl (by kernel_rfl) (by kernel_rfl) (by kernel_rfl) (by kernel_rfl) (fun _ _ _ h => h) (Or.inl ⟨by rfl, ?_⟩) (by assumption) ?_
  rotate_left 1
  · intro w hSw
    (try dsimp only at hSw)
    (first | (go_simp; done) | (go_simp; with_reducible rfl))
  (try simp only [Act.put, List.getElem_toArray, List.getElem_cons_succ, List.getElem_cons_zero, List.setIfInBounds_toArray, List.set_cons_zero, List.set_cons_succ])
  refine wpAnyF_take (i := 8) (oi := _) (v := ?_) rfl (by kernel_rfl) (by kernel_rfl) (by kernel_rfl) (by kernel_rfl) (fun _ _ _ h => h) (Or.inl ⟨by rfl, ?_⟩) (by assumption) ?_
  rotate_left 1
  · intro w hSw
    (try dsimp only at hSw)
    (first | (go_simp; done) | (go_simp; with_reducible rfl))
  (try simp only [Act.put, List.getElem_toArray, List.getElem_cons_succ, List.getElem_cons_zero, List.setIfInBounds_toArray, List.set_cons_zero, List.set_cons_succ])
  refine wpAnyF_take (i := 9) (oi := _) (v := ?_) rfl (by kernel_rfl) (by kernel_rfl) (by kernel_rfl) (by kernel_rfl) (fun _ _ _ h => h) (Or.inl ⟨by rfl, ?_⟩) (by assumption) ?_
  rotate_left 1
  · intro w hSw
    (try dsimp only at hSw)
    (first | (go_simp; done) | (go_simp; with_reducible rfl))
  (try simp only [Act.put, List.getElem_toArray, List.getElem_cons_succ, List.getElem_cons_zero, List.setIfInBounds_toArray, List.set_cons_zero, List.set_cons_succ])
  refine wpAnyF_take (i := 10) (oi := _) (v := ?_) rfl (by kernel_rfl) (by kernel_rfl) (by kernel_rfl) (by kernel_rfl) (fun _ _ _ h => h) (Or.inl ⟨by rfl, ?_⟩) (by assumption) ?_
  rotate_left 1
  · intro w hSw
    (try dsimp only at hSw)
    (first | (go_simp; done) | (go_simp; with_reducible rfl))
  (try simp only [Act.put, List.getElem_toArray, List.getElem_cons_succ, List.getElem_cons_zero, List.setIfInBounds_toArray, List.set_cons_zero, List.set_cons_succ])
  refine wpAnyF_ready (rs := [5]) (by kernel_rfl) (by simp) ?_
  refine AllReadyF.cons (o := _) rfl (fun K hK => ?_) AllReadyF.nil
  go_simp
  refine ((HD.out.next (Below.refl _ _).drew).doP (fun av pv hp hlt hz => flush_P g b L c at_ m av pv s _ hp HKK.out.1)).mono ?_
  rintro e x1 ⟨rfl, hd⟩
  have HD1 := Lib.hid hd
  have hX5 := hd.has (List.mem_cons_self ..)
  have p1 : x1.cell? ⟨w.heap.size, 1, none⟩ = some (.int .i64 at_) := blk_cell hX5 1
  have p2 : x1.cell? ⟨w.heap.size, 2, none⟩ = some (.int .i64 m) := blk_cell hX5 2
  have p3 : x1.cell? ⟨w.heap.size, 3, none⟩ = some (.slice B1 nc e1) := blk_cell hX5 3
  have p4 : x1.cell? ⟨w.heap.size, 4, none⟩ = some (.slice B2 pc e2) := blk_cell hX5 4
  clear hX5
  clear hd
  refine hK.out _ _ (⟨p1, p2⟩) (fun hHeld5 => ?_)
  clear hK K
  (try simp only [Act.put, List.getElem_toArray, List.getElem_cons_succ, List.getElem_cons_zero, List.setIfInBounds_toArray, List.set_cons_zero, List.set_cons_succ])
  refine wpAnyF_ready (rs := [11]) (by kernel_rfl) (by simp) ?_
  refine AllReadyF.cons (o := _) rfl (fun K hK => ?_) AllReadyF.nil
  go_simp
  refine (HD1.out.doR (fun N M kv av2 pl hp hlt hz => flush_R r L N M kv av2 pl t at_ m _ hp HKK.out.2 hp.w.sz.2.2 HFF.out.2)).mono ?_
  rintro e x2 ⟨rfl, hd⟩
  have HD2 := Lib.hid hd
  have hX6 := hd.has (List.mem_cons_self ..)
  have q1 : x2.cell? ⟨w.heap.size, 1, none⟩ = some (.int .i64 at_) := blk_cell hX6 1
  have q2 : x2.cell? ⟨w.heap.size, 2, none⟩ = some (.int .i64 m) := blk_cell hX6 2
  have q3 : x2.cell? ⟨w.heap.size, 3, none⟩ = some (.slice B1 nc e1) := blk_cell hX6 3
  have q4 : x2.cell? ⟨w.heap.size, 4, none⟩ = some (.slice B2 pc e2) := blk_cell hX6 4
  clear hX6
  clear hd
  refine hK.out _ _ (⟨q1, q2⟩) (fun hHeld11 => ?_)
  clear hK K
  (try simp only [Act.put, List.getElem_toArray, List.getElem_cons_succ, List.getElem_cons_zero, List.setIfInBounds_toArray, List.set_cons_zero, List.set_cons_succ])
  refine wpAnyF_take (i := 12) (oi := _) (v := ?_) rfl (by kernel_rfl) (by kernel_rfl) (by kernel_rfl) (by kernel_rfl) (fun _ _ _ h => h) (Or.inl ⟨by rfl, ?_⟩) (by assumption) ?_
  rotate_left 1
  · intro w hSw
    (try dsimp only at hSw)
    (first | (go_simp; done) | (go_simp; with_reducible rfl))
  (try simp only [Act.put, List.getElem_toArray, List.getElem_cons_succ, List.getElem_cons_zero, List.setIfInBounds_toArray, List.set_cons_zero, List.set_cons_succ])
  refine wpAnyF_take (i := 13) (oi := _) (v := ?_) rfl (by kernel_rfl) (by kernel_rfl) (by kernel_rfl) (by kernel_rfl) (fun _ _ _ h => h) (Or.inl ⟨by rfl, ?_⟩) (by assumption) ?_
  rotate_left 1
  · intro w hSw
    (try dsimp only at hSw)
    (first | (go_simp; done) | (go_simp; with_reducible rfl))
  (try simp only [Act.put, List.getElem_toArray, List.getElem_cons_succ, List.getElem_cons_zero, List.setIfInBounds_toArray, List.set_cons_zero, List.set_cons_succ])
  refine wpAnyF_done (by kernel_rfl) ?_ _
  have HF : Hid (Duo w0 x2 z g b L c r (stS oc L s) (stS oc L t)) := Lib.hid (by
    rw [HOC.out]
    have eS : ∀ q : DSt, stS ⟨4, at_, m, l1, l2⟩ L q = actS q L 2 at_ m (flushW at_.toNat m.toNat q.ws) := fun q => by simp [stS]
    rw [eS, eS]
    exact HD2.out.sub (fun x hx => List.mem_cons_of_mem _ hx))
  have HV : Hid (stB oc L s t = (actE s L at_ m == actE t L at_ m)) := Lib.hid (by
    rw [HOC.out]
    simp [stB])
  go_wp2
  go_ret
  refine ⟨?_, HF.out⟩
  rw [HV.out]
  rfl
end
end Go.Proofs.Ythigknolpdohoaa
