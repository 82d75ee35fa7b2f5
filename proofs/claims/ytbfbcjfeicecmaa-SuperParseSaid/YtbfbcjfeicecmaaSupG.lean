/-
  Package super: SuperBytes' walk.
-/
import Derived.Test.YtbfbcjfeicecmaaSupF
namespace Go.Proofs.Ytbfbcjfeicecmaa
open Go.RowKit Go
set_option linter.unusedVariables false
theorem pick2 {l : List Nat} {k : Nat} (h : k + 2 ≤ l.length) : (l.drop k).take 2 = [l.getD k 0, l.getD (k + 1) 0] := by
  have h1 : l.drop k = l[k] :: l[k+1] :: l.drop (k + 2) := by
    rw [List.drop_eq_getElem_cons (by omega), List.drop_eq_getElem_cons (by omega)]
  rw [h1]
  show [l[k], l[k+1]] = _
  simp [List.getD, List.getElem?_eq_getElem (show k < l.length by omega), List.getElem?_eq_getElem (show k + 1 < l.length by omega)]
theorem numAt2 {l : List Nat} {k i : Nat} (h : k + 2 * i + 2 ≤ l.length) : numAt (l.drop k) 2 i = l.getD (k + 2 * i) 0 + 256 * l.getD (k + 2 * i + 1) 0 := by
  unfold numAt
  rw [List.drop_drop, pick2 h]
  simp only [num]
  omega
theorem supL_at {p t : Nat} (hp : p < 256) (ht : t < 256) (i : Nat) (hi : i < 256) : (supL p t).getD i 0 = (sgL ++ [1, 0, p, 0, t, 0]).getD i 0 := by
  rw [← sup_ref hp ht, padL_at, if_pos hi]
theorem supL_pF {p t : Nat} (hp : p < 256) (ht : t < 256) : pF (supL p t) = p ∧ tF (supL p t) = t := by
  unfold pF tF
  rw [numAt2 (by rw [supL_len]; omega), numAt2 (by rw [supL_len]; omega), supL_at hp ht _ (by omega), supL_at hp ht _ (by omega), supL_at hp ht _ (by omega), supL_at hp ht _ (by omega)]
  exact ⟨by show p + 256 * 0 = p; omega, by show t + 256 * 0 = t; omega⟩
theorem isSup_of {p t : Nat} (h : Geo.May p t) : IsSup (supL p t) := by
  have hp : p < 256 := by unfold Geo.May at h; omega
  have ht : t < 256 := by unfold Geo.May at h; omega
  obtain ⟨e1, e2⟩ := supL_pF hp ht
  unfold IsSup
  rw [e1, e2]
  exact ⟨h, rfl⟩
theorem parse_sup (A : Option Addr) (c p t : Nat) (h : Geo.May p t) (w : World) (hs : BS w w.heap.size A 256 c (supL p t)) :
    Calls Try.prog 14 #[.slice A 256 c] w (ParseTo w p t 0) := by
  have hp : p < 256 := by unfold Geo.May at h; omega
  have ht : t < 256 := by unfold Geo.May at h; omega
  obtain ⟨e1, e2⟩ := supL_pF hp ht
  refine (parse_256 A c _ w hs).mono fun e w' h2 => ?_
  have := h2.1 (isSup_of h)
  rw [e1, e2] at this
  exact this
set_option maxHeartbeats 1000000 in
theorem superBytes_no (p t : Int) (h : ¬ Geo.May p t) (w : World) :
    Calls Try.prog 3 #[.agg #[.int .i64 p, .int .i64 t]] w fun e w' => e = .returned (.bool true) ∧ Below w.heap.size w w' := by
  have hb : Below w.heap.size w (w.alloc (.cells #[.int .i64 p, .int .i64 t] 23)) := (Below.refl _ _).alloc (Nat.le_refl _) _
  have ht := Two.new w 23 p t
  have HB := Lib.hid hb
  have HT := Lib.hid ht
  have HM := Lib.hid h
  have HI : Hid ((Try.prog.info? 23).map (·.size) = some (#[Value.int .i64 p, Value.int .i64 t] : Array Value).size) := Lib.hid (info_geo2 p t)
  clear hb ht h
  go_enter Try.func3, Try.ntmps3
  go_wp2_with fail
  generalize w.alloc (.cells #[.int .i64 p, .int .i64 t] 23) = W0 at *
  refine (bytes_no p t HM.out _).mono ?_
  rintro e w1 ⟨rfl, hb1⟩
  have HT1 := Lib.hid (HT.out.after hb1)
  have HB1 := Lib.hid (HB.out.trans (hb1.mono HB.out.size))
  clear hb1
  have c0 := HT1.out.fst
  have c1 := HT1.out.snd
  go_wp2_with fail
  refine (rmay_no p t HM.out _).mono ?_
  rintro e w2 ⟨rfl, hb2⟩
  have HB2 := Lib.hid (HB1.out.trans (hb2.mono HB1.out.size))
  clear hb2 c0 c1
  go_wp2_with fail
  refine (awake13_any _).mono ?_
  rintro e w3 ⟨rfl, hb3⟩
  have HB3 := Lib.hid (HB2.out.trans (hb3.mono HB2.out.size))
  clear hb3
  go_wp2
  go_ret
  exact ⟨rfl, HB3.out⟩
set_option maxRecDepth 100000 in
set_option maxHeartbeats 4000000 in
theorem superBytes_yes (p t : Nat) (h : Geo.May p t) (w : World) :
    Calls Try.prog 3 #[.agg #[.int .i64 (p : Int), .int .i64 (t : Int)]] w fun e w' => e = .returned (.bool true) ∧ Below w.heap.size w w' := by
  have hp : p ≤ 64 := by unfold Geo.May at h; omega
  have ht24 : t ≤ 24 := by unfold Geo.May at h; omega
  have hb : Below w.heap.size w (w.alloc (.cells #[.int .i64 (p : Int), .int .i64 (t : Int)] 23)) := (Below.refl _ _).alloc (Nat.le_refl _) _
  have ht := Two.new w 23 (p : Int) (t : Int)
  have HB := Lib.hid hb
  have HT := Lib.hid ht
  have HM := Lib.hid h
  have HI : Hid ((Try.prog.info? 23).map (·.size) = some (#[Value.int .i64 (p : Int), Value.int .i64 (t : Int)] : Array Value).size) := Lib.hid (info_geo2 p t)
  clear hb ht h
  go_enter Try.func3, Try.ntmps3
  go_wp2_with fail
  generalize w.alloc (.cells #[.int .i64 (p : Int), .int .i64 (t : Int)] 23) = W0 at *
  refine (bytes_yes p t hp ht24 HM.out _).mono ?_
  rintro e w1 ⟨A1, n1, rfl, hb1, hx1⟩
  rw [supL_len] at hx1 ⊢
  have HT1 := Lib.hid (HT.out.after hb1)
  have HB1 := Lib.hid (HB.out.trans (hb1.mono HB.out.size))
  have HX1 := Lib.hid hx1
  clear hb1 hx1
  have c0 := HT1.out.fst
  have c1 := HT1.out.snd
  go_wp2_with fail
  refine (rmay_yes p t HM.out _).mono ?_
  rintro e w2 ⟨rfl, hb2⟩
  have HT2 := Lib.hid (HT1.out.after hb2)
  have HB2 := Lib.hid (HB1.out.trans (hb2.mono HB1.out.size))
  have HX2 := Lib.hid ((HX1.out.below hb2).more hb2.size)
  clear hb2 c0 c1
  go_wp2_with fail
  refine (parse_sup A1 n1 p t HM.out _ HX2.out).mono ?_
  rintro e w3 ⟨rfl, hb3⟩
  have hlt3 := (HT2.out.after hb3).lt
  have ha := Two.new w3 23 (p : Int) (t : Int)
  have hba : Below w3.heap.size w3 (w3.alloc (.cells #[.int .i64 (p : Int), .int .i64 (t : Int)] 23)) := (Below.refl _ _).alloc (Nat.le_refl _) _
  have HA := Lib.hid ha
  have HT4 := Lib.hid ((HT2.out.after hb3).after hba)
  have HB4 := Lib.hid ((HB2.out.trans (hb3.mono HB2.out.size)).trans (hba.mono (Nat.le_of_lt hlt3)))
  have hx4 := (((HX2.out.below hb3).more hb3.size).below hba).more hba.size
  clear ha hba hb3
  go_wp2_with fail
  generalize w3.alloc (.cells #[.int .i64 (p : Int), .int .i64 (t : Int)] 23) = W4 at *
  have c0 := HT4.out.fst
  have c1 := HT4.out.snd
  have d0 := HA.out.fst
  have d1 := HA.out.snd
  have hc1 := conv_at hx4.dr
  have hx4t : Two W4.drew w.heap.size 23 (p : Int) (t : Int) := HT4.out
  have hx4a : Two W4.drew w3.heap.size 23 (p : Int) (t : Int) := HA.out
  go_region_with (first
    | (go_at_call 15; (with_reducible refine (rbytes_any p t (by omega) (by omega) _).mono ?_); rintro e w5 ⟨A5, c5, rfl, hb5, hx5⟩; have hc5 := conv_at hx5; have hc6 := conv_at ((hx4.dr.below hb5).more hb5.size); have e0 := (hx4t.after hb5).fst; have e1 := (hx4t.after hb5).snd; have g0 := (hx4a.after hb5).fst; have g1 := (hx4a.after hb5).snd)
    | (go_at_call 13; (with_reducible refine (awake13_any _).mono ?_); rintro e w6 ⟨rfl, hb6⟩))
  all_goals
    have HB6 := Lib.hid ((HB4.out.drew.trans (hb5.mono HB4.out.size)).trans (hb6.mono (Nat.le_trans HB4.out.size hb5.size)))
    clear hc1 hc5 hc6 e0 e1 g0 g1 c0 c1 d0 d1 hx4t hx4a hx4 hx5 hb5 hb6
    go_wp2
    go_ret
    exact ⟨rfl, HB6.out⟩
theorem superBytes_any (p t : Int) (w : World) :
    Calls Try.prog 3 #[.agg #[.int .i64 p, .int .i64 t]] w fun e w' => e = .returned (.bool true) ∧ Below w.heap.size w w' := by
  by_cases h : Geo.May p t
  · obtain ⟨p', rfl⟩ : ∃ k : Nat, p = (k : Int) := ⟨p.toNat, by unfold Geo.May at h; omega⟩
    obtain ⟨t', rfl⟩ : ∃ k : Nat, t = (k : Int) := ⟨t.toNat, by unfold Geo.May at h; omega⟩
    exact superBytes_yes p' t' h w
  · exact superBytes_no p t h w
end Go.Proofs.Ytbfbcjfeicecmaa
