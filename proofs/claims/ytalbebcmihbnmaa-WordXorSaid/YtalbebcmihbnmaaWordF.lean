/-
  The walk of WordXor, where the statement leaves an order open.
-/
import Derived.Test.YtalbebcmihbnmaaWordC
import Derived.Deep.RegionWith
namespace Go.Proofs.Ytalbebcmihbnmaa
open Go.RowKit
set_option linter.unusedVariables false
def XorTo (w : World) (n : Nat) (l : List Nat) (e : Ending) (w' : World) : Prop :=
  ∃ A c, e = .returned (.slice A n c) ∧ Below w.heap.size w w' ∧ BS w' w'.heap.size A n c l
theorem xor_to (A A2 : Option Addr) (n c n2 c2 k : Nat) (l l2 : List Nat) (w : World) (hs : BS w w.heap.size A n c l) (hs2 : BS w w.heap.size A2 n2 c2 l2) (hn : n ≤ 1000) (hn2 : n2 ≤ 1000) (hk : min n n2 = k) :
    Calls Try.prog 23 #[.slice A n c, .slice A2 n2 c2] w (XorTo w k (xorL l l2)) :=
  (xor_any A A2 n c n2 c2 l l2 w hs hs2 hn hn2).mono fun _ _ ⟨A', c', he, hb, hx⟩ => by
    have e : (xorL l l2).length = k := by rw [xorL_len, hs.len, hs2.len, hk]
    rw [e] at he hx
    exact ⟨A', c', he, hb, hx⟩
def XorRel (w : World) (k : Nat) (v : Value) (wr : World) : Prop := ∃ j : Nat, v = .int .i64 (j : Int) ∧ j ≤ k ∧ Below w.heap.size w wr
theorem xor_str {l l2 : List Nat} {n n2 k : Nat} (h1 : l.length = n) (h2 : l2.length = n2) (hk : min n n2 = k) : str (xorL (xorL l l2) l2) = str (l.take k) := by rw [xorL_twice, h1, h2, hk]
theorem below4 {w w1 wr w2 w4 : World} (h1 : Below w.heap.size w w1) (h2 : Below w1.heap.size w1 wr) (h3 : Below wr.drew.heap.size wr.drew w2) (h4 : Below w2.heap.size w2 w4) : Below w.heap.size w w4 := by
  have k1 : w.heap.size ≤ w1.heap.size := h1.size
  have k2 : w1.heap.size ≤ wr.heap.size := h2.size
  have e : wr.drew.heap.size = wr.heap.size := rfl
  have k3 : wr.heap.size ≤ w2.heap.size := h3.size
  exact (((h1.trans (h2.mono k1)).trans ((Below.refl w.heap.size wr).drew)).trans (h3.mono (by omega))).trans (h4.mono (by omega))
set_option maxHeartbeats 4000000 in
theorem wordXor_any (A A2 : Option Addr) (n c n2 c2 : Nat) (l l2 : List Nat) (w : World) (hs : BS w w.heap.size A n c l) (hs2 : BS w w.heap.size A2 n2 c2 l2) :
    Calls Try.prog 6 #[.slice A n c, .slice A2 n2 c2] w fun e w' => e = .returned (.bool true) ∧ Below w.heap.size w w' := by
  go_enter Try.func6, Try.ntmps6
  go_wp2_with fail
  refine (short_any _ _ _ l _ hs).mono ?_
  rintro e w1 ⟨rfl, ht, hw⟩
  have hm : (l.take 80).length ≤ 1000 := by rw [List.length_take]; omega
  generalize l.take 80 = m at *
  subst hw
  generalize hN : m.length = N at *
  have HN := Lib.hid hN
  clear hN
  go_wp2_with fail
  refine (short_any _ _ _ l2 _ hs2).mono ?_
  rintro e w1 ⟨rfl, ht2, hw⟩
  have hm2 : (l2.take 80).length ≤ 1000 := by rw [List.length_take]; omega
  generalize l2.take 80 = m2 at *
  subst hw
  generalize hN2 : m2.length = N2 at *
  have HN2 := Lib.hid hN2
  clear hN2 hs hs2
  have hcap := ht.cap
  have hcap2 := ht2.cap
  go_wp2_with fail
  rcases (by omega : N ≤ N2 ∨ N2 < N) with hle | hlt
  · refine (xor_to _ _ _ _ _ _ N m m2 _ ht ht2 hm hm2 (by omega)).mono ?_
    rintro e w1 ⟨A3, c3, rfl, hb1, hx1⟩
    have HY := Lib.hid ((ht.below hb1).more hb1.size)
    have HY2 := Lib.hid ((ht2.below hb1).more hb1.size)
    have HX := Lib.hid hx1
    have hcx := hx1.cap
    have HS := Lib.hid (xor_str (k := N) HN.out HN2.out (by omega))
    have HK : N ≤ N ∧ N ≤ N2 := by omega
    have HB1 := Lib.hid hb1
    clear hx1 ht ht2 hb1
    go_wp2
    go_loopw [29] (fun v wr => XorRel w1 N v wr) (fun v _ => (N - intOf v).toNat)
    case atStart => exact ⟨0, rfl, by omega, Below.refl _ _⟩
    case round =>
      obtain ⟨j, rfl, hj, hbr⟩ := hrel
      by_cases hjk : j < N
      · obtain ⟨b, o, rfl, hbB, hcell⟩ := HY.out.at_ (by omega)
        obtain ⟨b2, o2, rfl, hbB2, hcell2⟩ := HY2.out.at_ (by omega)
        obtain ⟨b3, o3, rfl, hbB3, hcell3⟩ := HX.out.at_ (by omega)
        have k1 : wr.cell? ⟨b, o + j, none⟩ = some (.int .u8 ((m.getD j 0 : Nat) : Int)) := (hbr.cell hbB).trans (hcell j (by omega))
        have k2 : wr.cell? ⟨b2, o2 + j, none⟩ = some (.int .u8 ((m2.getD j 0 : Nat) : Int)) := (hbr.cell hbB2).trans (hcell2 j (by omega))
        have k3 : wr.cell? ⟨b3, o3 + j, none⟩ = some (.int .u8 (((xorL m m2).getD j 0 : Nat) : Int)) := (hbr.cell hbB3).trans (hcell3 j (by omega))
        have y1 := HY.out.byte j
        have y2 := HY2.out.byte j
        have hb : ((((xorL m m2).getD j 0 : Nat) : Int) != bits BinOp.xor IntKind.u8 ((m.getD j 0 : Nat) : Int) ((m2.getD j 0 : Nat) : Int)) = false := by
          rw [xor8 y1 y2, xorL_at, HN.out, HN2.out, if_pos (by omega)]
          simp
        have HR : Hid (XorRel w1 N (.int .i64 ((j : Int) + 1)) wr.drew) := Lib.hid ⟨j + 1, rfl, by omega, hbr.drew⟩
        clear hcell hcell2 hcell3 hbr
        generalize (xorL m m2).getD j 0 = x3 at *
        generalize m.getD j 0 = x at *
        generalize m2.getD j 0 = x2 at *
        go_wp2
        go_region
        go_wp2
        go_roundw
        case rel => exact HR.out
        case measure => simp [intOf]; omega
      · obtain rfl : j = N := by omega
        have hy := HY.out.below hbr
        have hy2 := HY2.out.below hbr
        have hx := HX.out.below hbr
        have hs0 := hy.take (k := j) (by omega)
        have hc0 := conv_at hs0.dr
        go_wp2
        go_region_with (first
          | (go_at_call 23; refine (xor_to _ _ _ _ _ _ j (xorL m m2) m2 _ (by exact (hx.dr.more hbr.size)) (by exact (hy2.dr.more hbr.size)) (by omega) hm2 (by omega)).mono ?_; rintro e w2 ⟨A4, c4, rfl, hb2, hx2⟩; have hc2 := conv_at hx2; rw [HS.out] at hc2; have hs2 := (hs0.dr.more hbr.size).below hb2; have hc3 := conv_at hs2)
          | (go_at_call 19; refine (awake1_any _).mono ?_; rintro e w4 ⟨rfl, hb4⟩))
        all_goals
          have HB := Lib.hid (below4 HB1.out hbr hb2 hb4)
          clear hc0 hc2 hc3 hs2 hx2 hs0 hy hy2 hx hbr hb2 hb4
          go_wp2
          go_ret
          exact ⟨rfl, HB.out⟩
  · refine (xor_to _ _ _ _ _ _ N2 m m2 _ ht ht2 hm hm2 (by omega)).mono ?_
    rintro e w1 ⟨A3, c3, rfl, hb1, hx1⟩
    have HY := Lib.hid ((ht.below hb1).more hb1.size)
    have HY2 := Lib.hid ((ht2.below hb1).more hb1.size)
    have HX := Lib.hid hx1
    have hcx := hx1.cap
    have HS := Lib.hid (xor_str (k := N2) HN.out HN2.out (by omega))
    have HK : N2 ≤ N ∧ N2 ≤ N2 := by omega
    have HB1 := Lib.hid hb1
    clear hx1 ht ht2 hb1
    go_wp2
    go_loopw [29] (fun v wr => XorRel w1 N2 v wr) (fun v _ => (N2 - intOf v).toNat)
    case atStart => exact ⟨0, rfl, by omega, Below.refl _ _⟩
    case round =>
      obtain ⟨j, rfl, hj, hbr⟩ := hrel
      by_cases hjk : j < N2
      · obtain ⟨b, o, rfl, hbB, hcell⟩ := HY.out.at_ (by omega)
        obtain ⟨b2, o2, rfl, hbB2, hcell2⟩ := HY2.out.at_ (by omega)
        obtain ⟨b3, o3, rfl, hbB3, hcell3⟩ := HX.out.at_ (by omega)
        have k1 : wr.cell? ⟨b, o + j, none⟩ = some (.int .u8 ((m.getD j 0 : Nat) : Int)) := (hbr.cell hbB).trans (hcell j (by omega))
        have k2 : wr.cell? ⟨b2, o2 + j, none⟩ = some (.int .u8 ((m2.getD j 0 : Nat) : Int)) := (hbr.cell hbB2).trans (hcell2 j (by omega))
        have k3 : wr.cell? ⟨b3, o3 + j, none⟩ = some (.int .u8 (((xorL m m2).getD j 0 : Nat) : Int)) := (hbr.cell hbB3).trans (hcell3 j (by omega))
        have y1 := HY.out.byte j
        have y2 := HY2.out.byte j
        have hb : ((((xorL m m2).getD j 0 : Nat) : Int) != bits BinOp.xor IntKind.u8 ((m.getD j 0 : Nat) : Int) ((m2.getD j 0 : Nat) : Int)) = false := by
          rw [xor8 y1 y2, xorL_at, HN.out, HN2.out, if_pos (by omega)]
          simp
        have HR : Hid (XorRel w1 N2 (.int .i64 ((j : Int) + 1)) wr.drew) := Lib.hid ⟨j + 1, rfl, by omega, hbr.drew⟩
        clear hcell hcell2 hcell3 hbr
        generalize (xorL m m2).getD j 0 = x3 at *
        generalize m.getD j 0 = x at *
        generalize m2.getD j 0 = x2 at *
        go_wp2
        go_region
        go_wp2
        go_roundw
        case rel => exact HR.out
        case measure => simp [intOf]; omega
      · obtain rfl : j = N2 := by omega
        have hy := HY.out.below hbr
        have hy2 := HY2.out.below hbr
        have hx := HX.out.below hbr
        have hs0 := hy.take (k := j) (by omega)
        have hc0 := conv_at hs0.dr
        go_wp2
        go_region_with (first
          | (go_at_call 23; refine (xor_to _ _ _ _ _ _ j (xorL m m2) m2 _ (by exact (hx.dr.more hbr.size)) (by exact (hy2.dr.more hbr.size)) (by omega) hm2 (by omega)).mono ?_; rintro e w2 ⟨A4, c4, rfl, hb2, hx2⟩; have hc2 := conv_at hx2; rw [HS.out] at hc2; have hs2 := (hs0.dr.more hbr.size).below hb2; have hc3 := conv_at hs2)
          | (go_at_call 19; refine (awake1_any _).mono ?_; rintro e w4 ⟨rfl, hb4⟩))
        all_goals
          have HB := Lib.hid (below4 HB1.out hbr hb2 hb4)
          clear hc0 hc2 hc3 hs2 hx2 hs0 hy hy2 hx hbr hb2 hb4
          go_wp2
          go_ret
          exact ⟨rfl, HB.out⟩
end Go.Proofs.Ytalbebcmihbnmaa
