/-
  Layer 18: open, find, Get.
-/
import Derived.Test.YtflgcddgocojpaaDoorSlC
import Derived.Test.YtflgcddgocojpaaDoorRowA
namespace Go.Proofs.YtflgcddgocojpaaDoor
open Go.RowKit Go
set_option linter.unusedVariables false
set_option linter.unusedSimpArgs false
set_option maxHeartbeats 1000000

def GivesO (w : World) (l : List Nat) (e : Ending) (w' : World) : Prop := ∃ v, e = .returned v ∧ Own w' w.heap.size v l ∧ Below w.heap.size w w'
theorem bclone_own (A : Option Addr) (n c : Nat) (l : List Nat) (w : World) (hs : BS w w.heap.size A n c l) (hn : n ≤ 1000) :
    Calls Tryd.prog 46 #[.slice A n c] w (GivesO w l) := by
  have hlen := hs.len
  have hby := hs.byte
  have hq := eql_nil
  rcases A with _ | ad
  · have hl : l = [] := by
      rcases Nat.eq_zero_or_pos n with h0 | h0
      · exact List.eq_nil_of_length_eq_zero (by omega)
      · obtain ⟨b, o, e, _⟩ := hs.at_ h0; cases e
    subst hl
    have HG : GivesO w [] (.returned (.slice none 0 0)) w := ⟨_, rfl, Own.nil _ _, Below.refl _ _⟩
    have H := Lib.hid HG
    clear HG hs hlen hby
    go_enter Tryd.func46, Tryd.ntmps46
    go_wp2
    go_ret
    exact H.out
  · have HS := Lib.hid hs
    have HL := Lib.hid hlen
    have HBY := Lib.hid hby
    clear hs hlen hby
    go_enter Tryd.func46, Tryd.ntmps46
    go_wp2_with (at_builtin; refine wp_app_all _ rfl _ _ rfl ad n c l rfl rfl HS.out (by omega) ?_; intro v' w1 hown1 hb1)
    have HG : GivesO w l (.returned v') w1 := ⟨v', rfl, hown1, hb1⟩
    have H := Lib.hid HG
    clear HG hown1 hb1
    go_ret
    exact H.out
/-- block h is a page of the call's own -/
structure PgO (w : World) (B h cc : Nat) (t : List Nat) : Prop where
  hB : B ≤ h
  c1 : 256 ≤ cc
  c2 : cc ≤ 9223372036854775807
  len : t.length = 256
  byte : ∀ i, t.getD i 0 < 256
  blk : ∃ cur : Array Value, w.heap[h]? = some (.cells cur 5 (0, 0)) ∧ cur.size = cc ∧ ∀ i, i < 256 → cur[i]? = some (.int .u8 ((t.getD i 0 : Nat) : Int))
theorem PgO.lt {w : World} {B h cc : Nat} {t : List Nat} (H : PgO w B h cc t) : h < w.heap.size := by
  obtain ⟨cur, h1, _⟩ := H.blk; exact blk_lt h1
theorem PgO.bs {w : World} {B h cc : Nat} {t : List Nat} (H : PgO w B h cc t) : BS w w.heap.size (some ⟨h, 0, none⟩) 256 cc t := by
  obtain ⟨cur, h1, h2, h3⟩ := H.blk
  exact BS.of_blk h1 H.lt H.len H.c1 H.c2 H.byte h3
theorem PgO.below {w w' : World} {B h cc : Nat} {t : List Nat} (H : PgO w B h cc t) (hb : Below w.heap.size w w') : PgO w' B h cc t := by
  obtain ⟨cur, h1, h2, h3⟩ := H.blk
  exact ⟨H.hB, H.c1, H.c2, H.len, H.byte, cur, (hb.block _ H.lt).trans h1, h2, h3⟩
theorem PgO.of_own {w : World} {B : Nat} {v : Value} {t : List Nat} (h : Own w B v t) (ht : t.length = 256) (hb : ∀ i, t.getD i 0 < 256) : ∃ h cc, v = .slice (some ⟨h, 0, none⟩) 256 cc ∧ PgO w B h cc t := by
  obtain ⟨hl, h⟩ := h
  rcases h with ⟨_, e⟩ | ⟨g, cap, cur, rfl, hg, hh, hnc, hm, hs, e⟩
  · omega
  · rw [ht] at hnc e
    refine ⟨g, cap, by rw [ht], hg, hnc, by unfold maxLen at hm; omega, ht, hb, cur, hh, by omega, fun i hi => ?_⟩
    have h3 : (cur.toList.take (256 * 1))[i]? = some (.int .u8 ((t.getD i 0 : Nat) : Int)) := by
      rw [e, bvals, List.getElem?_map, List.getElem?_eq_getElem (by omega)]
      simp [List.getD, List.getElem?_eq_getElem (show i < t.length by omega)]
    rw [List.getElem?_take_of_lt (by omega)] at h3
    simpa using h3
/-- a copy and its windows, if the page may be -/
def OpenTo (w : World) (z S : Nat) (t : List Nat) (e : Ending) (w' : World) : Prop :=
  (mayP z S t = false ∧ e = .returned (.tuple #[.slice none 0 0, .slice none 0 0, .int .i64 4]) ∧ Below w.heap.size w w') ∨
  (mayP z S t = true ∧ ∃ h cc g, e = .returned (.tuple #[.slice (some ⟨h, 0, none⟩) 256 cc, .slice (some ⟨g, 0, none⟩) S S, .int .i64 0]) ∧ PgO w' w.heap.size h cc t ∧ h < g ∧ Row w' g 63 (winV h 0 z) S ∧ Below w.heap.size w w')
theorem open_any (k b q c : Nat) (t : List Nat) (w : World) (hS : SZ w) (hk : k < 8) (hs : BS w w.heap.size (some ⟨b, q, none⟩) 256 c t) :
    Calls Tryd.prog 31 #[.slice (some ⟨b, q, none⟩) 256 c, .int .i64 (k : Int)] w (OpenTo w (clZ k) (clS k) t) := by
  have HC := Lib.hid (check_yes k b q c t w hS hk hs)
  have HCL := Lib.hid (fun w1 (h : Below w.heap.size w w1) => bclone_own _ 256 c t w1 ((hs.below h).more h.size) (by omega))
  have HCU := Lib.hid (fun w1 (h : Below w.heap.size w w1) cc g (hb : BS w1 w1.heap.size (some ⟨g, 0, none⟩) 256 cc t) => cut_any k g 0 cc t w1 (hS.below h) hk hb)
  have HT := Lib.hid hs.len
  have HBY := Lib.hid hs.byte
  clear hs hS
  cases hm : mayP (clZ k) (clS k) t
  · rw [hm] at HC
    have HR : Hid (∀ w', Below w.heap.size w w' → OpenTo w (clZ k) (clS k) t (.returned (.tuple #[.slice none 0 0, .slice none 0 0, .int .i64 4])) w') := Lib.hid (fun w' hb => .inl ⟨hm, rfl, hb⟩)
    unfold mayE at HC
    clear hm HCL HCU
    go_enter Tryd.func31, Tryd.ntmps31
    go_wp2_with fail
    refine HC.out.mono ?_
    rintro e w1 ⟨rfl, hb⟩
    have HB := Lib.hid hb
    clear hb
    go_wp2_with fail
    go_ret3
    exact HR.out _ HB.out
  · rw [hm] at HC
    unfold mayE at HC
    have HR : Hid (∀ h cc g w', PgO w' w.heap.size h cc t → h < g → Row w' g 63 (winV h 0 (clZ k)) (clS k) → Below w.heap.size w w' → OpenTo w (clZ k) (clS k) t (.returned (.tuple #[.slice (some ⟨h, 0, none⟩) 256 cc, .slice (some ⟨g, 0, none⟩) (clS k) (clS k), .int .i64 0])) w') :=
      Lib.hid (fun h cc g w' a1 a2 a3 a4 => .inr ⟨hm, h, cc, g, rfl, a1, a2, a3, a4⟩)
    unfold CutTo at HCU
    clear hm
    generalize clZ k = z at *
    generalize clS k = S at *
    go_enter Tryd.func31, Tryd.ntmps31
    go_wp2_with fail
    refine HC.out.mono ?_
    rintro e w1 ⟨rfl, hb⟩
    have HB := Lib.hid hb
    have HCL1 := Lib.hid (HCL.out w1 hb)
    clear hb
    go_wp2_with fail
    refine HCL1.out.mono ?_
    rintro e w2 ⟨v, rfl, ho, hb⟩
    obtain ⟨h, cc, rfl, hp⟩ := PgO.of_own ho HT.out HBY.out
    have HB2 := Lib.hid (HB.out.trans (hb.mono HB.out.size))
    have HP := Lib.hid hp
    have HCU1 := Lib.hid (HCU.out w2 HB2.out cc h hp.bs)
    have HSZ := Lib.hid HB.out.size
    clear ho hb hp
    go_wp2_with fail
    refine HCU1.out.mono ?_
    rintro e w3 ⟨rfl, hr, hb⟩
    have HF := Lib.hid (HR.out h cc _ w3 (by
      have := HP.out.below hb
      exact ⟨Nat.le_trans HSZ.out this.hB, this.c1, this.c2, this.len, this.byte, this.blk⟩) HP.out.lt hr (HB2.out.trans (hb.mono HB2.out.size)))
    clear hr hb
    go_wp2_with fail
    go_ret3
    exact HF.out
end Go.Proofs.YtflgcddgocojpaaDoor
