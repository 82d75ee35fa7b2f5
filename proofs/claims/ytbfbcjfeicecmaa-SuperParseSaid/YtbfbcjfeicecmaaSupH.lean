/-
  Package super: the document's super as a slice of its own; such a slice is set, cut, grown (SuperParse).
-/
import Derived.Test.YtbfbcjfeicecmaaSupG
namespace Go.Proofs.Ytbfbcjfeicecmaa
open Go.RowKit Go
set_option linter.unusedVariables false
/-- the call gives a slice of its own -/
def GivesO (w : World) (l : List Nat) (e : Ending) (w' : World) : Prop := ∃ v, e = .returned v ∧ Own w' w.heap.size v l ∧ Below w.heap.size w w'
set_option maxHeartbeats 400000 in
theorem refPadO (A : Option Addr) (m c N : Nat) (hN : N ≤ 65536) (l : List Nat) (w : World) (hs : BS w w.heap.size A m c l) (hm : m ≤ 1000) :
    Calls Try.prog 41 #[.slice A m c, .int .i64 (N : Int)] w (GivesO w (padL l N)) := by
  have hcap := hs.cap
  have HS := Lib.hid hs
  clear hs
  go_enter Try.func41, Try.ntmps41
  go_wp2
  go_loopw [5, 6] (fun v i wr => RefPadRel w l N v i wr) (fun _ i _ => (N - intOf i).toNat)
  case atStart => exact ⟨0, rfl, by omega, Own.nil _ _, Below.refl _ _⟩
  case round =>
    obtain ⟨k, rfl, hk, hown, hb⟩ := hrel
    by_cases hlt : k < N
    · have HL := Lib.hid (padL_len l k)
      have hln : (padL l k).length ≤ 65536 := by rw [HL.out]; omega
      have hB := hb.size
      have y1 := HS.out.byte k
      have HT := Lib.hid (padL_succ l k)
      by_cases hkm : k < m
      · obtain ⟨b, o, rfl, hbB, hcell⟩ := HS.out.at_ (by omega)
        have k1 : wr.cell? ⟨b, o + k, none⟩ = some (.int .u8 ((l.getD k 0 : Nat) : Int)) := (hb.cell hbB).trans (hcell k hkm)
        clear hcell
        generalize l.getD k 0 = x at *
        go_wp2_with (at_builtin; refine wp_app _ rfl _ _ rfl _ _ _ _ x rfl hown rfl (by omega) (by omega) hB ?_; intro v' w1 hown1 hb1)
        go_roundw
        case rel => exact ⟨k + 1, rfl, by omega, by rw [HT.out]; exact hown1, hb.trans hb1⟩
        case measure => simp [intOf]; omega
      · have h0 : l.getD k 0 = 0 := by
          have : l[k]? = none := by rw [List.getElem?_eq_none]; have := HS.out.len; omega
          rw [List.getD_eq_getElem?_getD, this]; rfl
        rw [h0] at HT
        clear h0 y1
        go_wp2_with (at_builtin; refine wp_app _ rfl _ _ rfl _ _ _ _ 0 rfl hown rfl (by omega) (by omega) hB ?_; intro v' w1 hown1 hb1)
        go_roundw
        case rel => exact ⟨k + 1, rfl, by omega, by rw [HT.out]; exact hown1, hb.trans hb1⟩
        case measure => simp [intOf]; omega
    · obtain rfl : k = N := by omega
      have H : Hid (GivesO w (padL l k) (.returned u5) wr) := Lib.hid ⟨_, rfl, hown, hb⟩
      clear hown
      go_wp2
      go_ret
      exact H.out
theorem Own.set {w : World} {B g n cap : Nat} {l : List Nat} (h : Own w B (.slice (some ⟨g, 0, none⟩) n cap) l) {k x : Nat} (hk : k < l.length) :
    Own (w.setCell ⟨g, k, none⟩ (.int .u8 (x : Int))) B (.slice (some ⟨g, 0, none⟩) n cap) (l.set k x) := by
  obtain ⟨h1, h2⟩ := h
  rcases h2 with ⟨e, _⟩ | ⟨g2, cap2, cur, e, hg, hh, hn, hm, hs, ht⟩
  · cases e
  · injection e with e1 e2 e3
    have e4 := Option.some.inj e1
    injection e4 with e5 _ _
    subst e5 e2 e3
    refine ⟨by rw [bvals_len, List.length_set, Nat.mul_one], .inr ⟨g, cap, _, by rw [List.length_set], hg, blk_set hh k _, by rw [List.length_set]; exact hn, hm, by simpa using hs, ?_⟩⟩
    rw [List.length_set, Nat.mul_one] at *
    rw [Array.toList_setIfInBounds, List.take_set, ht]
    unfold bvals
    rw [List.map_set]
theorem Own.cut {w : World} {B g n cap : Nat} {l : List Nat} (h : Own w B (.slice (some ⟨g, 0, none⟩) n cap) l) {k : Nat} (hk : k ≤ l.length) :
    Own w B (.slice (some ⟨g, 0, none⟩) k cap) (l.take k) := by
  obtain ⟨h1, h2⟩ := h
  have hl : (l.take k).length = k := by rw [List.length_take]; omega
  rcases h2 with ⟨e, _⟩ | ⟨g2, cap2, cur, e, hg, hh, hn, hm, hs, ht⟩
  · cases e
  · injection e with e1 e2 e3
    have e4 := Option.some.inj e1
    injection e4 with e5 _ _
    subst e5 e2 e3
    refine ⟨by rw [bvals_len, Nat.mul_one], .inr ⟨g, cap, cur, by rw [hl], hg, hh, by omega, hm, hs, ?_⟩⟩
    rw [hl, Nat.mul_one]
    rw [Nat.mul_one] at ht
    have e6 : cur.toList.take k = (cur.toList.take l.length).take k := by rw [List.take_take, Nat.min_eq_left hk]
    rw [e6, ht]
    unfold bvals
    rw [List.map_take]
theorem Own.at256 {w : World} {B : Nat} {v : Value} {l : List Nat} (h : Own w B v l) (hl : 0 < l.length) : ∃ g cap, v = .slice (some ⟨g, 0, none⟩) l.length cap ∧ l.length ≤ cap ∧ cap ≤ 9223372036854775807 ∧ ∀ k, k < l.length → (∃ u, w.cell? ⟨g, k, none⟩ = some u) ∧ w.frozen? ⟨g, k, none⟩ = false := by
  obtain ⟨h1, h2⟩ := h
  rcases h2 with ⟨rfl, e⟩ | ⟨g, cap, cur, rfl, hg, hh, hn, hm, hs, ht⟩
  · omega
  · refine ⟨g, cap, rfl, hn, by unfold maxLen at hm; omega, fun k hk => ⟨?_, blk_free hh k⟩⟩
    have hk2 : k < cur.size := by omega
    exact ⟨_, (blk_cell hh k).trans (Array.getElem?_eq_getElem hk2)⟩
theorem zeros_own (n : Nat) (hn : n ≤ 65536) (w : World) : Own (w.alloc (.cells (zeros n) 5)) w.heap.size (.slice (some ⟨w.heap.size, 0, none⟩) n n) (List.replicate n 0) := by
  have hl : (List.replicate n 0).length = n := List.length_replicate
  refine ⟨by rw [bvals_len, Nat.mul_one], .inr ⟨w.heap.size, n, _, by rw [hl], Nat.le_refl _, heap_alloc_new w _, by rw [hl]; exact Nat.le_refl _, by unfold maxLen; omega, by simp [zeros], ?_⟩⟩
  rw [hl, Nat.mul_one]
  unfold zeros bvals
  rw [Array.toList_replicate, List.map_replicate, List.take_of_length_le (by rw [List.length_replicate]; exact Nat.le_refl _)]
  rfl
theorem refPadO256 (A : Option Addr) (m c : Nat) (L : List Nat) (W : World) (h : BS W W.heap.size A m c L) (hm : m ≤ 256) :
    Calls Try.prog 41 #[.slice A m c, .int .i64 256] W (GivesO W (padL L 256)) := refPadO A m c 256 (by omega) L W h (by omega)
theorem Own.base {w : World} {B B' : Nat} {v : Value} {l : List Nat} (h : Own w B v l) (hB : B' ≤ B) : Own w B' v l := by
  obtain ⟨h1, h2⟩ := h
  refine ⟨h1, ?_⟩
  rcases h2 with h2 | ⟨g, cap, cur, hv, hg, hr⟩
  · exact .inl h2
  · exact .inr ⟨g, cap, cur, hv, Nat.le_trans hB hg, hr⟩
set_option maxRecDepth 100000 in
set_option maxHeartbeats 1000000 in
theorem rbytesO (p t : Nat) (hp : p < 256) (ht24 : t < 256) (w : World) : Calls Try.prog 15 #[.agg #[.int .i64 (p : Int), .int .i64 (t : Int)]] w (GivesO w (supL p t)) := by
  have hb : Below w.heap.size w (w.alloc (.cells #[.int .i64 (p : Int), .int .i64 (t : Int)] 23)) := (Below.refl _ _).alloc (Nat.le_refl _) _
  have ht := Two.new w 23 (p : Int) (t : Int)
  have HB := Lib.hid hb
  have c0 := ht.fst
  have c1 := ht.snd
  have HS := Lib.hid (sup_ref hp ht24)
  have hsz : (w.alloc (.cells #[.int .i64 (p : Int), .int .i64 (t : Int)] 23)).heap.size = w.heap.size + 1 := by simp
  have hcs := conv_sg (w.alloc (.cells #[.int .i64 (p : Int), .int .i64 (t : Int)] 23))
  have hF := fun W' => sg_ownF w.heap.size (w.alloc (.cells #[.int .i64 (p : Int), .int .i64 (t : Int)] 23)) W'
  have hX := six_bs 0 p t hp ht24 ((w.alloc (.cells #[.int .i64 (p : Int), .int .i64 (t : Int)] 23)).alloc (.cells #[.int .u8 71, .int .u8 65, .int .u8 82, .int .u8 68, .int .u8 82, .int .u8 79, .int .u8 66, .int .u8 69] 5 (8, 9)))
  have hsz2 : ((w.alloc (.cells #[.int .i64 (p : Int), .int .i64 (t : Int)] 23)).alloc (.cells #[.int .u8 71, .int .u8 65, .int .u8 82, .int .u8 68, .int .u8 82, .int .u8 79, .int .u8 66, .int .u8 69] 5 (8, 9))).heap.size = w.heap.size + 1 + 1 := by simp
  rw [hsz2] at hX
  rw [hsz] at hcs hF
  have hF2 := hF _ ((Below.refl _ _).alloc (by rw [World.size_alloc, hsz]; exact Nat.le_refl _) (.cells #[.int .u8 1, .int .u8 0, .int .u8 (p : Int), .int .u8 0, .int .u8 (t : Int), .int .u8 0] 5))
  have hb2 := (hb.alloc (by rw [hsz]; omega) (.cells #[.int .u8 71, .int .u8 65, .int .u8 82, .int .u8 68, .int .u8 82, .int .u8 79, .int .u8 66, .int .u8 69] 5 (8, 9))).alloc (by rw [hsz2]; omega) (.cells #[.int .u8 1, .int .u8 0, .int .u8 (p : Int), .int .u8 0, .int .u8 (t : Int), .int .u8 0] 5)
  have HB2 := Lib.hid hb2
  clear hb ht hsz hsz2 hF hb2
  go_enter Try.func15, Try.ntmps15
  go_wp2_with (refine wp_appsF _ rfl _ _ rfl w.heap.size _ _ rfl hF2 _ _ _ _ _ rfl hX (by omega) (by decide) HB2.out.size ?_; intro v' w2 hown2 hb2 hg2)
  have HB3 := Lib.hid (HB2.out.trans hb2)
  obtain ⟨A, c', rfl, hbs⟩ := hown2.bs (app_byte sgL_byte (six_byte hp ht24))
  clear hcs hF2 hX hb2 hg2 hown2 HB2 HB c0 c1
  generalize hL : sgL ++ [1, 0, p, 0, t, 0] = L at *
  have hl : L.length ≤ 256 := by rw [← hL]; simp [sgL]
  clear hL
  go_wp2_with fail
  refine (refPadO256 A _ c' L _ hbs hl).mono ?_
  rintro e w1 ⟨v9, rfl, hown9, hb1⟩
  have HF : Hid (GivesO w (padL L 256) (.returned v9) w1) := Lib.hid ⟨v9, rfl, hown9.base HB3.out.size, HB3.out.trans (hb1.mono HB3.out.size)⟩
  rw [HS.out] at HF
  clear hbs hb1 hown9
  go_wp2
  go_ret
  exact HF.out
end Go.Proofs.Ytbfbcjfeicecmaa
