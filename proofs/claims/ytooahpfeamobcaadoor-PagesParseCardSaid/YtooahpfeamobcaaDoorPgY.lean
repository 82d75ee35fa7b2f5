/-
  Sixteen pages as a block: the document's Bytes.
-/
import Derived.Test.YtooahpfeamobcaaDoorPgX
namespace Go.Proofs.YtooahpfeamobcaaDoor
open Go.RowKit Go Go.Shelf
set_option linter.unusedVariables false
set_option linter.unusedSimpArgs false
set_option maxRecDepth 100000
theorem wp_appsK {ops : Array Oper} {rest : List Oper} {o : Oper} {a : Act} {Q : Exit → Act → World → Prop} (W : World) (hgd : o.guard = none) (s x : Operand)
    (ho : o.op = .call { callee := .builtin .append, args := #[s, x], argTypes := #[24, 24] })
    (B : Nat) (v : Value) (l : List Nat) (hs : a.eval s = v) (hown : Own W B v l)
    (B' : Nat) (A : Option Addr) (m c : Nat) (l' : List Nat) (hx : a.eval x = .slice A m c) (hr : BS W B' A m c l') (hm0 : 0 < m) (hn : l.length + m < 1000000000) (hB : B ≤ W.heap.size)
    (h : ∀ v' w', Own w' B v' (l ++ l') → Below B W w' → W.grownBy w' v.ownBlock → wpList Tryd.prog ops Q rest (a.put o.dst v') w') :
    wpList Tryd.prog ops Q (o :: rest) a W := by
  obtain ⟨i0, hi, hz0, hz1, hz2⟩ := info_parts info_u8
  have hm := hr.len
  obtain ⟨b, off, rfl, _, hc⟩ := hr.at_ hm0
  refine wpList_append_own _ hgd s x 24 ho B 5 i0 (.int .u8 0) 1 1 Tryd.underlying24 hi hz0 hz1 hz2 rfl (by decide) v l.length (bvals l) hs hown ⟨b, off, none⟩ m c
      (bvals l') hx (by rw [bvals_len, hm, Nat.mul_one]) ?_ (bvals_one l') (by unfold maxLen; omega) (by omega) hB ?_
  · intro j u hj
    have hjl : j < l'.length := by
      rcases Nat.lt_or_ge j l'.length with h | h
      · exact h
      · rw [List.getElem?_eq_none (by rw [bvals_len]; exact h)] at hj; cases hj
    have h2 := hc j (by omega)
    rw [Go.WideShapes.add_plain, h2, ← hj]
    simp [bvals, List.getElem?_eq_getElem hjl, List.getD]
  · intro v' w1 hown' hg _
    refine h v' w1 ?_ ((Below.refl B W).grown hg hB (fun k hk => (World.ownsRow.lt hown k hk).1)) hg
    have e : bvals (l ++ l') = bvals l ++ bvals l' := by simp [bvals]
    unfold Own
    rw [e, List.length_append, hm]
    exact hown'
theorem two_bs (W : World) (t : TypeId) (a b : Int) (g : Nat) (hg : W.heap.size = g) (h : 0 ≤ a ∧ a < 256 ∧ 0 ≤ b ∧ b < 256) : BS (W.alloc (.cells #[.int .u8 a, .int .u8 b] t)) (W.alloc (.cells #[.int .u8 a, .int .u8 b] t)).heap.size (some ⟨g, 0, none⟩) 2 2 [a.toNat, b.toNat] := by
  subst hg
  obtain ⟨h1, h2, h3, h4⟩ := h
  refine BS.of_blk (heap_alloc_new W _) (by simp) rfl (Nat.le_refl _) (by omega) (fun i => ?_) (fun i hi => ?_)
  · rcases (by omega : i = 0 ∨ i = 1 ∨ 2 ≤ i) with rfl | rfl | h
    · show a.toNat < 256; omega
    · show b.toNat < 256; omega
    · rw [List.getD_eq_getElem?_getD, List.getElem?_eq_none (by simpa using h)]; decide
  · rcases (by omega : i = 0 ∨ i = 1) with rfl | rfl
    · show some (Value.int .u8 a) = some (.int .u8 ((a.toNat : Nat) : Int))
      rw [Int.toNat_of_nonneg h1]
    · show some (Value.int .u8 b) = some (.int .u8 ((b.toNat : Nat) : Int))
      rw [Int.toNat_of_nonneg h3]
/-- an own slice of bytes is no box of pages -/
theorem box_app {W w' : World} {B g : Nat} {v : Value} {l : List Nat} {cs : Array Value} (hown : Own W B v l) (hbx : W.heap[g]? = some (.cells cs RT (0, 0))) (hg : W.grownBy w' v.ownBlock) : w'.heap[g]? = some (.cells cs RT (0, 0)) := by
  refine (hg.block g (blk_lt hbx) ?_).trans hbx
  intro e
  obtain ⟨h1, ⟨hv, h0⟩ | ⟨g', cap, cur, hv, hg', hh, hn, hm, _⟩⟩ := hown
  · rw [hv] at e; simp [Value.ownBlock] at e
  · rw [hv] at e
    simp [Value.ownBlock] at e
    rw [e, hh] at hbx
    have hb2 := Option.some.inj hbx
    have h3 : (5 : TypeId) = RT := by injection hb2
    exact absurd h3 (by decide)
theorem bL_two (p : Pg) (h : 0 ≤ p.k ∧ p.k < 256 ∧ 0 ≤ p.c ∧ p.c < 256) : bL p = [p.k.toNat, p.c.toNat] ++ (putL 2 p.r.toNat ++ (putL 4 p.s.toNat ++ putL 8 p.n.toNat)) := by
  obtain ⟨h1, h2, h3, h4⟩ := h
  unfold bL byL
  have e0 : putL 1 p.k.toNat = [p.k.toNat] := by
    have : p.k.toNat % 256 = p.k.toNat := by omega
    simp [putL, this]
  have e1 : putL 1 p.c.toNat = [p.c.toNat] := by
    have : p.c.toNat % 256 = p.c.toNat := by omega
    simp [putL, this]
  rw [e0, e1]
  rfl
theorem one_small {p : Pg} (h : oneP p = true) : 0 ≤ p.k ∧ p.k < 256 ∧ 0 ≤ p.c ∧ p.c < 256 := by
  rcases oneP_iff.1 h with rfl | rfl | h | h
  · decide
  · decide
  · obtain ⟨h1, h2, h3, h4, h5, h6⟩ := h; omega
  · obtain ⟨h1, h2, h3, h4, h5, h6, h7⟩ := h; omega
theorem own_nonil {W : World} {B n c : Nat} {A : Option Addr} {l : List Nat} (h : BS W B A n c l) (hn : 0 < n) : A = none → c = 0 := fun q => by
  obtain ⟨b', o', e', _⟩ := h.at_ hn
  rw [q] at e'
  cases e'
set_option maxHeartbeats 4000000 in
theorem rbytes_any (A : Option Addr) (n c : Nat) (l : List Pg) (w : World) (h : PS w A n c l) (h16 : n ≤ 16) (hone : l.all oneP = true) :
    Calls Tryd.prog 5 #[.slice A n c] w (Gives w (blkP l)) := by
  have HP := Lib.hid h
  have hln := h.len
  have HLN := Lib.hid hln
  have hcn := h.cap
  have hcm := h.capm
  clear h hln
  have HALL : Hid (∀ k, k < n → oneP (pg l k) = true) := Lib.hid (fun k hk => all_at hone (by rw [HLN.out]; exact hk))
  clear hone
  have HPUT : Hid (∀ (m : Nat) (z : Int), 1 ≤ m → m ≤ 8 → 0 ≤ z → z < 18446744073709551616 → ∀ W, Calls Tryd.prog 13 #[.int .i64 (m : Int), .int .u64 z] W (Gives W (putL m z.toNat))) := Lib.hid (fun m z h1 h8 h0 h64 W => by
    have := refPut_yes m z.toNat h1 h8 (by omega) W
    rw [Int.toNat_of_nonneg h0] at this
    exact this)
  go_enter Tryd.func5, Tryd.ntmps5
  go_wp2
  go_loopw [3, 8] (fun v i W => ∃ k : Nat, i = .int .i64 (k : Int) ∧ k ≤ n ∧ Own W w.heap.size v (flB (l.take k)) ∧ Below w.heap.size w W) (fun _ i _ => n - (intOf i).toNat)
  case atStart => exact ⟨0, rfl, Nat.zero_le _, Own.nil _ _, Below.refl _ _⟩
  case round =>
    obtain ⟨k, rfl, hk, hown, hb⟩ := hrel
    have HB := Lib.hid hb
    have HOW := Lib.hid hown
    clear hown hb
    by_cases hlt : k < n
    · obtain ⟨b, o, rfl, hb0, hcell⟩ := HP.out.cells (by omega)
      have hbW := (hcell _ HB.out).1
      have hp := (hcell _ HB.out).2 k hlt
      have ho := HALL.out k hlt
      have HST := Lib.hid (flB_step (l := l) (k := k) (by rw [HLN.out]; exact hlt))
      have HLK : Hid ((flB (l.take k)).length = 16 * k) := Lib.hid (by rw [flB_len, List.length_take, HLN.out]; omega)
      generalize hpe : pg l k = p at *
      have HB2L := Lib.hid (bL_two p (one_small ho))
      have HSM := Lib.hid (one_small ho)
      have HNAT := Lib.hid (one_nat ho)
      have q0 : IntKind.u8.wrap p.k = p.k := by have := HSM.out; rw [show IntKind.u8.wrap p.k = p.k % 256 by simp [IntKind.wrap, IntKind.signed, IntKind.bits]]; omega
      have q1 : IntKind.u8.wrap p.c = p.c := by have := HSM.out; rw [show IntKind.u8.wrap p.c = p.c % 256 by simp [IntKind.wrap, IntKind.signed, IntKind.bits]]; omega
      have q2 : IntKind.u64.wrap p.r = p.r := by have := HNAT.out; exact wraps_u64 _ (by omega) (by omega)
      have q3 : IntKind.u64.wrap p.s = p.s := by have := HNAT.out; exact wraps_u64 _ (by omega) (by omega)
      have HP2 := Lib.hid (HPUT.out 2 p.r (by omega) (by omega) (by have := HNAT.out; omega) (by have := HNAT.out; omega))
      have HP4 := Lib.hid (HPUT.out 4 p.s (by omega) (by omega) (by have := HNAT.out; omega) (by have := HNAT.out; omega))
      have HP8 := Lib.hid (HPUT.out 8 p.n (by omega) (by omega) (by have := HNAT.out; omega) (by have := HNAT.out; omega))
      clear ho
      obtain ⟨c0, c1, c2, c3, c4⟩ := hp
      have HO2 := Lib.hid ((HOW.out.alloc (.cells #[.int .i64 p.k, .int .i64 p.c, .int .i64 p.r, .int .i64 p.s, .int .u64 p.n] RT)).alloc (.cells #[.int .u8 p.k, .int .u8 p.c] 5))
      have HX2 := Lib.hid (blk_alloc (heap_alloc_new wr (.cells #[.int .i64 p.k, .int .i64 p.c, .int .i64 p.r, .int .i64 p.s, .int .u64 p.n] RT)) (.cells #[.int .u8 p.k, .int .u8 p.c] 5))
      have HB2 := Lib.hid (HB.out.trans (((bel_alloc wr (.cells #[.int .i64 p.k, .int .i64 p.c, .int .i64 p.r, .int .i64 p.s, .int .u64 p.n] RT)).trans ((bel_alloc (wr.alloc (.cells #[.int .i64 p.k, .int .i64 p.c, .int .i64 p.r, .int .i64 p.s, .int .u64 p.n] RT)) (.cells #[.int .u8 p.k, .int .u8 p.c] 5)).mono (bel_alloc wr (.cells #[.int .i64 p.k, .int .i64 p.c, .int .i64 p.r, .int .i64 p.s, .int .u64 p.n] RT)).size)).mono HB.out.size))
      have HT2 := Lib.hid (two_bs (wr.alloc (.cells #[.int .i64 p.k, .int .i64 p.c, .int .i64 p.r, .int .i64 p.s, .int .u64 p.n] RT)) 5 p.k p.c (wr.heap.size + 1) (by simp) HSM.out)
      clear hpe hcell
      go_wp2_with (at_builtin; refine wp_appsK _ rfl _ _ rfl w.heap.size _ (flB (l.take k)) rfl HO2.out _ _ _ _ _ rfl HT2.out (by omega) (by rw [HLK.out]; omega) HB2.out.size ?_; intro v3 w3 hown3 hb3 hg3; have HX3 := Lib.hid (box_app HO2.out HX2.out hg3); have HO3 := Lib.hid hown3; have HB3 := Lib.hid (HB2.out.trans hb3); clear hown3 hb3 hg3 c0 c1 c2 c3 c4 HT2 HO2 HX2; obtain ⟨d0, d1, d2, d3, d4⟩ := five HX3.out)
      refine (HP2.out _).mono ?_
      rintro e w4 ⟨A4, c4, rfl, hb4, hx4⟩
      rw [putL_len] at hx4 ⊢
      have HX4 := Lib.hid ((hb4.block _ (blk_lt HX3.out)).trans HX3.out)
      have HO4 := Lib.hid (HO3.out.below hb4)
      have HB4 := Lib.hid (HB3.out.trans (hb4.mono HB3.out.size))
      have HT4 := Lib.hid hx4
      clear hb4 hx4 d0 d1 d2 d3 d4 HX3 HO3
      have HLL4 : Hid ((flB (l.take k) ++ [p.k.toNat, p.c.toNat]).length = 16 * k + 2) := Lib.hid (by simp only [List.length_append, HLK.out, putL_len, List.length_cons, List.length_nil])
      go_wp2_with (at_builtin; refine wp_appsK _ rfl _ _ rfl w.heap.size _ (flB (l.take k) ++ [p.k.toNat, p.c.toNat]) rfl HO4.out _ _ _ _ _ rfl HT4.out (by omega) (by rw [HLL4.out]; omega) HB4.out.size ?_; intro v5 w5 hown5 hb5 hg5; have HX5 := Lib.hid (box_app HO4.out HX4.out hg5); have HO5 := Lib.hid hown5; have HB5 := Lib.hid (HB4.out.trans hb5); clear hown5 hb5 hg5 HT4 HO4 HX4; obtain ⟨d0, d1, d2, d3, d4⟩ := five HX5.out)
      refine (HP4.out _).mono ?_
      rintro e w6 ⟨A6, c6, rfl, hb6, hx6⟩
      rw [putL_len] at hx6 ⊢
      have HX6 := Lib.hid ((hb6.block _ (blk_lt HX5.out)).trans HX5.out)
      have HO6 := Lib.hid (HO5.out.below hb6)
      have HB6 := Lib.hid (HB5.out.trans (hb6.mono HB5.out.size))
      have HT6 := Lib.hid hx6
      clear hb6 hx6 d0 d1 d2 d3 d4 HX5 HO5
      have HLL6 : Hid ((flB (l.take k) ++ [p.k.toNat, p.c.toNat] ++ putL 2 p.r.toNat).length = 16 * k + 4) := Lib.hid (by simp only [List.length_append, HLK.out, putL_len, List.length_cons, List.length_nil])
      go_wp2_with (at_builtin; refine wp_appsK _ rfl _ _ rfl w.heap.size _ (flB (l.take k) ++ [p.k.toNat, p.c.toNat] ++ putL 2 p.r.toNat) rfl HO6.out _ _ _ _ _ rfl HT6.out (by omega) (by rw [HLL6.out]; omega) HB6.out.size ?_; intro v7 w7 hown7 hb7 hg7; have HX7 := Lib.hid (box_app HO6.out HX6.out hg7); have HO7 := Lib.hid hown7; have HB7 := Lib.hid (HB6.out.trans hb7); clear hown7 hb7 hg7 HT6 HO6 HX6; obtain ⟨d0, d1, d2, d3, d4⟩ := five HX7.out)
      refine (HP8.out _).mono ?_
      rintro e w8 ⟨A8, c8, rfl, hb8, hx8⟩
      rw [putL_len] at hx8 ⊢
      have HX8 := Lib.hid ((hb8.block _ (blk_lt HX7.out)).trans HX7.out)
      have HO8 := Lib.hid (HO7.out.below hb8)
      have HB8 := Lib.hid (HB7.out.trans (hb8.mono HB7.out.size))
      have HT8 := Lib.hid hx8
      clear hb8 hx8 d0 d1 d2 d3 d4 HX7 HO7
      have HLL8 : Hid ((flB (l.take k) ++ [p.k.toNat, p.c.toNat] ++ putL 2 p.r.toNat ++ putL 4 p.s.toNat).length = 16 * k + 8) := Lib.hid (by simp only [List.length_append, HLK.out, putL_len, List.length_cons, List.length_nil])
      have HEND : Hid (flB (l.take (k + 1)) = (flB (l.take k) ++ [p.k.toNat, p.c.toNat] ++ putL 2 p.r.toNat ++ putL 4 p.s.toNat) ++ putL 8 p.n.toNat) := Lib.hid (by rw [HST.out, HB2L.out]; simp only [List.append_assoc])
      go_wp2_with (at_builtin; refine wp_appsK _ rfl _ _ rfl w.heap.size _ (flB (l.take k) ++ [p.k.toNat, p.c.toNat] ++ putL 2 p.r.toNat ++ putL 4 p.s.toNat) rfl HO8.out _ _ _ _ _ rfl HT8.out (by omega) (by rw [HLL8.out]; omega) HB8.out.size ?_; intro v9 w9 hown9 hb9 hg9; have HO9 := Lib.hid hown9; have HB9 := Lib.hid (HB8.out.trans hb9); clear hown9 hb9 hg9 HT8 HO8 HX8; skip)
      go_roundw
      case rel => exact ⟨k + 1, by go_num, by omega, by rw [HEND.out]; exact HO9.out, HB9.out⟩
      case measure => simp [intOf]; omega
    · obtain rfl : k = n := by omega
      have hO := HOW.out
      rw [List.take_of_length_le (by rw [HLN.out]; exact Nat.le_refl _)] at hO
      obtain ⟨A2, c2', rfl, hbs⟩ := hO.bs (flB_byte l)
      have HLL : Hid ((flB l).length ≤ 1000) := Lib.hid (by rw [flB_len, HLN.out]; omega)
      have HPAD := Lib.hid (refPad_any A2 _ c2' 256 (flB l) wr hbs HLL.out)
      clear hO hbs HOW
      generalize (flB l).length = m at *
      go_wp2_with fail
      refine HPAD.out.mono ?_
      rintro e w3 ⟨A3, c3, rfl, hb3, hx3⟩
      rw [blkP_pad] at hx3
      have HX3 := Lib.hid hx3
      have HB3 := Lib.hid (HB.out.trans (hb3.mono HB.out.size))
      rw [blkP_pad]
      clear hb3 hx3
      go_wp2
      go_ret
      exact ⟨A3, c3, rfl, HB3.out, HX3.out⟩
end Go.Proofs.YtooahpfeamobcaaDoor
