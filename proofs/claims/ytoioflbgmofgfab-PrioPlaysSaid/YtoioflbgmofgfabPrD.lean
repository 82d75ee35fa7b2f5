/-
  A queue: Pop of its row; the library's heap: up, down, Push, Pop.
-/
import Derived.Test.YtoioflbgmofgfabPrC
namespace Go.Proofs.Ytoioflbgmofgfab
open Go.RowKit Go
set_option linter.unusedVariables false
set_option linter.unusedSimpArgs false
abbrev HpI (g : Nat) : Value := .iface 82 (.pointer (some ⟨g, 0, none⟩))
theorem meth_less (a : Addr) (w : World) : (method 218 82 (.pointer (some a)) "Less").run Try.prog w = .ok (66, .pointer (some a)) w := by kernel_rfl
theorem meth_swap (a : Addr) (w : World) : (method 218 82 (.pointer (some a)) "Swap").run Try.prog w = .ok (69, .pointer (some a)) w := by kernel_rfl
theorem meth_len (a : Addr) (w : World) : (method 218 82 (.pointer (some a)) "Len").run Try.prog w = .ok (37, .pointer (some a)) w := by kernel_rfl
theorem meth_push (a : Addr) (w : World) : (method 218 82 (.pointer (some a)) "Push").run Try.prog w = .ok (68, .pointer (some a)) w := by kernel_rfl
theorem meth_pop (a : Addr) (w : World) : (method 218 82 (.pointer (some a)) "Pop").run Try.prog w = .ok (67, .pointer (some a)) w := by kernel_rfl
set_option maxHeartbeats 400000 in
set_option maxRecDepth 100000 in
theorem rowpop_cells (g b cap n : Nat) (x : En) (w : World) (k1 : w.cell? ⟨g, 1, none⟩ = some (.slice (some ⟨b, 0, none⟩) (n + 1) cap)) (hc0 : w.cell? ⟨b, n * 3, none⟩ = some (.int .i64 x.n)) (hc1 : w.cell? ⟨b, n * 3 + 1, none⟩ = some (.int .i64 x.m)) (hc2 : w.cell? ⟨b, n * 3 + 2, none⟩ = some (.int .u64 (x.t : Int)))
    (f0 : w.frozen? ⟨b, n * 3, none⟩ = false) (f1 : w.frozen? ⟨b, n * 3 + 1, none⟩ = false) (f2 : w.frozen? ⟨b, n * 3 + 2, none⟩ = false) (fg : w.frozen? ⟨g, 1, none⟩ = false) (hm : n ≤ 1000000000) (hcap : n + 1 ≤ cap) (hcm : cap ≤ 9223372036854775807) (hgl : g < w.heap.size) (hbl : b < w.heap.size) (hgb : g < b) :
    Calls Try.prog 67 #[.pointer (some ⟨g, 0, none⟩)] w fun e w' => e = .returned (.iface EnT (.agg x.cells.toArray)) ∧ w' = (((w.setCells b (n * 3) e0.cells).setCell ⟨g, 1, none⟩ (.slice (some ⟨b, 0, none⟩) n cap)).alloc (.cells x.cells.toArray EnT)) := by
  go_enter Try.func67, Try.ntmps67
  go_wp2
  go_ret
  exact ⟨rfl, rfl⟩
theorem rowpop_any (g t : Nat) (v : Value) (es : List En) (w : World) (h : Qu w g v es t) (hl : 0 < es.length) (hm : es.length ≤ 1000000000) :
    Calls Try.prog 67 #[.pointer (some ⟨g, 0, none⟩)] w fun e w' => e = .returned (.iface EnT (.agg (ea es (es.length - 1)).cells.toArray)) ∧ Qed w g v (es.take (es.length - 1)) t w' := by
  obtain ⟨b, cap, rfl, hb⟩ := h.pos hl
  obtain ⟨A, c, hv, hcm, hcap, _⟩ := h.own.form
  injection hv with _ _ hcc
  subst hcc
  have a := h.own.at_ (i := es.length - 1) (by omega)
  have hbl := (h.own.lt b (by rfl)).2
  obtain ⟨n, hn⟩ : ∃ n, es.length = n + 1 := ⟨es.length - 1, by omega⟩
  have hn1 : es.length - 1 = n := by omega
  rw [hn1] at a ⊢
  have k1 := h.dev.l
  rw [hn] at k1
  refine (rowpop_cells g b cap n (ea es n) w k1 a.c0 a.c1 a.c2 (a.there 0 (by omega)).2 (a.there 1 (by omega)).2 (a.there 2 (by omega)).2 (h.dev.free 1) (by omega) (by omega) hcm h.dev.lt hbl hb).mono ?_
  rintro e w' ⟨he, rfl⟩
  refine ⟨he, ?_, ?_⟩
  · refine Turns.trans (S' := fun _ => False) ?_ (Turns.of_below ((Below.refl _ _).alloc (Nat.le_refl _) _)) (fun _ _ q => q.elim)
    refine Turns.trans (S' := fun j => j = g) (W1 := w.setCells b (n * 3) e0.cells) ?_ (Turns.set _ _ rfl) (fun j _ q => .inl q)
    exact ⟨os_setCells b e0.cells _ _, tape_setCells b e0.cells _ _, output_setCells b e0.cells _ _, Nat.le_of_eq (size_setCells b e0.cells _ _).symm, fun j _ hn => heap_setCells b e0.cells _ _ j (fun e => hn (.inr (by rw [e]; rfl)))⟩
  · have h1 := (h.own.put (i := n) (by omega) e0).cut (k := n) (by rw [List.length_set]; omega)
    have e1 : (es.set n e0).take n = es.take n := by rw [List.take_set, List.set_eq_of_length_le (by rw [List.length_take]; omega)]
    rw [e1] at h1
    have hd : QuB (w.setCells b (n * 3) e0.cells) g (.slice (some ⟨b, 0, none⟩) es.length cap) t := (heap_setCells b e0.cells (n * 3) w g (by omega)).trans h.dev
    generalize w.setCells b (n * 3) e0.cells = V at *
    refine ⟨.slice (some ⟨b, 0, none⟩) n cap, Qu.next (W := V.setCell ⟨g, 1, none⟩ (.slice (some ⟨b, 0, none⟩) n cap)) ⟨?_, ?_⟩ ((Below.refl _ _).alloc (Nat.le_refl _) _), .inl rfl⟩
    · have := blk_set hd 1 (.slice (some ⟨b, 0, none⟩) n cap)
      unfold QuB
      rw [this]; rfl
    · exact h1.keep fun q hq => Below.heap_setCell _ _ _ _ (by
        have := (h1.lt q hq).1
        show q ≠ g
        omega)
def UpR (g t : Nat) (v : Value) (es0 : List En) (j0 : Nat) (w0 : World) (j1 : Value) (W : World) : Prop :=
  ∃ (k : Nat) (es : List En), j1 = .int .i64 (k : Int) ∧ k < es.length ∧ es.length = es0.length ∧ upF es k = upF es0 j0 ∧ Qu W g v es t ∧ Turns (fun q => v.ownBlock = some q) w0 W
theorem upF_stop {es : List En} {k : Nat} (h : enLt (ea es k) (ea es ((k - 1) / 2)) = false) : upF es k = es := by
  rw [upF]; split
  · rw [if_neg (by rw [h]; decide)]
  · rfl
theorem upF_go {es : List En} {k : Nat} (h0 : 0 < k) (h : enLt (ea es k) (ea es ((k - 1) / 2)) = true) : upF es k = upF (sw es ((k - 1) / 2) k) ((k - 1) / 2) := by
  rw [upF, dif_pos h0, if_pos h]
set_option maxHeartbeats 1000000 in
set_option maxRecDepth 100000 in
theorem up_any (g j t : Nat) (v : Value) (es : List En) (w : World) (h : Qu w g v es t) (hj : j < es.length) (hm : es.length ≤ 1000000000) :
    Calls Try.prog 42 #[HpI g, .int .i64 (j : Int)] w fun e w' => e = .returned (.tuple #[]) ∧ Qu w' g v (upF es j) t ∧ Turns (fun q => v.ownBlock = some q) w w' := by
  have hml := meth_less
  have hms := meth_swap
  have HST : Hid (UpR g t v es j w (.int .i64 (j : Int)) w) := Lib.hid ⟨j, es, rfl, hj, rfl, rfl, h, ⟨rfl, rfl, rfl, Nat.le_refl _, fun _ _ _ => rfl⟩⟩
  clear h
  go_enter Try.func42, Try.ntmps42
  go_wp2_with fail
  go_loopw [1] (fun j1 W => UpR g t v es j w j1 W) (fun j1 _ => (intOf j1).toNat)
  case atStart => exact HST.out
  case round =>
    obtain ⟨k, es1, rfl, hk, hl, hu, hq, ht⟩ := hrel
    have hkm : k ≤ 1000000000 := by omega
    have HU := Lib.hid hu
    have HQ := Lib.hid hq
    have HT := Lib.hid ht
    have HL := Lib.hid hl
    clear hu hq ht hl HST
    by_cases h0 : 0 < k
    · obtain ⟨p, hp⟩ : ∃ p, (k - 1) / 2 = p := ⟨_, rfl⟩
      have hpk : p < k := by omega
      have hpi : ((k : Int) - 1) / 2 = (p : Int) := by omega
      have hne : ((p : Int) == (k : Int)) = false := by rw [beq_eq_false_iff_ne]; omega
      have HP := Lib.hid hp
      clear hp
      have HLS := Lib.hid (lessq_any g k p t v es1 wr HQ.out hk (by omega) (by rw [HL.out]; exact hm))
      cases hb : enLt (ea es1 k) (ea es1 p)
      · rw [hb] at HLS
        have HB := Lib.hid hb
        clear hb
        go_wp2_with fail
        refine HLS.out.mono ?_
        rintro e w1 ⟨rfl, hb1⟩
        have HB1 := Lib.hid hb1
        clear hb1
        go_wp2_with fail
        go_end0
        have hst := upF_stop (es := es1) (k := k) (by rw [HP.out]; exact HB.out)
        exact ⟨rfl, by rw [← HU.out, hst]; exact HQ.out.next HB1.out, HT.out.trans (S' := fun _ => False) (Turns.of_below HB1.out) (fun _ _ q => q.elim)⟩
      · rw [hb] at HLS
        have HB := Lib.hid hb
        clear hb
        go_wp2_with fail
        refine HLS.out.mono ?_
        rintro e w1 ⟨rfl, hb1⟩
        have HB1 := Lib.hid hb1
        clear hb1
        have HSW := Lib.hid (swapq_any g p k t v es1 w1 (HQ.out.next HB1.out) (by omega) hk (by rw [HL.out]; exact hm))
        go_wp2_with fail
        refine HSW.out.mono ?_
        rintro e w2 ⟨rfl, hq2, ht2⟩
        have HQ2 := Lib.hid hq2
        have HT2 := Lib.hid ht2
        clear hq2 ht2
        go_wp2_with fail
        go_roundw
        case rel =>
          refine ⟨p, sw es1 p k, rfl, by rw [sw_len]; omega, by rw [sw_len]; exact HL.out, ?_, HQ2.out, (HT.out.trans (S' := fun _ => False) (Turns.of_below HB1.out) (fun _ _ q => q.elim)).trans HT2.out (fun _ _ q => q)⟩
          rw [← HU.out, upF_go h0 (by rw [HP.out]; exact HB.out), HP.out]
        case measure => simp [intOf]; omega
    · obtain rfl : k = 0 := by omega
      have HE : Hid (upF es1 0 = es1) := Lib.hid (by rw [upF, dif_neg (by omega)])
      go_wp2_with fail
      go_end0
      exact ⟨rfl, by rw [← HU.out, HE.out]; exact HQ.out, HT.out⟩
def DnR (g t n : Nat) (v : Value) (es0 : List En) (i0 : Nat) (w0 : World) (i1 : Value) (W : World) : Prop :=
  ∃ (k : Nat) (es : List En), i1 = .int .i64 (k : Int) ∧ k < es.length ∧ es.length = es0.length ∧ dnF es k n = dnF es0 i0 n ∧ Qu W g v es t ∧ Turns (fun q => v.ownBlock = some q) w0 W
def DnE (g t n : Nat) (v : Value) (es0 : List En) (i0 : Nat) (w0 : World) (e : Ending) (w' : World) : Prop :=
  ∃ b : Bool, e = .returned (.bool b) ∧ Qu w' g v (dnF es0 i0 n) t ∧ Turns (fun q => v.ownBlock = some q) w0 w'
theorem dnF_stop {es : List En} {i n : Nat} (h : enLt (ea es (dnC es i n)) (ea es i) = false) : dnF es i n = es := by
  rw [dnF]; split
  · rw [if_neg (by rw [h]; decide)]
  · rfl
theorem dnF_go {es : List En} {i n : Nat} (h0 : 2 * i + 1 < n) (h : enLt (ea es (dnC es i n)) (ea es i) = true) : dnF es i n = dnF (sw es i (dnC es i n)) (dnC es i n) n := by
  rw [dnF, dif_pos h0, if_pos h]
set_option maxHeartbeats 2000000 in
set_option maxRecDepth 100000 in
theorem down_any (g i n t : Nat) (v : Value) (es : List En) (w : World) (h : Qu w g v es t) (hi : i < es.length) (hn : n ≤ es.length) (hm : es.length ≤ 1000000000) :
    Calls Try.prog 46 #[HpI g, .int .i64 (i : Int), .int .i64 (n : Int)] w (DnE g t n v es i w) := by
  have hml := meth_less
  have hms := meth_swap
  have HST : Hid (DnR g t n v es i w (.int .i64 (i : Int)) w) := Lib.hid ⟨i, es, rfl, hi, rfl, rfl, h, ⟨rfl, rfl, rfl, Nat.le_refl _, fun _ _ _ => rfl⟩⟩
  clear h
  go_enter Try.func46, Try.ntmps46
  go_wp2_with fail
  go_loopw [7] (fun i1 W => DnR g t n v es i w i1 W) (fun i1 _ => n - (intOf i1).toNat)
  case atStart => exact HST.out
  case round =>
    obtain ⟨k, es1, rfl, hk, hl, hu, hq, ht⟩ := hrel
    have hkm : k ≤ 1000000000 := by omega
    have hnm : n ≤ es1.length := by omega
    have HU := Lib.hid hu
    have HQ := Lib.hid hq
    have HT := Lib.hid ht
    have HL := Lib.hid hl
    clear hu hq ht hl HST
    obtain ⟨c1, hc1⟩ : ∃ c1, c1 = 2 * k + 1 := ⟨_, rfl⟩
    have he1 : 2 * (k : Int) + 1 = (c1 : Int) := by omega
    have hcb : c1 ≤ 2000000001 := by omega
    by_cases hA : c1 < n
    · obtain ⟨c2, hc2⟩ : ∃ c2, c2 = c1 + 1 := ⟨_, rfl⟩
      have he2 : (c1 : Int) + 1 = (c2 : Int) := by omega
      have q1 : 2 * k + 1 ≤ c1 := by omega
      have q2 : c1 ≤ 2 * k + 1 := by omega
      have q3 : 2 * k + 2 ≤ c2 := by omega
      have q4 : c2 ≤ 2 * k + 2 := by omega
      have HC1 : Hid (c1 = 2 * k + 1) := Lib.hid hc1
      have HC2 : Hid (c2 = 2 * k + 2) := Lib.hid (by omega)
      clear hc1 hc2
      by_cases hB : c2 < n
      · have HLA := Lib.hid (lessq_any g c2 c1 t v es1 wr HQ.out (by omega) (by omega) (by rw [HL.out]; exact hm))
        cases hd : enLt (ea es1 c2) (ea es1 c1)
        · rw [hd] at HLA
          have HC : Hid (dnC es1 k n = c1) := Lib.hid (by unfold dnC; rw [← HC2.out, ← HC1.out, if_neg (by rw [hd]; simp)])
          clear hd
          go_wp2_with fail
          refine HLA.out.mono ?_
          rintro e w1 ⟨rfl, hb1⟩
          have HQ1 := Lib.hid (HQ.out.next hb1)
          have HT1 : Hid (Turns (fun q => v.ownBlock = some q) w w1) := Lib.hid (HT.out.trans (S' := fun _ => False) (Turns.of_below hb1) (fun _ _ q => q.elim))
          clear hb1
          have HLS := Lib.hid (lessq_any g c1 k t v es1 w1 HQ1.out (by omega) (by omega) (by rw [HL.out]; exact hm))
          cases hb : enLt (ea es1 c1) (ea es1 k)
          · rw [hb] at HLS
            have HB := Lib.hid hb
            clear hb
            go_wp2_with fail
            refine HLS.out.mono ?_
            rintro e w2 ⟨rfl, hb2⟩
            have HB2 := Lib.hid hb2
            clear hb2
            go_wp2_with fail
            go_ret
            have hst := dnF_stop (es := es1) (i := k) (n := n) (by rw [HC.out]; exact HB.out)
            exact ⟨_, rfl, by rw [← HU.out, hst]; exact HQ1.out.next HB2.out, HT1.out.trans (S' := fun _ => False) (Turns.of_below HB2.out) (fun _ _ q => q.elim)⟩
          · rw [hb] at HLS
            have HB := Lib.hid hb
            clear hb
            go_wp2_with fail
            refine HLS.out.mono ?_
            rintro e w2 ⟨rfl, hb2⟩
            have HB2 := Lib.hid hb2
            clear hb2
            have HSW := Lib.hid (swapq_any g k c1 t v es1 w2 (HQ1.out.next HB2.out) (by omega) (by omega) (by rw [HL.out]; exact hm))
            go_wp2_with fail
            refine HSW.out.mono ?_
            rintro e w3 ⟨rfl, hq3, ht3⟩
            have HQ3 := Lib.hid hq3
            have HT3 := Lib.hid ht3
            clear hq3 ht3
            go_wp2_with fail
            go_roundw
            case rel =>
              refine ⟨c1, sw es1 k c1, rfl, by rw [sw_len]; omega, by rw [sw_len]; exact HL.out, ?_, HQ3.out, (HT1.out.trans (S' := fun _ => False) (Turns.of_below HB2.out) (fun _ _ q => q.elim)).trans HT3.out (fun _ _ q => q)⟩
              have hgo := dnF_go (es := es1) (i := k) (n := n) (by omega) (by rw [HC.out]; exact HB.out)
              rw [HC.out] at hgo
              rw [← HU.out]
              exact hgo.symm
            case measure => simp [intOf]; omega
        · rw [hd] at HLA
          have HC : Hid (dnC es1 k n = c2) := Lib.hid (by unfold dnC; rw [← HC2.out, ← HC1.out, if_pos ⟨hB, hd⟩])
          clear hd
          go_wp2_with fail
          refine HLA.out.mono ?_
          rintro e w1 ⟨rfl, hb1⟩
          have HQ1 := Lib.hid (HQ.out.next hb1)
          have HT1 : Hid (Turns (fun q => v.ownBlock = some q) w w1) := Lib.hid (HT.out.trans (S' := fun _ => False) (Turns.of_below hb1) (fun _ _ q => q.elim))
          clear hb1
          have HLS := Lib.hid (lessq_any g c2 k t v es1 w1 HQ1.out (by omega) (by omega) (by rw [HL.out]; exact hm))
          cases hb : enLt (ea es1 c2) (ea es1 k)
          · rw [hb] at HLS
            have HB := Lib.hid hb
            clear hb
            go_wp2_with fail
            refine HLS.out.mono ?_
            rintro e w2 ⟨rfl, hb2⟩
            have HB2 := Lib.hid hb2
            clear hb2
            go_wp2_with fail
            go_ret
            have hst := dnF_stop (es := es1) (i := k) (n := n) (by rw [HC.out]; exact HB.out)
            exact ⟨_, rfl, by rw [← HU.out, hst]; exact HQ1.out.next HB2.out, HT1.out.trans (S' := fun _ => False) (Turns.of_below HB2.out) (fun _ _ q => q.elim)⟩
          · rw [hb] at HLS
            have HB := Lib.hid hb
            clear hb
            go_wp2_with fail
            refine HLS.out.mono ?_
            rintro e w2 ⟨rfl, hb2⟩
            have HB2 := Lib.hid hb2
            clear hb2
            have HSW := Lib.hid (swapq_any g k c2 t v es1 w2 (HQ1.out.next HB2.out) (by omega) (by omega) (by rw [HL.out]; exact hm))
            go_wp2_with fail
            refine HSW.out.mono ?_
            rintro e w3 ⟨rfl, hq3, ht3⟩
            have HQ3 := Lib.hid hq3
            have HT3 := Lib.hid ht3
            clear hq3 ht3
            go_wp2_with fail
            go_roundw
            case rel =>
              refine ⟨c2, sw es1 k c2, rfl, by rw [sw_len]; omega, by rw [sw_len]; exact HL.out, ?_, HQ3.out, (HT1.out.trans (S' := fun _ => False) (Turns.of_below HB2.out) (fun _ _ q => q.elim)).trans HT3.out (fun _ _ q => q)⟩
              have hgo := dnF_go (es := es1) (i := k) (n := n) (by omega) (by rw [HC.out]; exact HB.out)
              rw [HC.out] at hgo
              rw [← HU.out]
              exact hgo.symm
            case measure => simp [intOf]; omega
      · have HC : Hid (dnC es1 k n = c1) := Lib.hid (by unfold dnC; rw [← HC2.out, ← HC1.out, if_neg (fun q => hB q.1)])
        have HQ1 := HQ
        have HT1 := HT
        obtain ⟨w1, hw1⟩ : ∃ w1, w1 = wr := ⟨_, rfl⟩
        rw [← hw1] at HQ1 HT1 ⊢
        clear hw1
        have HLS := Lib.hid (lessq_any g c1 k t v es1 w1 HQ1.out (by omega) (by omega) (by rw [HL.out]; exact hm))
        cases hb : enLt (ea es1 c1) (ea es1 k)
        · rw [hb] at HLS
          have HB := Lib.hid hb
          clear hb
          go_wp2_with fail
          refine HLS.out.mono ?_
          rintro e w2 ⟨rfl, hb2⟩
          have HB2 := Lib.hid hb2
          clear hb2
          go_wp2_with fail
          go_ret
          have hst := dnF_stop (es := es1) (i := k) (n := n) (by rw [HC.out]; exact HB.out)
          exact ⟨_, rfl, by rw [← HU.out, hst]; exact HQ1.out.next HB2.out, HT1.out.trans (S' := fun _ => False) (Turns.of_below HB2.out) (fun _ _ q => q.elim)⟩
        · rw [hb] at HLS
          have HB := Lib.hid hb
          clear hb
          go_wp2_with fail
          refine HLS.out.mono ?_
          rintro e w2 ⟨rfl, hb2⟩
          have HB2 := Lib.hid hb2
          clear hb2
          have HSW := Lib.hid (swapq_any g k c1 t v es1 w2 (HQ1.out.next HB2.out) (by omega) (by omega) (by rw [HL.out]; exact hm))
          go_wp2_with fail
          refine HSW.out.mono ?_
          rintro e w3 ⟨rfl, hq3, ht3⟩
          have HQ3 := Lib.hid hq3
          have HT3 := Lib.hid ht3
          clear hq3 ht3
          go_wp2_with fail
          go_roundw
          case rel =>
            refine ⟨c1, sw es1 k c1, rfl, by rw [sw_len]; omega, by rw [sw_len]; exact HL.out, ?_, HQ3.out, (HT1.out.trans (S' := fun _ => False) (Turns.of_below HB2.out) (fun _ _ q => q.elim)).trans HT3.out (fun _ _ q => q)⟩
            have hgo := dnF_go (es := es1) (i := k) (n := n) (by omega) (by rw [HC.out]; exact HB.out)
            rw [HC.out] at hgo
            rw [← HU.out]
            exact hgo.symm
          case measure => simp [intOf]; omega
    · have HE : Hid (dnF es1 k n = es1) := Lib.hid (by rw [dnF, dif_neg (by omega)])
      clear hc1
      go_wp2_with fail
      go_ret
      exact ⟨_, rfl, by rw [← HU.out, HE.out]; exact HQ.out, HT.out⟩
set_option maxHeartbeats 400000 in
theorem heappush_any (g t : Nat) (v : Value) (es : List En) (x : En) (w : World) (h : Qu w g v es t) (hm : es.length < 1000000000) :
    Calls Try.prog 35 #[HpI g, .iface EnT (.agg x.cells.toArray)] w fun e w' => e = .returned (.tuple #[]) ∧ Qed w g v (pushF es x) t w' := by
  have hmp := meth_push
  have hml := meth_len
  have HPU := Lib.hid (rowpush_any g t v es x w h (by omega))
  clear h
  go_enter Try.func35, Try.ntmps35
  go_wp2_with fail
  refine HPU.out.mono ?_
  rintro e w1 ⟨rfl, ht1, v1, hq1, hv1⟩
  have hlen : (es ++ [x]).length = es.length + 1 := by simp
  have HLE := Lib.hid (lenq_any g t v1 (es ++ [x]) w1 hq1)
  rw [hlen] at HLE
  have HUP := Lib.hid (up_any g es.length t v1 (es ++ [x]) w1 hq1 (by rw [hlen]; omega) (by rw [hlen]; omega))
  have H := Lib.hid (And.intro ht1 hv1)
  clear ht1 hv1 hq1 hlen
  go_wp2_with fail
  refine HLE.out.mono ?_
  rintro e w2 ⟨rfl, rfl⟩
  go_wp2_with fail
  refine HUP.out.mono ?_
  rintro e w3 ⟨rfl, hq3, ht3⟩
  have H3 := Lib.hid (And.intro hq3 ht3)
  clear hq3 ht3
  go_wp2_with fail
  go_end0
  refine ⟨rfl, H.out.1.trans H3.out.2 (fun j hj q => ?_), v1, H3.out.1, H.out.2⟩
  rcases H.out.2 with e | ⟨j', h1, h2⟩
  · exact .inr (e ▸ q)
  · rw [h2] at q; injection q with q; omega
set_option maxHeartbeats 1000000 in
theorem heappop_any (g t : Nat) (v : Value) (es : List En) (w : World) (h : Qu w g v es t) (hl : 0 < es.length) (hm : es.length ≤ 1000000000) :
    Calls Try.prog 43 #[HpI g] w fun e w' => e = .returned (.iface EnT (.agg (popE es).cells.toArray)) ∧ Qed w g v (popF es) t w' := by
  have hmp := meth_pop
  have hml := meth_len
  have hms := meth_swap
  obtain ⟨n, hn⟩ : ∃ n, es.length = n + 1 := ⟨es.length - 1, by omega⟩
  have hn1 : es.length - 1 = n := by omega
  have HLE := Lib.hid (lenq_any g t v es w h)
  rw [hn] at HLE
  have HSW := Lib.hid (swapq_any g 0 n t v es w h hl (by omega) hm)
  have hnm : n + 1 ≤ 1000000000 := by omega
  have HM := Lib.hid hm
  have HN := Lib.hid hn
  have HN1 := Lib.hid hn1
  clear h hl hm hn hn1
  go_enter Try.func43, Try.ntmps43
  go_wp2_with fail
  refine HLE.out.mono ?_
  rintro e w1 ⟨rfl, rfl⟩
  go_wp2_with fail
  refine HSW.out.mono ?_
  rintro e w2 ⟨rfl, hq2, ht2⟩
  have HDN := Lib.hid (down_any g 0 n t v (sw es 0 n) w2 hq2 (by rw [sw_len, HN.out]; omega) (by rw [sw_len, HN.out]; omega) (by rw [sw_len]; exact HM.out))
  have HT2 := Lib.hid ht2
  clear hq2 ht2
  go_wp2_with fail
  refine HDN.out.mono ?_
  rintro e w3 ⟨bb, rfl, hq3, ht3⟩
  have hlD : (dnF (sw es 0 n) 0 n).length = n + 1 := by rw [(dnF_props n (sw es 0 n) 0 n (by omega) (by rw [sw_len, HN.out]; omega) (by rw [sw_len, HN.out]; omega)).1, sw_len, HN.out]
  have HPO := Lib.hid (rowpop_any g t v (dnF (sw es 0 n) 0 n) w3 hq3 (by omega) (by omega))
  have HT3 := Lib.hid ht3
  rw [hlD, Nat.add_sub_cancel] at HPO
  clear hq3 ht3 hlD
  go_wp2_with fail
  refine HPO.out.mono ?_
  rintro e w4 ⟨rfl, hq4⟩
  have HQ4 := Lib.hid hq4
  clear hq4
  go_wp2_with fail
  go_ret
  have e1 : popE es = ea (dnF (sw es 0 n) 0 n) n := by unfold popE; rw [HN1.out]
  have e2 : popF es = (dnF (sw es 0 n) 0 n).take n := by unfold popF; rw [HN1.out]
  rw [e1, e2]
  obtain ⟨h4, v4, h5, h6⟩ := HQ4.out
  have h23 := HT2.out.trans HT3.out (fun j _ q => q)
  refine ⟨rfl, (h23.mono (S := fun j => j = g ∨ v.ownBlock = some j) (fun j _ q => .inr q)).trans h4 (fun j _ q => q), v4, h5, ?_⟩
  rcases h6 with h6 | ⟨j, h6, h7⟩
  · exact .inl h6
  · exact .inr ⟨j, Nat.le_trans h23.size h6, h7⟩
end Go.Proofs.Ytoioflbgmofgfab
