/-
  Heads of roots: their blocks, the program's and the document's.
-/
import Derived.Test.YtfnppoagmambgaaHoC
namespace Go.Proofs.Ytfnppoagmambgaa
open Go.RowKit Go
set_option linter.unusedVariables false
set_option linter.unusedSimpArgs false
set_option maxRecDepth 100000
theorem rowOf_bvals (f : Nat → Nat) (n : Nat) : (rowOf f n n).toList.take n = bvals ((List.range n).map f) := by
  apply List.ext_getElem?
  intro i
  by_cases h : i < n
  · rw [List.getElem?_take_of_lt h, Array.getElem?_toList, rowOf_at f n n (Nat.le_refl _) i h]
    simp [bvals, List.getElem?_map, List.getElem?_range h]
  · rw [List.getElem?_eq_none (by rw [List.length_take]; omega), List.getElem?_eq_none (by simp [bvals]; omega)]
theorem putO (n v : Nat) (h1 : 1 ≤ n) (h8 : n ≤ 8) (hv : v < 2 ^ 64) (w : World) :
    Calls Try.prog 23 #[.int .i64 (n : Int), .int .u64 (v : Int)] w (GivesO w (putL n v)) := by
  have hz : ∀ w : World, (zeroValue 75).run Try.prog w = .ok (.agg #[.int .i64 0]) w := fun _ => by kernel_rfl
  go_enter Try.func23, Try.ntmps23
  go_wp2_with fail
  refine (spell_up n v _ h1 h8 hv _ (heap_alloc_new w _)).mono ?_
  rintro e w' ⟨rfl, hb, hx⟩
  have e0 : ∀ o, (w.alloc o).heap.size = w.heap.size + 1 := fun o => by simp
  rw [e0] at hx
  have hg : GivesO w (putL n v) (.returned (.slice (some ⟨w.heap.size + 1, 0, none⟩) n n)) _ := ⟨_, rfl, Own.blk (by omega) hx (putL_len n v) (Nat.le_refl _) (by unfold maxLen; omega) (rowOf_size _ _ _) (rowOf_bvals _ _), get_bel hb⟩
  have HG := Lib.hid hg
  clear hb hx hg
  go_wp2
  go_ret
  exact HG.out
theorem refPutO (n v : Nat) (h1 : 1 ≤ n) (h8 : n ≤ 8) (hv : v < 2 ^ 64) (w : World) :
    Calls Try.prog 29 #[.int .i64 (n : Int), .int .u64 (v : Int)] w (GivesO w (putL n v)) := by
  go_enter Try.func29, Try.ntmps29
  go_wp2
  go_loopw [5, 6, 1] (fun b i x wr => RefPutRel w v n b i x wr) (fun _ i _ _ => (n - intOf i).toNat)
  case atStart => exact ⟨0, rfl, by simp, by omega, Own.nil _ _, Below.refl _ _⟩
  case round =>
    obtain ⟨k, rfl, rfl, hk, hown, hb⟩ := hrel
    by_cases hlt : k < n
    · have hq : v / 256 ^ k < 2 ^ 64 := Nat.lt_of_le_of_lt (Nat.div_le_self _ _) hv
      have hlen := putL_len k v
      have hB := hb.size
      generalize hQ : v / 256 ^ k = q at *
      have HQ := Lib.hid hQ
      have HL := Lib.hid hlen
      have hln : (putL k v).length ≤ 8 := by omega
      clear hQ hlen
      go_wp2_with (at_builtin; refine wp_app _ rfl _ _ rfl _ _ _ _ (q % 256) rfl hown rfl (by omega) (by omega) hB ?_; intro v' w1 hown1 hb1)
      go_roundw
      case rel =>
        refine ⟨k + 1, rfl, ?_, by omega, ?_, hb.trans hb1⟩
        · rw [Nat.pow_succ, ← Nat.div_div_eq_div_mul, HQ.out]; rfl
        · rw [putL_succ, HQ.out]; exact hown1
      case measure => simp [intOf]; omega
    · obtain rfl : k = n := by omega
      have H : Hid (GivesO w (putL k v) (.returned u5) wr) := Lib.hid ⟨_, rfl, hown, hb⟩
      clear hown
      go_wp2
      go_ret
      exact H.out
/-- a head's block -/
def headL (l : List Nat) : List Nat := padL (blkL 8 l) 256
theorem headL_len (l : List Nat) : (headL l).length = 256 := padL_len _ _
theorem headL_byte (l : List Nat) (i : Nat) : (headL l).getD i 0 < 256 := padL_byte (blkL_byte 8 l) _ _
theorem blkL_one {l : List Nat} (hl : l.length = 17) : blkL 8 (l.take 1) = putL 8 (l.getD 0 0) := by
  have := blkL_step 8 (l := l) (k := 0) (by omega)
  rw [this]; simp [blkL]
/-- the first k roots stand behind the next serial -/
def AppR (w : World) (t : TypeId) (l : List Nat) (v i : Value) (wr : World) : Prop :=
  ∃ k : Nat, i = .int .i64 (k : Int) ∧ k ≤ 16 ∧ Below w.heap.size w wr ∧ Row wr w.heap.size t (uF l) 17 ∧ Own wr (w.heap.size + 1) v (blkL 8 (l.take (k + 1)))
theorem own_nil {w : World} {B : Nat} {v : Value} {l : List Nat} (h : Own w B v l) (hl : 0 < l.length) : ∃ g cap, v = .slice (some ⟨g, 0, none⟩) l.length cap ∧ B ≤ g := by
  obtain ⟨h1, h2⟩ := h
  rcases h2 with ⟨rfl, h2⟩ | ⟨g, cap, cur, rfl, hg, _⟩
  · exfalso; omega
  · exact ⟨g, cap, rfl, hg⟩
def BytesH (w : World) (l : List Nat) (e : Ending) (w' : World) : Prop :=
  ∃ A c, e = .returned (.tuple #[.slice A 256 c, .int .i64 0]) ∧ Below w.heap.size w w' ∧ BS w' w'.heap.size A 256 c (headL l)
set_option maxHeartbeats 2000000 in
theorem rhead_any (l : List Nat) (hl : l.length = 17) (h64 : ∀ i, l.getD i 0 < 2 ^ 64) (w : World) :
    Calls Try.prog 19 #[.agg (rtV l)] w (Gives w (headL l)) := by
  have hz := zero_rtr
  obtain ⟨V, hV⟩ : ∃ V, V = w.alloc (.cells (rtV l) 40) := ⟨_, rfl⟩
  have hr : Row V w.heap.size 40 (uF l) 17 := by rw [hV]; exact Row.new w _ _ _
  have hb0 : Below w.heap.size w V := by rw [hV]; exact (Below.refl _ _).alloc (Nat.le_refl _) _
  have hszV : V.heap.size = w.heap.size + 1 := by rw [hV]; simp
  have HIA := Lib.hid (info_arr l)
  have HIR := Lib.hid (info_rtr l)
  have HIX := Lib.hid (fun j hj W => index_r l j hj W)
  have H64 := Lib.hid h64
  have HLEN := Lib.hid hl
  have hc0 : (rtV l)[0]? = some (.int .u64 ((l.getD 0 0 : Nat) : Int)) := rowV_at (uF l) (by omega)
  have HBO := Lib.hid (blkL_one hl)
  have HP0 := Lib.hid (fun W => refPutO 8 (l.getD 0 0) (by omega) (by omega) (h64 0) W)
  have HB0 := Lib.hid hb0
  have HR0 := Lib.hid hr
  have HSZ0 := Lib.hid hszV
  have HV := Lib.hid hV
  obtain ⟨n, hn⟩ : ∃ n, n = l.getD 0 0 := ⟨_, rfl⟩
  obtain ⟨rt, hrt⟩ : ∃ z, z = rtV l := ⟨_, rfl⟩
  obtain ⟨ar, har⟩ : ∃ z, z = arV l := ⟨_, rfl⟩
  rw [← hn] at hc0 HBO HP0
  rw [← hrt] at hc0 HV HIR ⊢
  rw [← har] at HIA HIX
  have HAR := Lib.hid har
  clear hV hr hb0 h64 hl hszV hrt har hn
  go_enter Try.func19, Try.ntmps19
  go_wp2_with fail
  rw [← HV.out]
  refine (HP0.out _).mono ?_
  rintro e w1 ⟨v1, rfl, hown1, hb1⟩
  have hr1 := HR0.out.below hb1 HR0.out.lt
  have HMID := Lib.hid (rt_mid hr1)
  rw [← HBO.out, HSZ0.out] at hown1
  have H0 : Hid (AppR w 40 l v1 (.int .i64 0) w1) := Lib.hid ⟨0, rfl, by omega, HB0.out.trans (hb1.mono HB0.out.size), hr1, hown1⟩
  clear hown1 hb1 hr1
  have HMID2 : Hid (w1.rangeAt w.heap.size 1 ar.toList) := Lib.hid (by rw [HAR.out]; exact HMID.out)
  go_wp2_with (with_reducible refine wpList_load_mid rfl 38 (.tmp 9) rfl w.heap.size 1 rfl ar.toList _ HMID2.out Try.underlying38 rfl HIA.out ?_)
  go_loopw [3, 11] (fun v i wr => AppR w 40 l v i wr) (fun _ i _ => (16 - intOf i).toNat)
  case atStart => exact H0.out
  case round =>
    obtain ⟨k, rfl, hk, hb, hr, hown⟩ := hrel
    by_cases hlt : k < 16
    · have hi := HIX.out k hlt
      have HPU := Lib.hid (fun W => refPutO 8 (l.getD (k + 1) 0) (by omega) (by omega) (H64.out (k + 1)) W)
      have HB := Lib.hid hb
      have HR := Lib.hid hr
      have HO := Lib.hid hown
      have HST := Lib.hid (blkL_step 8 (l := l) (k := k + 1) (by rw [HLEN.out]; omega))
      have HLN : Hid ((blkL 8 (l.take (k + 1))).length ≤ 136) := Lib.hid (by rw [blkL_len, List.length_take, HLEN.out]; omega)
      have hpl := putL_len 8 (l.getD (k + 1) 0)
      generalize l.getD (k + 1) 0 = x at *
      clear hb hr hown H0
      go_wp2_with fail
      refine (HPU.out _).mono ?_
      rintro e w1 ⟨v1, rfl, hown1, hb1⟩
      obtain ⟨g1, cap1, rfl, hg1⟩ := own_nil hown1 (by rw [hpl]; omega)
      rw [hpl] at hown1
      have hbs := (Own.bs hown1 (putL_byte 8 x))
      obtain ⟨A2, c2, hv2, hbs2⟩ := hbs
      rw [hpl] at hv2 hbs2
      injection hv2 with q1 q2 q3
      subst q1; subst q3
      have HB1 := Lib.hid (HB.out.trans (hb1.mono HB.out.size))
      have HR1 := Lib.hid (HR.out.below hb1 HR.out.lt)
      have HO1 := Lib.hid (HO.out.below hb1)
      have HSZ : Hid (w.heap.size + 1 ≤ w1.heap.size) := Lib.hid (Nat.lt_of_lt_of_le HR.out.lt hb1.size)
      have HBS2 := Lib.hid hbs2
      have HPL := Lib.hid hpl
      clear hb1 hown1 hbs2 hpl q2
      go_wp2_with (at_builtin; refine wp_apps _ rfl _ _ rfl (w.heap.size + 1) _ _ rfl HO1.out _ _ 8 _ _ rfl HBS2.out (fun h => by cases h) (by have := HLN.out; omega) HSZ.out ?_; intro v' w2 hown2 hb2)
      have HOWN : Hid (Own w2 (w.heap.size + 1) v' (blkL 8 (l.take (k + 1 + 1)))) := Lib.hid (by rw [HST.out]; exact hown2)
      have HB2 := Lib.hid (HB1.out.trans (hb2.mono (by omega)))
      have HR2 := Lib.hid (HR1.out.below hb2 (by omega))
      clear hown2 hb2
      go_wp2
      go_roundw
      case rel => exact ⟨k + 1, by simp, by omega, HB2.out, HR2.out, HOWN.out⟩
      case measure => simp [intOf]; omega
    · obtain rfl : k = 16 := by omega
      have hbsx := Own.bs hown (blkL_byte 8 _)
      have e17 : l.take (16 + 1) = l := List.take_of_length_le (by rw [HLEN.out]; omega)
      rw [e17, blkL_len, HLEN.out] at hbsx
      obtain ⟨A3, c3, hv3, hbs3⟩ := hbsx
      have HPAD := Lib.hid (refPad_yes A3 136 c3 256 (blkL 8 l) wr hbs3 (by omega) (by omega))
      have HB := Lib.hid hb
      clear hb hr hown hbs3 H0 e17
      subst hv3
      go_wp2_with fail
      refine HPAD.out.mono ?_
      rintro e w2 ⟨A4, c4, rfl, hb4, hbs4⟩
      rw [padL_len] at hbs4
      have HF : Hid (Gives w (headL l) (.returned (.slice A4 256 c4)) w2) := Lib.hid ⟨A4, c4, by rw [headL_len], HB.out.trans (hb4.mono HB.out.size), by rw [headL_len]; exact hbs4⟩
      clear hb4 hbs4
      go_wp2
      go_ret
      exact HF.out
set_option maxHeartbeats 2000000 in
theorem hhead_yes (l : List Nat) (hl : l.length = 17) (h64 : ∀ i, l.getD i 0 < 2 ^ 64) (hm : l = zl17 ∨ RMay l) (w : World) :
    Calls Try.prog 15 #[.agg (rtV l)] w (BytesH w l) := by
  have hz := zero_rth
  obtain ⟨V, hV⟩ : ∃ V, V = w.alloc (.cells (rtV l) 45) := ⟨_, rfl⟩
  have hr : Row V w.heap.size 45 (uF l) 17 := by rw [hV]; exact Row.new w _ _ _
  have hb0 : Below w.heap.size w V := by rw [hV]; exact (Below.refl _ _).alloc (Nat.le_refl _) _
  have hszV : V.heap.size = w.heap.size + 1 := by rw [hV]; simp
  have HIA := Lib.hid (info_arh l)
  have HIR := Lib.hid (info_rth l)
  have HIX := Lib.hid (fun j hj W => index_h l j hj W)
  have H64 := Lib.hid h64
  have HLEN := Lib.hid hl
  have hc0 : (rtV l)[0]? = some (.int .u64 ((l.getD 0 0 : Nat) : Int)) := rowV_at (uF l) (by omega)
  have HBO := Lib.hid (blkL_one hl)
  have HP0 := Lib.hid (fun W => putO 8 (l.getD 0 0) (by omega) (by omega) (h64 0) W)
  have HB0 := Lib.hid hb0
  have HR0 := Lib.hid hr
  have HSZ0 := Lib.hid hszV
  have HV := Lib.hid hV
  have hq := eq_h l zl17 hl (by simp [zl17])
  have HMY := Lib.hid (fun W => hmay_any l h64 W)
  have HBZ := Lib.hid built_rth0
  have hw0 : (w.alloc (.cells (rtV l) 45)).heap[w.heap.size]? = some (.cells (rtV l) 45 (0, 0)) := heap_alloc_new w _
  have HW0 := Lib.hid hw0
  obtain ⟨n, hn⟩ : ∃ n, n = l.getD 0 0 := ⟨_, rfl⟩
  obtain ⟨rt, hrt⟩ : ∃ z, z = rtV l := ⟨_, rfl⟩
  obtain ⟨ar, har⟩ : ∃ z, z = arV l := ⟨_, rfl⟩
  rw [← hn] at hc0 HBO HP0
  rw [← hrt] at hc0 HV HIR hq HMY HW0 ⊢
  rw [← har] at HIA HIX
  have HAR := Lib.hid har
  obtain ⟨zz, hzz⟩ : ∃ z, z = rtV zl17 := ⟨_, rfl⟩
  rw [← hzz] at hz hq HBZ
  clear hzz
  by_cases hzl : l = zl17
  · rw [decide_eq_true hzl] at hq
    have HB1 := Lib.hid hb0
    have HR1 := Lib.hid hr
    have HS1 : Hid (w.heap.size + 1 ≤ V.heap.size) := Lib.hid (by omega)
    clear hV hr hb0 h64 hl hszV hrt har hn hzl hm HMY hw0
    rw [HV.out] at HB1 HR1 HS1
    go_enter Try.func15, Try.ntmps15
    go_wp2_with (with_reducible refine wpList_load_row rfl 45 (.tmp 1) rfl _ rfl 45 _ _ _ HW0.out Try.underlying45 rfl HIR.out ?_)
    have HMID := Lib.hid (rt_mid HR1.out)
    refine (HP0.out _).mono ?_
    rintro e w1 ⟨v1, rfl, hown1, hb1⟩
    have hr1 := HR1.out.below hb1 HR1.out.lt
    have HMID2 : Hid (w1.rangeAt w.heap.size 1 ar.toList) := Lib.hid (by rw [HAR.out]; exact rt_mid hr1)
    have H0 : Hid (AppR w 45 l v1 (.int .i64 0) w1) := Lib.hid ⟨0, rfl, by omega, HB1.out.trans (hb1.mono HB1.out.size), hr1, by rw [← HBO.out] at hown1; exact hown1.base HS1.out⟩
    clear hown1 hb1 hr1
    go_wp2_with (with_reducible refine wpList_load_mid rfl 43 (.tmp 18) rfl w.heap.size 1 rfl ar.toList _ HMID2.out Try.underlying43 rfl HIA.out ?_)
    go_loopw [4, 20] (fun v i wr => AppR w 45 l v i wr) (fun _ i _ => (16 - intOf i).toNat)
    case atStart => exact H0.out
    case round =>
      obtain ⟨k, rfl, hk, hb, hr, hown⟩ := hrel
      by_cases hlt : k < 16
      · have hi := HIX.out k hlt
        have HPU := Lib.hid (fun W => putO 8 (l.getD (k + 1) 0) (by omega) (by omega) (H64.out (k + 1)) W)
        have HB := Lib.hid hb
        have HR := Lib.hid hr
        have HO := Lib.hid hown
        have HST := Lib.hid (blkL_step 8 (l := l) (k := k + 1) (by rw [HLEN.out]; omega))
        have HLN : Hid ((blkL 8 (l.take (k + 1))).length ≤ 136) := Lib.hid (by rw [blkL_len, List.length_take, HLEN.out]; omega)
        have hpl := putL_len 8 (l.getD (k + 1) 0)
        generalize l.getD (k + 1) 0 = x at *
        clear hb hr hown H0
        go_wp2_with fail
        refine (HPU.out _).mono ?_
        rintro e w1 ⟨v1, rfl, hown1, hb1⟩
        obtain ⟨g1, cap1, rfl, hg1⟩ := own_nil hown1 (by rw [hpl]; omega)
        rw [hpl] at hown1
        have hbs := (Own.bs hown1 (putL_byte 8 x))
        obtain ⟨A2, c2, hv2, hbs2⟩ := hbs
        rw [hpl] at hv2 hbs2
        injection hv2 with q1 q2 q3
        subst q1; subst q3
        have HB1 := Lib.hid (HB.out.trans (hb1.mono HB.out.size))
        have HR1 := Lib.hid (HR.out.below hb1 HR.out.lt)
        have HO1 := Lib.hid (HO.out.below hb1)
        have HSZ : Hid (w.heap.size + 1 ≤ w1.heap.size) := Lib.hid (Nat.lt_of_lt_of_le HR.out.lt hb1.size)
        have HBS2 := Lib.hid hbs2
        have HPL := Lib.hid hpl
        clear hb1 hown1 hbs2 hpl q2
        go_wp2_with (at_builtin; refine wp_apps _ rfl _ _ rfl (w.heap.size + 1) _ _ rfl HO1.out _ _ 8 _ _ rfl HBS2.out (fun h => by cases h) (by have := HLN.out; omega) HSZ.out ?_; intro v' w2 hown2 hb2)
        have HOWN : Hid (Own w2 (w.heap.size + 1) v' (blkL 8 (l.take (k + 1 + 1)))) := Lib.hid (by rw [HST.out]; exact hown2)
        have HB2 := Lib.hid (HB1.out.trans (hb2.mono (by omega)))
        have HR2 := Lib.hid (HR1.out.below hb2 (by omega))
        clear hown2 hb2
        go_wp2
        go_roundw
        case rel => exact ⟨k + 1, by simp, by omega, HB2.out, HR2.out, HOWN.out⟩
        case measure => simp [intOf]; omega
      · obtain rfl : k = 16 := by omega
        have hbsx := Own.bs hown (blkL_byte 8 _)
        have e17 : l.take (16 + 1) = l := List.take_of_length_le (by rw [HLEN.out]; omega)
        rw [e17, blkL_len, HLEN.out] at hbsx
        obtain ⟨A3, c3, hv3, hbs3⟩ := hbsx
        have HPAD := Lib.hid (pad_yes A3 136 c3 256 (blkL 8 l) wr hbs3 (by omega) (by omega) (by omega))
        have HB := Lib.hid hb
        clear hb hr hown hbs3 H0 e17
        subst hv3
        go_wp2_with fail
        refine HPAD.out.mono ?_
        rintro e w2 ⟨A4, c4, rfl, hb4, hbs4⟩
        rw [padL_len] at hbs4
        have HF : Hid (BytesH w l (.returned (.tuple #[.slice A4 256 c4, .int .i64 0])) w2) := Lib.hid ⟨A4, c4, rfl, HB.out.trans (hb4.mono HB.out.size), hbs4⟩
        clear hb4 hbs4
        go_wp2
        exact bodyPost_ret (v := .tuple #[.slice A4 256 c4, .int .i64 0]) (by simp [results, Try.results15, go_sem, padL_len]) rfl HF.out
  · rw [decide_eq_false hzl] at hq
    have HMT : Hid (∀ W, Calls Try.prog 22 #[.agg rt] W fun e w' => e = .returned (.bool true) ∧ Below W.heap.size W w') := Lib.hid (by rcases hm with h | h; exact absurd h hzl; rw [decide_eq_true h] at HMY; exact HMY.out)
    have hr0' := hr
    rw [hV, ← hrt] at hr0'
    have HN := Lib.hid hn.symm
    clear hV hr hb0 h64 hl hszV hrt har hn hzl hm HMY hw0
    rw [HV.out] at HB0 HR0
    go_enter Try.func15, Try.ntmps15
    go_wp2_with (first | (with_reducible refine wpList_load_row rfl 45 (.tmp 1) rfl _ rfl 45 _ _ _ HW0.out Try.underlying45 rfl HIR.out ?_) | (with_reducible refine wpList_load_row_w (by with_unfolding_all rfl) 45 (.tmp 1) rfl _ rfl 45 _ _ _ HW0.out Try.underlying45 rfl HIR.out ?_))
    refine (HMT.out _).mono ?_
    rintro e w0 ⟨rfl, hb⟩
    have HB1 := Lib.hid (HB0.out.trans (hb.mono HB0.out.size))
    have HR1 : Hid (Row w0 w.heap.size 45 (uF l) 17) := Lib.hid (HR0.out.below hb HR0.out.lt)
    have HS1 : Hid (w.heap.size + 1 ≤ w0.heap.size) := Lib.hid (by have := HR1.out.lt; omega)
    have hcc := HR1.out.cell (i := 0) (by omega)
    have HCC : Hid (w0.cell? ⟨w.heap.size, 0, none⟩ = some (.int .u64 (n : Int))) := Lib.hid (by rw [hcc]; unfold uF; rw [HN.out])
    clear hb hcc
    have hc1 := HCC.out
    have HMID := Lib.hid (rt_mid HR1.out)
    go_wp2_with fail
    refine (HP0.out _).mono ?_
    rintro e w1 ⟨v1, rfl, hown1, hb1⟩
    have hr1 := HR1.out.below hb1 HR1.out.lt
    have HMID2 : Hid (w1.rangeAt w.heap.size 1 ar.toList) := Lib.hid (by rw [HAR.out]; exact rt_mid hr1)
    have H0 : Hid (AppR w 45 l v1 (.int .i64 0) w1) := Lib.hid ⟨0, rfl, by omega, HB1.out.trans (hb1.mono HB1.out.size), hr1, by rw [← HBO.out] at hown1; exact hown1.base HS1.out⟩
    clear hown1 hb1 hr1
    go_wp2_with (with_reducible refine wpList_load_mid rfl 43 (.tmp 18) rfl w.heap.size 1 rfl ar.toList _ HMID2.out Try.underlying43 rfl HIA.out ?_)
    go_loopw [4, 20] (fun v i wr => AppR w 45 l v i wr) (fun _ i _ => (16 - intOf i).toNat)
    case atStart => exact H0.out
    case round =>
      obtain ⟨k, rfl, hk, hb, hr, hown⟩ := hrel
      by_cases hlt : k < 16
      · have hi := HIX.out k hlt
        have HPU := Lib.hid (fun W => putO 8 (l.getD (k + 1) 0) (by omega) (by omega) (H64.out (k + 1)) W)
        have HB := Lib.hid hb
        have HR := Lib.hid hr
        have HO := Lib.hid hown
        have HST := Lib.hid (blkL_step 8 (l := l) (k := k + 1) (by rw [HLEN.out]; omega))
        have HLN : Hid ((blkL 8 (l.take (k + 1))).length ≤ 136) := Lib.hid (by rw [blkL_len, List.length_take, HLEN.out]; omega)
        have hpl := putL_len 8 (l.getD (k + 1) 0)
        generalize l.getD (k + 1) 0 = x at *
        clear hb hr hown H0
        go_wp2_with fail
        refine (HPU.out _).mono ?_
        rintro e w1 ⟨v1, rfl, hown1, hb1⟩
        obtain ⟨g1, cap1, rfl, hg1⟩ := own_nil hown1 (by rw [hpl]; omega)
        rw [hpl] at hown1
        have hbs := (Own.bs hown1 (putL_byte 8 x))
        obtain ⟨A2, c2, hv2, hbs2⟩ := hbs
        rw [hpl] at hv2 hbs2
        injection hv2 with q1 q2 q3
        subst q1; subst q3
        have HB1 := Lib.hid (HB.out.trans (hb1.mono HB.out.size))
        have HR1 := Lib.hid (HR.out.below hb1 HR.out.lt)
        have HO1 := Lib.hid (HO.out.below hb1)
        have HSZ : Hid (w.heap.size + 1 ≤ w1.heap.size) := Lib.hid (Nat.lt_of_lt_of_le HR.out.lt hb1.size)
        have HBS2 := Lib.hid hbs2
        have HPL := Lib.hid hpl
        clear hb1 hown1 hbs2 hpl q2
        go_wp2_with (at_builtin; refine wp_apps _ rfl _ _ rfl (w.heap.size + 1) _ _ rfl HO1.out _ _ 8 _ _ rfl HBS2.out (fun h => by cases h) (by have := HLN.out; omega) HSZ.out ?_; intro v' w2 hown2 hb2)
        have HOWN : Hid (Own w2 (w.heap.size + 1) v' (blkL 8 (l.take (k + 1 + 1)))) := Lib.hid (by rw [HST.out]; exact hown2)
        have HB2 := Lib.hid (HB1.out.trans (hb2.mono (by omega)))
        have HR2 := Lib.hid (HR1.out.below hb2 (by omega))
        clear hown2 hb2
        go_wp2
        go_roundw
        case rel => exact ⟨k + 1, by simp, by omega, HB2.out, HR2.out, HOWN.out⟩
        case measure => simp [intOf]; omega
      · obtain rfl : k = 16 := by omega
        have hbsx := Own.bs hown (blkL_byte 8 _)
        have e17 : l.take (16 + 1) = l := List.take_of_length_le (by rw [HLEN.out]; omega)
        rw [e17, blkL_len, HLEN.out] at hbsx
        obtain ⟨A3, c3, hv3, hbs3⟩ := hbsx
        have HPAD := Lib.hid (pad_yes A3 136 c3 256 (blkL 8 l) wr hbs3 (by omega) (by omega) (by omega))
        have HB := Lib.hid hb
        clear hb hr hown hbs3 H0 e17
        subst hv3
        go_wp2_with fail
        refine HPAD.out.mono ?_
        rintro e w2 ⟨A4, c4, rfl, hb4, hbs4⟩
        rw [padL_len] at hbs4
        have HF : Hid (BytesH w l (.returned (.tuple #[.slice A4 256 c4, .int .i64 0])) w2) := Lib.hid ⟨A4, c4, rfl, HB.out.trans (hb4.mono HB.out.size), hbs4⟩
        clear hb4 hbs4
        go_wp2
        exact bodyPost_ret (v := .tuple #[.slice A4 256 c4, .int .i64 0]) (by simp [results, Try.results15, go_sem, padL_len]) rfl HF.out
theorem hhead_no (l : List Nat) (hl : l.length = 17) (h64 : ∀ i, l.getD i 0 < 2 ^ 64) (hzl : ¬ l = zl17) (hm : ¬ RMay l) (w : World) :
    Calls Try.prog 15 #[.agg (rtV l)] w fun e w' => e = .returned (.tuple #[.slice none 0 0, .int .i64 1]) ∧ Below w.heap.size w w' := by
  have hz := zero_rth
  have hq := eq_h l zl17 hl (by simp [zl17])
  rw [decide_eq_false hzl] at hq
  have HMY := Lib.hid (fun W => hmay_any l h64 W)
  rw [decide_eq_false hm] at HMY
  have HIR := Lib.hid (info_rth l)
  have HW0 := Lib.hid (heap_alloc_new w (.cells (rtV l) 45))
  have HB0 : Hid (Below w.heap.size w (w.alloc (.cells (rtV l) 45))) := Lib.hid ((Below.refl _ _).alloc (Nat.le_refl _) _)
  obtain ⟨rt, hrt⟩ : ∃ z, z = rtV l := ⟨_, rfl⟩
  rw [← hrt] at HIR hq HMY HW0 HB0 ⊢
  obtain ⟨zz, hzz⟩ : ∃ z, z = rtV zl17 := ⟨_, rfl⟩
  rw [← hzz] at hz hq
  clear hzz hrt hzl hm hl h64
  go_enter Try.func15, Try.ntmps15
  go_wp2_with (first | (with_reducible refine wpList_load_row rfl 45 (.tmp 1) rfl _ rfl 45 _ _ _ HW0.out Try.underlying45 rfl HIR.out ?_) | (with_reducible refine wpList_load_row_w (by with_unfolding_all rfl) 45 (.tmp 1) rfl _ rfl 45 _ _ _ HW0.out Try.underlying45 rfl HIR.out ?_))
  refine (HMY.out _).mono ?_
  rintro e w0 ⟨rfl, hb⟩
  have HB1 := Lib.hid (HB0.out.trans (hb.mono HB0.out.size))
  clear hb
  go_wp2
  exact bodyPost_ret (v := .tuple #[.slice none 0 0, .int .i64 1]) (by simp [results, Try.results15, go_sem]) rfl ⟨rfl, HB1.out⟩
end Go.Proofs.Ytfnppoagmambgaa
