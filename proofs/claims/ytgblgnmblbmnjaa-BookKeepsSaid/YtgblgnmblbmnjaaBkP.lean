/-
  BookKeeps.
-/
import Derived.Test.YtgblgnmblbmnjaaBkO
namespace Go.Proofs.Ytgblgnmblbmnjaa
open Go.RowKit Go
set_option linter.unusedVariables false
set_option linter.unusedSimpArgs false
def OwnTo (w : World) (l : List Nat) (e : Ending) (w' : World) : Prop := ∃ v, e = .returned v ∧ Own w' w.heap.size v l ∧ (∀ i, l.getD i 0 < 256) ∧ Below w.heap.size w w'
set_option maxHeartbeats 2000000 in
theorem text_own (k : Nat) (hk : k < 256) (V : Value) (Ls : List (List Nat)) (w : World) (h : PtsZ w V Ls) (hn : Ls.length ≤ 1000) (hl : Ls.flatten.length ≤ 800000) :
    Calls Try.prog 12 #[.int .u8 (k : Int), V] w (OwnTo w (txt k Ls)) := by
  have hby : ∀ i, (txt k Ls).getD i 0 < 256 := fun i => by
    unfold txt
    cases i with
    | zero => exact hk
    | succ i => exact bk_flat_byte h.pts.byte i
  obtain ⟨P, c, rfl, hc, hP⟩ := h
  have h0 : TxR w k Ls (.int .i64 0) (.slice (some ⟨w.heap.size, 0, none⟩) 1 1) (w.alloc (.cells #[.int .u8 (k : Int)] 5)) :=
    ⟨0, rfl, by omega, Own.blk (Nat.le_refl _) (heap_alloc_new w _) rfl (by omega) (by unfold maxLen; omega) rfl rfl, (Below.refl _ _).alloc (Nat.le_refl _) _, by simp⟩
  have H0 := Lib.hid h0
  have HP := Lib.hid hP
  have HBY := Lib.hid hby
  have HL := Lib.hid hl
  clear h0 hP hby hl
  go_enter Try.func12, Try.ntmps12
  go_wp2_with fail
  go_loopw [12, 5] (fun iv v wr => TxR w k Ls iv v wr) (fun iv _ _ => (Ls.length - intOf iv).toNat)
  case atStart => exact H0.out
  case round =>
    clear H0
    obtain ⟨i, rfl, hi, hO, hb, hsz⟩ := hrel
    have HO := Lib.hid hO
    have HB := Lib.hid hb
    clear hO hb
    by_cases hlt : i < Ls.length
    · obtain ⟨b, o, rfl, hbl, hat⟩ := HP.out (by omega)
      obtain ⟨A, c1, q1, q2, q3⟩ := hat i hlt
      have p1 : wr.cell? ⟨b, o + i, none⟩ = some (.slice A (Ls.getD i []).length c1) := (HB.out.cell (p := ⟨b, o + i, none⟩) hbl).trans q1
      have HS : Hid (BS wr w.heap.size A (Ls.getD i []).length c1 (Ls.getD i [])) := Lib.hid (q2.below HB.out)
      have HA := Lib.hid q3
      have HF : Hid (txt k (Ls.take (i + 1)) = txt k (Ls.take i) ++ Ls.getD i []) := Lib.hid (by unfold txt; rw [flat_step hlt]; rfl)
      have HN : Hid ((txt k (Ls.take i)).length + (Ls.getD i []).length < 1000000000) := Lib.hid (by
        have h1 := flat_le Ls (i + 1)
        rw [flat_step hlt, List.length_append] at h1
        have h2 := HL.out
        unfold txt
        rw [List.length_cons]
        omega)
      have HR : Hid (∀ v' w', Own w' w.heap.size v' (txt k (Ls.take i) ++ Ls.getD i []) → Below w.heap.size w w' → TxR w k Ls (.int .i64 ((i : Int) + 1)) v' w') := Lib.hid fun v' w' z1 z2 => ⟨i + 1, rfl, by omega, by rw [HF.out]; exact z1, z2, z2.size⟩
      clear q1 q2 q3 hat HF
      obtain ⟨m, hm⟩ : ∃ m, m = (Ls.getD i []).length := ⟨_, rfl⟩
      rw [← hm] at p1 HS HN
      clear hm
      generalize Ls.getD i [] = l at *
      generalize txt k (Ls.take i) = pre at *
      go_wp2_with (
        at_builtin
        refine wp_apps wr rfl _ _ rfl w.heap.size _ pre rfl HO.out w.heap.size A m c1 l rfl HS.out HA.out HN.out hsz ?_
        intro v' w1 hown1 hb1
        have HX := Lib.hid (HR.out v' w1 hown1 (HB.out.trans hb1))
        clear hown1 hb1)
      go_roundw
      case rel => exact HX.out
      case measure => simp [intOf]; omega
    · obtain rfl : i = Ls.length := by omega
      have HO9 : Hid (Own wr w.heap.size u5 (txt k Ls)) := Lib.hid (by have := HO.out; rw [List.take_length] at this; exact this)
      have HX : Hid (OwnTo w (txt k Ls) (.returned u5) wr) := Lib.hid ⟨_, rfl, HO9.out, HBY.out, HB.out⟩
      clear HO HO9
      go_wp2
      go_ret
      exact HX.out

def NoS (u w : World) (S : Nat → Prop) (k : Nat) : Prop := u.heap.size ≤ k ∧ ¬ S k ∧ k < w.heap.size
structure BpI (u : World) (b g i : Nat) (av : Value) (w : World) (S : Nat → Prop) (T sh L : List (List Nat)) : Prop where
  bk : IsBook w b g S T sh
  above : ∀ k, S k → u.heap.size ≤ k
  all : TR w (NoS u w S) av L
  num : L.length = i
  small : ∀ t ∈ L, t.length ≤ 121
  inv : Inv T sh (rst L)
  shT : ShT T
  shS : ShOk sh
  below : Below u.heap.size u w
def BpR (u : World) (b g n : Nat) (iv av : Value) (wr : World) : Prop := ∃ i : Nat, iv = .int .i64 (i : Int) ∧ i ≤ n ∧ i ≤ 12 ∧ ∃ S T sh L, BpI u b g i av wr S T sh L
theorem BpI.tlen {u w : World} {b g i : Nat} {av : Value} {S : Nat → Prop} {T sh L : List (List Nat)} (h : BpI u b g i av w S T sh L) (hi : i ≤ 12) : T.length < 16384 := by
  have h1 := rst_len L
  have h2 := h.num
  rw [h.inv.same]
  omega
theorem BpI.more {u w w' : World} {b g i : Nat} {av : Value} {S : Nat → Prop} {T sh L : List (List Nat)} (h : BpI u b g i av w S T sh L) (hb : Below w.heap.size w w') : BpI u b g i av w' S T sh L :=
  ⟨h.bk.below hb, h.above, h.all.keep (fun j hj _ => hb.block j hj) (fun j hj => ⟨hj.1, hj.2.1, Nat.lt_of_lt_of_le hj.2.2 hb.size⟩), h.num, h.small, h.inv, h.shT, h.shS, h.below.trans (hb.mono h.below.size)⟩
/-- one text more is summed; it is appended then -/
theorem BpI.summed {u w w' : World} {b g i : Nat} {av : Value} {S : Nat → Prop} {T sh L : List (List Nat)} {t : List Nat} (h : BpI u b g i av w S T sh L) (ht : Turns S w w') :
    TR w' (NoS u w' fun k => S k ∨ (w.heap.size ≤ k ∧ k < w'.heap.size)) av L ∧ Below u.heap.size u w' ∧ ∀ k, (S k ∨ (w.heap.size ≤ k ∧ k < w'.heap.size)) → u.heap.size ≤ k :=
  ⟨h.all.keep (fun j hj hn => ht.block j hj hn.2.1) (fun j hj => ⟨hj.1, fun q => q.elim hj.2.1 fun q2 => by have := hj.2.2; omega, Nat.lt_of_lt_of_le hj.2.2 ht.size⟩), h.below.trans (ht.below h.below.size h.above), fun k hk => hk.elim (h.above k) fun q => Nat.le_trans h.below.size q.1⟩
theorem BpI.next {u w w8 w9 : World} {b g i : Nat} {av v' : Value} {S : Nat → Prop} {T sh L : List (List Nat)} {t : List Nat} {S5 : Nat → Prop} (h : BpI u b g i av w S T sh L) (hi : i ≤ 12) (htl : t.length ≤ 121)
    (hk : IsBook w8 b g S5 (bkT T t) (bkS T sh t)) (hS5 : ∀ k, S5 k → u.heap.size ≤ k) (hb8 : Below u.heap.size u w8)
    (hT9 : TR w9 (fun k => NoS u w8 S5 k ∨ k = w8.heap.size) v' (L ++ [t])) (hav : ∀ k, av.ownBlock = some k → NoS u w8 S5 k) (hg : w8.grownBy w9 av.ownBlock) (hv : v'.ownBlock = av.ownBlock ∨ v'.ownBlock = some w8.heap.size) :
    BpI u b g (i + 1) v' w9 S5 (bkT T t) (bkS T sh t) (L ++ [t]) := by
  have hz := hg.size
  refine ⟨hk.keep (fun j hj => hg.block j (hk.sub hj) (fun e => (hav j e.symm).2.1 hj)) (fun _ hj => hj) (fun k hk2 => Nat.lt_of_lt_of_le (hk.sub hk2) hz), hS5, ?_, by rw [List.length_append, h.num]; rfl, ?_, by rw [rst_app]; exact h.inv.step (h.tlen hi), shT_step h.shT htl, shOk_step h.shT h.shS htl, hb8.grown hg hb8.size (fun k hk2 => (hav k hk2).1)⟩
  · -- the row's blocks lie below the heap's end
    obtain ⟨vs, k1, k2, k3⟩ := hT9
    have key : ∀ k, (NoS u w8 S5 k ∨ k = w8.heap.size) → k < w9.heap.size → NoS u w9 S5 k := fun k hk2 hlt => by
      rcases hk2 with q | q
      · exact ⟨q.1, q.2.1, hlt⟩
      · subst q
        exact ⟨hb8.size, fun q => by have := hk.sub q; omega, hlt⟩
    refine ⟨vs, k1, fun i2 hi2 => ?_, fun k hk2 => key k (k3 k hk2) (World.ownsRow.lt k1 k hk2).2⟩
    obtain ⟨x, q1, q2⟩ := k2 i2 hi2
    exact ⟨x, q1, q2.1, q2.2.1, fun k hk2 => key k (q2.2.2 k hk2) (q2.1.lt hk2).2⟩
  · intro x hx
    rcases List.mem_append.mp hx with hx | hx
    · exact h.small x hx
    · rw [List.mem_singleton.mp hx]; exact htl
set_option maxHeartbeats 8000000 in
set_option maxRecDepth 100000 in
theorem bookKeeps_any (A : Option Addr) (n c : Nat) (u : World) (h : TxAt u A n) (hn9 : n ≤ 9223372036854775807) (hc9 : n ≤ c) : Calls Try.prog 4 #[.slice A n c] u fun e w' => e = .returned (.bool true) ∧ Below u.heap.size u w' := by
  have hz : ∀ W, (zeroValue 29).run Try.prog W = .ok (.agg #[.int .u8 0, .slice none 0 0, .slice none 0 0]) W := fun W => by kernel_rfl
  have H := Lib.hid h
  clear h
  go_enter Try.func4, Try.ntmps4
  go_wp2_with fail
  refine (make_any _).mono ?_
  rintro e w1 ⟨rfl, hb1, ht1⟩
  have HB1 := Lib.hid hb1
  have HT1 := Lib.hid ht1
  have hw1 : u.heap.size < w1.heap.size := Row.lt ht1
  clear hb1 ht1
  go_wp2_with fail
  refine (bk_new u.heap.size w1 HT1.out).mono ?_
  rintro e w2 ⟨b, rfl, hbl, hb2, hk2⟩
  have H0 : Hid (BpR u b u.heap.size n (.int .i64 0) (.slice none 0 0) w2) := Lib.hid ⟨0, rfl, by omega, by omega, _, _, _, [], hk2, fun k hk => by omega, TR.nil _ _, rfl, fun t ht => (by cases ht), Inv.start, fun t ht => (by cases ht), .inl rfl, HB1.out.trans (hb2.mono (by omega))⟩
  clear hb2 hk2
  go_wp2_with fail
  go_loopw [16, 4] (fun iv av wr => BpR u b u.heap.size n iv av wr) (fun iv _ _ => (n - intOf iv).toNat)
  case atStart => exact H0.out
  case round =>
    clear H0
    obtain ⟨i, rfl, hi, hi12, S, T, sh, L, hI⟩ := hrel
    have HI0 := Lib.hid hI
    clear hI
    by_cases hlt : i < n
    · obtain ⟨ba, o, rfl, hba, hat⟩ := H.out (by omega)
      obtain ⟨kd, A1, A2, n1, n2, c1, c2, l1, l2, hkd, q0, q1, q2, b1, b2, z1, z2⟩ := hat i hlt
      have HB : Hid (Below u.heap.size u wr) := Lib.hid HI0.out.below
      have p0 : wr.cell? ⟨ba, o + i * 3, none⟩ = some (.int .u8 (kd : Int)) := (HB.out.cell (p := ⟨ba, o + i * 3, none⟩) hba).trans q0
      have p1 : wr.cell? ⟨ba, o + i * 3 + 1, none⟩ = some (.slice A1 n1 c1) := (HB.out.cell (p := ⟨ba, o + i * 3 + 1, none⟩) hba).trans q1
      have p2 : wr.cell? ⟨ba, o + i * 3 + 2, none⟩ = some (.slice A2 n2 c2) := (HB.out.cell (p := ⟨ba, o + i * 3 + 2, none⟩) hba).trans q2
      have hlt1 : ba < wr.heap.size := Nat.lt_of_lt_of_le hba HB.out.size
      have HS1 := Lib.hid b1
      have HS2 := Lib.hid b2
      have HZ1 := Lib.hid z1
      have HZ2 := Lib.hid z2
      have k1 := b1.cap.1
      have k2 := b2.cap.1
      have HX0 : Hid ((wr.alloc (.cells #[.int .u8 (kd : Int), .slice A1 n1 c1, .slice A2 n2 c2] 29)).heap[wr.heap.size]? = some (.cells #[.int .u8 (kd : Int), .slice A1 n1 c1, .slice A2 n2 c2] 29 (0, 0))) := Lib.hid (heap_alloc_new wr _)
      have HA0 : Hid (Below wr.heap.size wr (wr.alloc (.cells #[.int .u8 (kd : Int), .slice A1 n1 c1, .slice A2 n2 c2] 29))) := Lib.hid ((Below.refl _ _).alloc (Nat.le_refl _) _)
      have HI3 : Hid (BpI u b u.heap.size i u4 (wr.alloc (.cells #[.int .u8 (kd : Int), .slice A1 n1 c1, .slice A2 n2 c2] 29)) S T sh L) := Lib.hid (HI0.out.more HA0.out)
      have HNS : Hid (¬ S wr.heap.size) := Lib.hid fun q => by have := HI0.out.bk.sub q; omega
      have HUB : Hid (u.heap.size ≤ wr.heap.size) := Lib.hid HB.out.size
      clear q0 q1 q2 hat b1 b2 z1 z2
      by_cases h12 : i < 12
      · have h12i : (i : Int) < 12 := by omega
        go_wp2_with fail
        generalize hW3 : wr.alloc (.cells #[.int .u8 (kd : Int), .slice A1 n1 c1, .slice A2 n2 c2] 29) = W3 at *
        clear hW3
        have HL := Lib.hid (two_len l1 l2)
        have HPZ : Hid (∀ W r, Below u.heap.size u W → Pt2 W r A1 A2 n1 n2 c1 c2 → PtsZ W (.slice (some ⟨r, 0, none⟩) 2 2) [l1.take 60, l2.take 60]) := Lib.hid fun W r q1 q2 => pt2_pts q2 q1 HS1.out HS2.out HZ1.out HZ2.out
        have HI : Hid ((Try.prog.info? 29).map (·.size) = some [Value.int .u8 (kd : Int), .slice A1 n1 c1, .slice A2 n2 c2].length) := Lib.hid (by rw [show [Value.int .u8 (kd : Int), .slice A1 n1 c1, .slice A2 n2 c2].length = 3 from rfl]; kernel_rfl)
        have KS : Hid (∀ W : World, W.heap[wr.heap.size]? = some (.cells #[.int .u8 (kd : Int), .slice A1 n1 c1, .slice A2 n2 c2] 29 (0, 0)) → W.cell? ⟨wr.heap.size, 0, none⟩ = some (.int .u8 (kd : Int)) ∧ W.rangeAt wr.heap.size 0 [Value.int .u8 (kd : Int), .slice A1 n1 c1, .slice A2 n2 c2]) := Lib.hid fun W hW => ⟨blk_cell hW 0, fun j v hv => by
          rw [Nat.zero_add]
          have := blk_cell hW j
          rw [this]; simpa using hv⟩
        have htl : (txt kd [l1.take 60, l2.take 60]).length ≤ 121 := by
          unfold txt
          rw [List.length_cons]
          have := HL.out.2.2
          omega
        have HTL := Lib.hid htl
        clear htl
        refine wp_region_F (S := (fun w' => w'.cell? ⟨wr.heap.size, 0, none⟩ = some (.int .u8 (kd : Int)) ∧ w'.rangeAt wr.heap.size 0 [Value.int .u8 (kd : Int), .slice A1 n1 c1, .slice A2 n2 c2])) [] (by kernel_rfl) (KS.out _ HX0.out) (fun hHeld => ?_)
        refine wpAnyF_take (i := 0) (oi := _) (v := ?_) rfl (by kernel_rfl) (by kernel_rfl) (by kernel_rfl) (by kernel_rfl) (fun _ _ _ h => h) (Or.inl ⟨by rfl, ?_⟩) (by assumption) ?_
        rotate_left 1
        · intro w hSw
          (try dsimp only at hSw)
          (first | (go_simp; done) | (go_simp; with_reducible rfl))
        (try simp only [Act.put, List.getElem_toArray, List.getElem_cons_succ, List.getElem_cons_zero, List.setIfInBounds_toArray, List.set_cons_zero, List.set_cons_succ])
        refine wpAnyF_take (i := 1) (oi := _) (v := ?_) rfl (by kernel_rfl) (by kernel_rfl) (by kernel_rfl) (by kernel_rfl) (fun _ _ _ h => h) (Or.inl ⟨by rfl, ?_⟩) (by assumption) ?_
        rotate_left 1
        · intro w hSw
          (try dsimp only at hSw)
          (first | (go_simp; done) | (go_simp; with_reducible rfl))
        (try simp only [Act.put, List.getElem_toArray, List.getElem_cons_succ, List.getElem_cons_zero, List.setIfInBounds_toArray, List.set_cons_zero, List.set_cons_succ])
        refine wpAnyF_take (i := 2) (oi := _) (v := ?_) rfl (by kernel_rfl) (by kernel_rfl) (by kernel_rfl) (by kernel_rfl) (fun _ _ _ h => h) (Or.inl ⟨by rfl, ?_⟩) (by assumption) ?_
        rotate_left 1
        · intro w hSw
          (try dsimp only at hSw)
          (first | (go_simp; done) | (go_simp; with_reducible rfl))
        (try simp only [Act.put, List.getElem_toArray, List.getElem_cons_succ, List.getElem_cons_zero, List.setIfInBounds_toArray, List.set_cons_zero, List.set_cons_succ])
        refine wpAnyF_take (i := 3) (oi := _) (v := (.agg #[.int .u8 (kd : Int), .slice A1 n1 c1, .slice A2 n2 c2])) rfl (by kernel_rfl) (by kernel_rfl) (by kernel_rfl) (by kernel_rfl) (fun _ _ _ h => h) (Or.inl ⟨by rfl, ?_⟩) (by assumption) ?_
        · intro w hSw
          (try dsimp only at hSw)
          exact exec_row 29 (.tmp 6) (by rfl) _ 0 (by rfl) _ _ hSw.2 Try.underlying29 (by rfl) HI.out
        (try simp only [Act.put, List.getElem_toArray, List.getElem_cons_succ, List.getElem_cons_zero, List.setIfInBounds_toArray, List.set_cons_zero, List.set_cons_succ])
        refine wpAnyF_ready (rs := [4]) (by kernel_rfl) (by simp) ?_
        refine AllReadyF.cons (o := _) rfl (fun K hK => ?_) AllReadyF.nil
        go_simp
        (go_at_call 9)
        refine (parts_any (kd : Int) A1 A2 n1 n2 c1 c2 W3.drew k1 k2).mono ?_
        rintro e w4 ⟨rfl, hb4, hs4, hp4⟩
        have hA : Below W3.heap.size W3 w4 := (After.drew W3).next hb4
        have HX4 : Hid (w4.heap[wr.heap.size]? = some (.cells #[.int .u8 (kd : Int), .slice A1 n1 c1, .slice A2 n2 c2] 29 (0, 0))) := Lib.hid ((hA.block _ (blk_lt HX0.out)).trans HX0.out)
        have HI4 : Hid (BpI u b u.heap.size i u4 w4 S T sh L) := Lib.hid (HI3.out.more hA)
        have HP4 := Lib.hid (HPZ.out w4 _ HI4.out.below hp4).pts
        clear hA hb4 hs4 hp4
        refine hK.out _ _ (KS.out _ HX4.out) (fun hHeld4 => ?_)
        clear hK K
        (try simp only [Act.put, List.getElem_toArray, List.getElem_cons_succ, List.getElem_cons_zero, List.setIfInBounds_toArray, List.set_cons_zero, List.set_cons_succ])
        refine wpAnyF_ready (rs := [5]) (by kernel_rfl) (by simp) ?_
        refine AllReadyF.cons (o := _) rfl (fun K hK => ?_) AllReadyF.nil
        go_simp
        (go_at_call 10)
        refine (bk_sum b u.heap.size kd S T sh _ [l1.take 60, l2.take 60] w4 HI4.out.bk hkd HP4.out HL.out.1 HL.out.2.1).mono ?_
        rintro e w5 ⟨rfl, ht, hk⟩
        have HX5 : Hid (w5.heap[wr.heap.size]? = some (.cells #[.int .u8 (kd : Int), .slice A1 n1 c1, .slice A2 n2 c2] 29 (0, 0))) := Lib.hid (turns_blk ht HNS.out HX4.out)
        obtain ⟨hT5, hb5, hS5⟩ := HI4.out.summed (t := txt kd [l1.take 60, l2.take 60]) ht
        obtain ⟨S5, hk5, hT5, hS5⟩ : ∃ S5, IsBook w5 b u.heap.size S5 (bkT T (txt kd [l1.take 60, l2.take 60])) (bkS T sh (txt kd [l1.take 60, l2.take 60])) ∧ TR w5 (NoS u w5 S5) u4 L ∧ ∀ k, S5 k → u.heap.size ≤ k := ⟨_, hk, hT5, hS5⟩
        have HK5 := Lib.hid hk5
        have HT5 := Lib.hid hT5
        have HB5 := Lib.hid hb5
        have HS5 := Lib.hid hS5
        clear ht hk hk5 hT5 hb5 hS5
        refine hK.out _ _ (KS.out _ HX5.out) (fun hHeld5 => ?_)
        clear hK K
        (try simp only [Act.put, List.getElem_toArray, List.getElem_cons_succ, List.getElem_cons_zero, List.setIfInBounds_toArray, List.set_cons_zero, List.set_cons_succ])
        refine wpAnyF_done (by kernel_rfl) ?_ _
        go_wp2_with fail
        refine wp_region_F (S := (fun w' => w'.cell? ⟨wr.heap.size, 0, none⟩ = some (.int .u8 (kd : Int)) ∧ w'.rangeAt wr.heap.size 0 [Value.int .u8 (kd : Int), .slice A1 n1 c1, .slice A2 n2 c2])) [] (by kernel_rfl) (KS.out _ HX5.out) (fun hHeld => ?_)
        refine wpAnyF_take (i := 0) (oi := _) (v := ?_) rfl (by kernel_rfl) (by kernel_rfl) (by kernel_rfl) (by kernel_rfl) (fun _ _ _ h => h) (Or.inl ⟨by rfl, ?_⟩) (by assumption) ?_
        rotate_left 1
        · intro w hSw
          (try dsimp only at hSw)
          (first | (go_simp; done) | (go_simp; with_reducible rfl))
        (try simp only [Act.put, List.getElem_toArray, List.getElem_cons_succ, List.getElem_cons_zero, List.setIfInBounds_toArray, List.set_cons_zero, List.set_cons_succ])
        refine wpAnyF_take (i := 1) (oi := _) (v := ?_) rfl (by kernel_rfl) (by kernel_rfl) (by kernel_rfl) (by kernel_rfl) (fun _ _ _ h => h) (Or.inl ⟨by rfl, ?_⟩) (by assumption) ?_
        rotate_left 1
        · intro w hSw
          (try dsimp only at hSw)
          (first | (go_simp; done) | (go_simp; with_reducible rfl))
        (try simp only [Act.put, List.getElem_toArray, List.getElem_cons_succ, List.getElem_cons_zero, List.setIfInBounds_toArray, List.set_cons_zero, List.set_cons_succ])
        refine wpAnyF_take (i := 2) (oi := _) (v := ?_) rfl (by kernel_rfl) (by kernel_rfl) (by kernel_rfl) (by kernel_rfl) (fun _ _ _ h => h) (Or.inl ⟨by rfl, ?_⟩) (by assumption) ?_
        rotate_left 1
        · intro w hSw
          (try dsimp only at hSw)
          (first | (go_simp; done) | (go_simp; with_reducible rfl))
        (try simp only [Act.put, List.getElem_toArray, List.getElem_cons_succ, List.getElem_cons_zero, List.setIfInBounds_toArray, List.set_cons_zero, List.set_cons_succ])
        refine wpAnyF_take (i := 3) (oi := _) (v := (.agg #[.int .u8 (kd : Int), .slice A1 n1 c1, .slice A2 n2 c2])) rfl (by kernel_rfl) (by kernel_rfl) (by kernel_rfl) (by kernel_rfl) (fun _ _ _ h => h) (Or.inl ⟨by rfl, ?_⟩) (by assumption) ?_
        · intro w hSw
          (try dsimp only at hSw)
          exact exec_row 29 (.tmp 6) (by rfl) _ 0 (by rfl) _ _ hSw.2 Try.underlying29 (by rfl) HI.out
        (try simp only [Act.put, List.getElem_toArray, List.getElem_cons_succ, List.getElem_cons_zero, List.setIfInBounds_toArray, List.set_cons_zero, List.set_cons_succ])
        refine wpAnyF_ready (rs := [4]) (by kernel_rfl) (by simp) ?_
        refine AllReadyF.cons (o := _) rfl (fun K hK => ?_) AllReadyF.nil
        go_simp
        (go_at_call 9)
        refine (parts_any (kd : Int) A1 A2 n1 n2 c1 c2 w5.drew k1 k2).mono ?_
        rintro e w6 ⟨rfl, hb6, hs6, hp6⟩
        have hA : Below w5.heap.size w5 w6 := (After.drew w5).next hb6
        have HX6 : Hid (w6.heap[wr.heap.size]? = some (.cells #[.int .u8 (kd : Int), .slice A1 n1 c1, .slice A2 n2 c2] 29 (0, 0))) := Lib.hid ((hA.block _ (blk_lt HX5.out)).trans HX5.out)
        have HA6 := Lib.hid hA
        have HP6 := Lib.hid (HPZ.out w6 _ (HB5.out.trans (hA.mono HB5.out.size)) hp6)
        clear hA hb6 hs6 hp6
        refine hK.out _ _ (KS.out _ HX6.out) (fun hHeld4 => ?_)
        clear hK K
        (try simp only [Act.put, List.getElem_toArray, List.getElem_cons_succ, List.getElem_cons_zero, List.setIfInBounds_toArray, List.set_cons_zero, List.set_cons_succ])
        refine wpAnyF_ready (rs := [5]) (by kernel_rfl) (by simp) ?_
        refine AllReadyF.cons (o := _) rfl (fun K hK => ?_) AllReadyF.nil
        go_simp
        (go_at_call 12)
        refine (text_own kd hkd _ [l1.take 60, l2.take 60] w6 HP6.out HL.out.1 HL.out.2.1).mono ?_
        rintro e w7 ⟨v7, rfl, ho7, hy7, hb7⟩
        obtain ⟨A7, c7, hv7, _⟩ := ho7.bs hy7
        obtain ⟨m7, hm7⟩ : ∃ m7, m7 = (txt kd [l1.take 60, l2.take 60]).length := ⟨_, rfl⟩
        rw [← hm7] at hv7
        subst hv7
        clear hm7
        have HX7 : Hid (w7.heap[wr.heap.size]? = some (.cells #[.int .u8 (kd : Int), .slice A1 n1 c1, .slice A2 n2 c2] 29 (0, 0))) := Lib.hid ((hb7.block _ (blk_lt HX6.out)).trans HX6.out)
        have HA7 : Hid (Below w5.heap.size w5 w7) := Lib.hid (HA6.out.trans (hb7.mono HA6.out.size))
        have HO7 := Lib.hid ho7
        have HY7 := Lib.hid hy7
        have HG7 : Hid (w6.heap.size ≤ w7.heap.size) := Lib.hid hb7.size
        clear ho7 hy7 hb7
        refine hK.out _ _ (KS.out _ HX7.out) (fun hHeld5 => ?_)
        clear hK K
        (try simp only [Act.put, List.getElem_toArray, List.getElem_cons_succ, List.getElem_cons_zero, List.setIfInBounds_toArray, List.set_cons_zero, List.set_cons_succ])
        obtain ⟨w8, hw8⟩ : ∃ w8, w8 = w7.alloc (.cells #[.slice A7 m7 c7] 27) := ⟨_, rfl⟩
        have hb8 : Below w7.heap.size w7 w8 := by rw [hw8]; exact (Below.refl _ _).alloc (Nat.le_refl _) _
        have hc8 : w8.cell? ⟨w7.heap.size, 0, none⟩ = some (.slice A7 m7 c7) := by rw [hw8]; exact blk_cell (heap_alloc_new w7 _) 0
        have hA8 : Below w5.heap.size w5 w8 := HA7.out.trans (hb8.mono HA7.out.size)
        have hK8 : IsBook w8 b u.heap.size S5 (bkT T (txt kd [l1.take 60, l2.take 60])) (bkS T sh (txt kd [l1.take 60, l2.take 60])) := HK5.out.below hA8
        have hT8 : TR w8 (NoS u w8 S5) u4 L := HT5.out.keep (fun j hj _ => hA8.block j hj) (fun j hj => ⟨hj.1, hj.2.1, Nat.lt_of_lt_of_le hj.2.2 hA8.size⟩)
        have hI8 : TI w8 (NoS u w8 S5) (txt kd [l1.take 60, l2.take 60]) (.slice A7 m7 c7) := by
          have h9 := HO7.out.keep (w' := w8) (fun q hq => hb8.block q (HO7.out.lt hq).2)
          refine ⟨⟨h9.1, h9.2.imp id fun ⟨gg, cap, cur, e1, e2, e3⟩ => ⟨gg, cap, cur, e1, Nat.zero_le _, e3⟩⟩, HY7.out, fun q hq => ?_⟩
          have h8 := HO7.out.lt hq
          have h7 := HA6.out.size
          have h6 := HB5.out.size
          have h5 := hb8.size
          exact ⟨by omega, fun z => by have := HK5.out.sub z; omega, by omega⟩
        obtain ⟨v9, w9, hr9, hT9, hg9, hv9⟩ := hT8.app (by have := HI0.out.num; omega) hI8 hc8 30
        have hN9 := HI4.out.next (w8 := w8) (w9 := w9) (v' := v9) (t := txt kd [l1.take 60, l2.take 60]) (S5 := S5) hi12 HTL.out hK8 HS5.out (HB5.out.trans (hA8.mono HB5.out.size)) hT9 (fun k hk => (hT8.lt hk).2) hg9 hv9
        have HR : Hid (BpR u b u.heap.size n (.int .i64 ((i : Int) + 1)) v9 w9) := Lib.hid ⟨i + 1, rfl, by omega, by omega, _, _, _, _, hN9⟩
        have HX8 : Hid (w8.heap[wr.heap.size]? = some (.cells #[.int .u8 (kd : Int), .slice A1 n1 c1, .slice A2 n2 c2] 29 (0, 0))) := Lib.hid ((hb8.block _ (blk_lt HX7.out)).trans HX7.out)
        have HX9 : Hid (w9.heap[wr.heap.size]? = some (.cells #[.int .u8 (kd : Int), .slice A1 n1 c1, .slice A2 n2 c2] 29 (0, 0))) := Lib.hid ((hg9.block _ (blk_lt HX8.out) (fun e => by
          obtain ⟨cs, hc⟩ := hT8.typ e.symm
          rw [HX8.out] at hc
          have e2 := Option.some.inj hc
          injection e2 with _ e3 _
          exact absurd e3 (by decide))).trans HX8.out)
        have HR9 := Lib.hid hr9
        have HW8 := Lib.hid hw8
        clear hb8 hc8 hA8 hK8 hT8 hI8 hT9 hg9 hv9 hN9 hr9 hw8
        refine wpAnyF_ready (rs := [6]) (by kernel_rfl) (by simp) ?_
        refine AllReadyF.cons (o := _) rfl (fun K hK => ?_) AllReadyF.nil
        go_simp
        rw [← HW8.out]
        refine hK.out _ _ (KS.out _ HX8.out) (fun hHeld6 => ?_)
        clear hK K
        (try simp only [Act.put, List.getElem_toArray, List.getElem_cons_succ, List.getElem_cons_zero, List.setIfInBounds_toArray, List.set_cons_zero, List.set_cons_succ])
        refine wpAnyF_ready (rs := [7]) (by kernel_rfl) (by simp) ?_
        refine AllReadyF.cons (o := _) rfl (fun K hK => ?_) AllReadyF.nil
        rw [if_pos (by kernel_rfl)]
        refine step_apd _ 30 30 (.tmp 29) (.tmp 35) rfl (by rfl) u4 (.slice (some ⟨w7.heap.size, 0, none⟩) 1 1) v9 w9 (by rfl) (by rfl) HR9.out ?_
        refine hK.out _ _ (KS.out _ HX9.out) (fun hHeld7 => ?_)
        clear hK K
        (try simp only [Act.put, List.getElem_toArray, List.getElem_cons_succ, List.getElem_cons_zero, List.setIfInBounds_toArray, List.set_cons_zero, List.set_cons_succ])
        refine wpAnyF_take (i := 8) (oi := _) (v := ?_) rfl (by kernel_rfl) (by kernel_rfl) (by kernel_rfl) (by kernel_rfl) (fun _ _ _ h => h) (Or.inl ⟨by rfl, ?_⟩) (by assumption) ?_
        rotate_left 1
        · intro w hSw
          (try dsimp only at hSw)
          (first | (go_simp; done) | (go_simp; with_reducible rfl))
        (try simp only [Act.put, List.getElem_toArray, List.getElem_cons_succ, List.getElem_cons_zero, List.setIfInBounds_toArray, List.set_cons_zero, List.set_cons_succ])
        refine wpAnyF_done (by kernel_rfl) ?_ _
        go_wp2
        go_roundw
        case rel => exact HR.out
        case measure => simp [intOf]; omega
      · have h12i : (12 : Int) ≤ (i : Int) := by omega
        have HIE := HI3
        obtain ⟨q, hq⟩ : ∃ q, q = (rst L).1.length := ⟨_, rfl⟩
        have hTq : T.length = q := by rw [hq, HIE.out.inv.same]
        have HKE : Hid (Calls Try.prog 14 #[u4] (wr.alloc (.cells #[.int .u8 (kd : Int), .slice A1 n1 c1, .slice A2 n2 c2] 29)) fun e w' => e = .returned (.tuple #[.int .i64 (q : Int), .bool (rst L).2]) ∧ Below (wr.alloc (.cells #[.int .u8 (kd : Int), .slice A1 n1 c1, .slice A2 n2 c2] 29)).heap.size (wr.alloc (.cells #[.int .u8 (kd : Int), .slice A1 n1 c1, .slice A2 n2 c2] 29)) w') := Lib.hid (by rw [hq]; exact kept_any u4 L _ (wr.alloc (.cells #[.int .u8 (kd : Int), .slice A1 n1 c1, .slice A2 n2 c2] 29)) HIE.out.all (by have := HIE.out.num; omega) (fun t ht => by have := HIE.out.small t ht; omega))
        have HTQ := Lib.hid hTq
        clear hq hTq
        rcases HIE.out.shS with hsh | ⟨x, y, hsh, hne, hsum, hx9, hy9⟩
        · have hc : (rst L).2 = false := by
            rw [Bool.eq_false_iff]
            intro z
            exact HIE.out.inv.told.mpr z hsh
          rw [hc] at HKE
          have HBKE : Hid (IsBook (wr.alloc (.cells #[.int .u8 (kd : Int), .slice A1 n1 c1, .slice A2 n2 c2] 29)) b u.heap.size S T []) := Lib.hid (by have := HIE.out.bk; rw [hsh] at this; exact this)
          have HBE : Hid (Below u.heap.size u (wr.alloc (.cells #[.int .u8 (kd : Int), .slice A1 n1 c1, .slice A2 n2 c2] 29))) := Lib.hid HIE.out.below
          clear hc hsh HIE
          go_wp2_with fail
          refine HKE.out.mono ?_
          rintro e w8 ⟨rfl, hb8⟩
          have HB8 := Lib.hid hb8
          have HK8 := Lib.hid (HBKE.out.below hb8)
          clear hb8
          go_wp2_with fail
          refine (bk_clash_no b u.heap.size S T w8 HK8.out).mono ?_
          rintro e w9 ⟨rfl, rfl⟩
          go_wp2_with fail
          refine (bk_len b u.heap.size S T [] w8 HK8.out).mono ?_
          rintro e w9 ⟨rfl, rfl⟩
          rw [HTQ.out]
          go_wp2_with fail
          refine (awake4_any _).mono ?_
          rintro e w9 ⟨rfl, hb9⟩
          have HF : Hid (Below u.heap.size u w9) := Lib.hid (HBE.out.trans ((HB8.out.trans (hb9.mono HB8.out.size)).mono HBE.out.size))
          clear hb9
          go_wp2
          go_ret
          exact ⟨rfl, HF.out⟩
        · have hc : (rst L).2 = true := HIE.out.inv.told.mp (by rw [hsh]; simp)
          rw [hc] at HKE
          have HBKE : Hid (IsBook (wr.alloc (.cells #[.int .u8 (kd : Int), .slice A1 n1 c1, .slice A2 n2 c2] 29)) b u.heap.size S T [x, y]) := Lib.hid (by have := HIE.out.bk; rw [hsh] at this; exact this)
          have HBE : Hid (Below u.heap.size u (wr.alloc (.cells #[.int .u8 (kd : Int), .slice A1 n1 c1, .slice A2 n2 c2] 29))) := Lib.hid HIE.out.below
          clear hc hsh HIE hne hsum
          go_wp2_with fail
          refine HKE.out.mono ?_
          rintro e w8 ⟨rfl, hb8⟩
          have HB8 := Lib.hid hb8
          have HK8 := Lib.hid (HBKE.out.below hb8)
          clear hb8
          go_wp2_with fail
          refine (bk_clash_yes b u.heap.size S T x y w8 HK8.out (by omega) (by omega)).mono ?_
          rintro e w9 ⟨A3, c3, A4, c4, rfl, hb9, _, _, _, _⟩
          have HB9 : Hid (Below u.heap.size u w9) := Lib.hid (HBE.out.trans ((HB8.out.trans (hb9.mono HB8.out.size)).mono HBE.out.size))
          clear hb9
          go_wp2_with fail
          refine (awake4_any _).mono ?_
          rintro e w10 ⟨rfl, hb10⟩
          have HF : Hid (Below u.heap.size u w10) := Lib.hid (HB9.out.trans (hb10.mono HB9.out.size))
          clear hb10
          go_wp2
          go_ret
          exact ⟨rfl, HF.out⟩
    · obtain rfl : i = n := by omega
      have HIE := HI0
      obtain ⟨q, hq⟩ : ∃ q, q = (rst L).1.length := ⟨_, rfl⟩
      have hTq : T.length = q := by rw [hq, HIE.out.inv.same]
      have HKE : Hid (Calls Try.prog 14 #[u4] (wr) fun e w' => e = .returned (.tuple #[.int .i64 (q : Int), .bool (rst L).2]) ∧ Below (wr).heap.size (wr) w') := Lib.hid (by rw [hq]; exact kept_any u4 L _ (wr) HIE.out.all (by have := HIE.out.num; omega) (fun t ht => by have := HIE.out.small t ht; omega))
      have HTQ := Lib.hid hTq
      clear hq hTq
      rcases HIE.out.shS with hsh | ⟨x, y, hsh, hne, hsum, hx9, hy9⟩
      · have hc : (rst L).2 = false := by
          rw [Bool.eq_false_iff]
          intro z
          exact HIE.out.inv.told.mpr z hsh
        rw [hc] at HKE
        have HBKE : Hid (IsBook (wr) b u.heap.size S T []) := Lib.hid (by have := HIE.out.bk; rw [hsh] at this; exact this)
        have HBE : Hid (Below u.heap.size u (wr)) := Lib.hid HIE.out.below
        clear hc hsh HIE
        go_wp2_with fail
        refine HKE.out.mono ?_
        rintro e w8 ⟨rfl, hb8⟩
        have HB8 := Lib.hid hb8
        have HK8 := Lib.hid (HBKE.out.below hb8)
        clear hb8
        go_wp2_with fail
        refine (bk_clash_no b u.heap.size S T w8 HK8.out).mono ?_
        rintro e w9 ⟨rfl, rfl⟩
        go_wp2_with fail
        refine (bk_len b u.heap.size S T [] w8 HK8.out).mono ?_
        rintro e w9 ⟨rfl, rfl⟩
        rw [HTQ.out]
        go_wp2_with fail
        refine (awake4_any _).mono ?_
        rintro e w9 ⟨rfl, hb9⟩
        have HF : Hid (Below u.heap.size u w9) := Lib.hid (HBE.out.trans ((HB8.out.trans (hb9.mono HB8.out.size)).mono HBE.out.size))
        clear hb9
        go_wp2
        go_ret
        exact ⟨rfl, HF.out⟩
      · have hc : (rst L).2 = true := HIE.out.inv.told.mp (by rw [hsh]; simp)
        rw [hc] at HKE
        have HBKE : Hid (IsBook (wr) b u.heap.size S T [x, y]) := Lib.hid (by have := HIE.out.bk; rw [hsh] at this; exact this)
        have HBE : Hid (Below u.heap.size u (wr)) := Lib.hid HIE.out.below
        clear hc hsh HIE hne hsum
        go_wp2_with fail
        refine HKE.out.mono ?_
        rintro e w8 ⟨rfl, hb8⟩
        have HB8 := Lib.hid hb8
        have HK8 := Lib.hid (HBKE.out.below hb8)
        clear hb8
        go_wp2_with fail
        refine (bk_clash_yes b u.heap.size S T x y w8 HK8.out (by omega) (by omega)).mono ?_
        rintro e w9 ⟨A3, c3, A4, c4, rfl, hb9, _, _, _, _⟩
        have HB9 : Hid (Below u.heap.size u w9) := Lib.hid (HBE.out.trans ((HB8.out.trans (hb9.mono HB8.out.size)).mono HBE.out.size))
        clear hb9
        go_wp2_with fail
        refine (awake4_any _).mono ?_
        rintro e w10 ⟨rfl, hb10⟩
        have HF : Hid (Below u.heap.size u w10) := Lib.hid (HB9.out.trans (hb10.mono HB9.out.size))
        clear hb10
        go_wp2
        go_ret
        exact ⟨rfl, HF.out⟩
end Go.Proofs.Ytgblgnmblbmnjaa
