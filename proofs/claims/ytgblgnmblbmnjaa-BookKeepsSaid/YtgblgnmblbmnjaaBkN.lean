/-
  BookShows.
-/
import Derived.Test.YtgblgnmblbmnjaaBkM
namespace Go.Proofs.Ytgblgnmblbmnjaa
open Go.RowKit Go
set_option linter.unusedVariables false
set_option linter.unusedSimpArgs false
/-- what is shown are two unlike texts of one sum -/
def ShOk (sh : List (List Nat)) : Prop := sh = [] ∨ ∃ x y, sh = [x, y] ∧ x ≠ y ∧ Sha.sum x = Sha.sum y ∧ x.length ≤ 121 ∧ y.length ≤ 121
def ShT (T : List (List Nat)) : Prop := ∀ t ∈ T, t.length ≤ 121
theorem shT_step {T : List (List Nat)} {t : List Nat} (h : ShT T) (ht : t.length ≤ 121) : ShT (bkT T t) := by
  unfold bkT
  split
  · exact h
  · split
    · intro x hx
      rcases List.mem_append.mp hx with hx | hx
      · exact h x hx
      · rw [List.mem_singleton.mp hx]; exact ht
    · exact h
theorem shOk_step {T sh : List (List Nat)} {t : List Nat} (h : ShT T) (hs : ShOk sh) (ht : t.length ≤ 121) : ShOk (bkS T sh t) := by
  unfold bkS
  split
  · exact hs
  · rename_i hn
    split
    · rename_i hc
      obtain ⟨x, L, hL⟩ : ∃ x L, atD T (Sha.sum t) = x :: L := by
        cases hq : atD T (Sha.sum t) with
        | nil => exact absurd hq hc.1
        | cons x L => exact ⟨x, L, rfl⟩
      have hx : x ∈ atD T (Sha.sum t) := by rw [hL]; exact List.mem_cons_self ..
      have hx2 : x ∈ T ∧ Sha.sum x = Sha.sum t := by unfold atD at hx; simpa using hx
      refine .inr ⟨x, t, by rw [hL]; rfl, fun e => hn (e ▸ hx2.1), hx2.2, h x hx2.1, ht⟩
    · exact hs
def BkSh (u : World) (b g : Nat) (w : World) : Prop := ∃ S T sh, IsBook w b g S T sh ∧ (∀ k, S k → u.heap.size ≤ k) ∧ ShT T ∧ ShOk sh
def BhR (u : World) (b g n : Nat) (iv : Value) (wr : World) : Prop := ∃ i : Nat, iv = .int .i64 (i : Int) ∧ i ≤ n ∧ BkSh u b g wr ∧ Below u.heap.size u wr
theorem eq32 (x y : List Nat) (h : Sha.sum x = Sha.sum y) (W : World) : (Op.equalIn 10000 32 (.agg (digA x)) (.agg (digA y))).run Try.prog W = .ok true W := by
  have h2 := equal_row 32 32 Try.underlying32 (Sha.sum x) (Sha.sum y) (bk_dig x).1 (bk_dig y).1 W
  rw [decide_eq_true h] at h2
  exact h2
set_option maxHeartbeats 8000000 in
set_option maxRecDepth 100000 in
theorem bookShows_any (A : Option Addr) (n c : Nat) (u : World) (h : TxAt u A n) (hn9 : n ≤ 9223372036854775807) (hc9 : n ≤ c) : Calls Try.prog 5 #[.slice A n c] u fun e w' => e = .returned (.bool true) ∧ Below u.heap.size u w' := by
  have hz : ∀ W, (zeroValue 29).run Try.prog W = .ok (.agg #[.int .u8 0, .slice none 0 0, .slice none 0 0]) W := fun W => by kernel_rfl
  have H := Lib.hid h
  clear h
  go_enter Try.func5, Try.ntmps5
  go_wp2_with fail
  refine (make_any _).mono ?_
  rintro e w1 ⟨rfl, hb1, ht1⟩
  have HB1 := Lib.hid hb1
  have HT1 := Lib.hid ht1
  have hw1 : u.heap.size < w1.heap.size := Row.lt ht1
  clear hb1 ht1
  go_wp2_with fail
  refine (bk_new u.heap.size w1 HT1.out).mono ?_
  rintro e w2 ⟨b, rfl, hbl, hb2, hk2⟩
  have H0 : Hid (BhR u b u.heap.size n (.int .i64 0) w2) := Lib.hid ⟨0, rfl, by omega, ⟨_, _, _, hk2, fun k hk => by omega, fun t ht => (by cases ht), .inl rfl⟩, HB1.out.trans (hb2.mono (by omega))⟩
  clear hb2 hk2
  go_wp2_with fail
  go_loopw [13] (fun iv wr => BhR u b u.heap.size n iv wr) (fun iv _ => (n - intOf iv).toNat)
  case atStart => exact H0.out
  case round =>
    clear H0
    obtain ⟨i, rfl, hi, ⟨S, T, sh, hbk, hSu, hsT, hsS⟩, hb⟩ := hrel
    have HBK := Lib.hid hbk
    have HSU := Lib.hid hSu
    have HST := Lib.hid hsT
    have HSS := Lib.hid hsS
    have HB := Lib.hid hb
    clear hbk hSu hb hsT hsS
    by_cases hlt : i < n
    · obtain ⟨ba, o, rfl, hba, hat⟩ := H.out (by omega)
      obtain ⟨kd, A1, A2, n1, n2, c1, c2, l1, l2, hkd, q0, q1, q2, b1, b2, z1, z2⟩ := hat i hlt
      have p0 : wr.cell? ⟨ba, o + i * 3, none⟩ = some (.int .u8 (kd : Int)) := (HB.out.cell (p := ⟨ba, o + i * 3, none⟩) hba).trans q0
      have p1 : wr.cell? ⟨ba, o + i * 3 + 1, none⟩ = some (.slice A1 n1 c1) := (HB.out.cell (p := ⟨ba, o + i * 3 + 1, none⟩) hba).trans q1
      have p2 : wr.cell? ⟨ba, o + i * 3 + 2, none⟩ = some (.slice A2 n2 c2) := (HB.out.cell (p := ⟨ba, o + i * 3 + 2, none⟩) hba).trans q2
      have hlt1 : ba < wr.heap.size := Nat.lt_of_lt_of_le hba HB.out.size
      have HS1 := Lib.hid b1
      have HS2 := Lib.hid b2
      have HZ1 := Lib.hid z1
      have HZ2 := Lib.hid z2
      have k1 := b1.cap.1
      have k2 := b2.cap.1
      have HX0 : Hid ((wr.alloc (.cells #[.int .u8 (kd : Int), .slice A1 n1 c1, .slice A2 n2 c2] 29)).heap[wr.heap.size]? = some (.cells #[.int .u8 (kd : Int), .slice A1 n1 c1, .slice A2 n2 c2] 29 (0, 0))) := Lib.hid (heap_alloc_new wr _)
      have HA0 : Hid (Below wr.heap.size wr (wr.alloc (.cells #[.int .u8 (kd : Int), .slice A1 n1 c1, .slice A2 n2 c2] 29))) := Lib.hid ((Below.refl _ _).alloc (Nat.le_refl _) _)
      have HN0 : Hid ((wr.alloc (.cells #[.int .u8 (kd : Int), .slice A1 n1 c1, .slice A2 n2 c2] 29)).heap.size = wr.heap.size + 1) := Lib.hid (by simp)
      clear q0 q1 q2 hat b1 b2 z1 z2
      by_cases h30 : i < 30
      · have h30i : (i : Int) < 30 := by omega
        go_wp2_with fail
        generalize hW3 : wr.alloc (.cells #[.int .u8 (kd : Int), .slice A1 n1 c1, .slice A2 n2 c2] 29) = W3 at *
        clear hW3
        have hn0 := HN0.out
        have hub := HB.out.size
        have HL := Lib.hid (two_len l1 l2)
        have HPZ : Hid (∀ W r, Below u.heap.size u W → Pt2 W r A1 A2 n1 n2 c1 c2 → PtsZ W (.slice (some ⟨r, 0, none⟩) 2 2) [l1.take 60, l2.take 60]) := Lib.hid fun W r q1 q2 => pt2_pts q2 q1 HS1.out HS2.out HZ1.out HZ2.out
        have HI : Hid ((Try.prog.info? 29).map (·.size) = some [Value.int .u8 (kd : Int), .slice A1 n1 c1, .slice A2 n2 c2].length) := Lib.hid (by rw [show [Value.int .u8 (kd : Int), .slice A1 n1 c1, .slice A2 n2 c2].length = 3 from rfl]; kernel_rfl)
        have KS : Hid (∀ W : World, W.heap[wr.heap.size]? = some (.cells #[.int .u8 (kd : Int), .slice A1 n1 c1, .slice A2 n2 c2] 29 (0, 0)) → W.cell? ⟨wr.heap.size, 0, none⟩ = some (.int .u8 (kd : Int)) ∧ W.rangeAt wr.heap.size 0 [Value.int .u8 (kd : Int), .slice A1 n1 c1, .slice A2 n2 c2]) := Lib.hid fun W hW => ⟨blk_cell hW 0, fun j v hv => by
          rw [Nat.zero_add]
          have := blk_cell hW j
          rw [this]; simpa using hv⟩
        have HK3 : Hid (IsBook W3 b u.heap.size S T sh) := Lib.hid (HBK.out.below HA0.out)
        have HB3 : Hid (Below u.heap.size u W3) := Lib.hid (HB.out.trans (HA0.out.mono hub))
        have HNS : Hid (¬ S wr.heap.size) := Lib.hid fun q => by have := HBK.out.sub q; omega
        have HUB := Lib.hid hub
        clear hn0 hub
        refine wp_region_F (S := (fun w' => w'.cell? ⟨wr.heap.size, 0, none⟩ = some (.int .u8 (kd : Int)) ∧ w'.rangeAt wr.heap.size 0 [Value.int .u8 (kd : Int), .slice A1 n1 c1, .slice A2 n2 c2])) [] (by kernel_rfl) (KS.out _ HX0.out) (fun hHeld => ?_)
        refine wpAnyF_take (i := 0) (oi := _) (v := ?_) rfl (by kernel_rfl) (by kernel_rfl) (by kernel_rfl) (by kernel_rfl) (fun _ _ _ h => h) (Or.inl ⟨by rfl, ?_⟩) (by assumption) ?_
        rotate_left 1
        · intro w hSw
          (try dsimp only at hSw)
          (first | (go_simp; done) | (go_simp; with_reducible rfl))
        (try simp only [Act.put, List.getElem_toArray, List.getElem_cons_succ, List.getElem_cons_zero, List.setIfInBounds_toArray, List.set_cons_zero, List.set_cons_succ])
        refine wpAnyF_take (i := 1) (oi := _) (v := ?_) rfl (by kernel_rfl) (by kernel_rfl) (by kernel_rfl) (by kernel_rfl) (fun _ _ _ h => h) (Or.inl ⟨by rfl, ?_⟩) (by assumption) ?_
        rotate_left 1
        · intro w hSw
          (try dsimp only at hSw)
          (first | (go_simp; done) | (go_simp; with_reducible rfl))
        (try simp only [Act.put, List.getElem_toArray, List.getElem_cons_succ, List.getElem_cons_zero, List.setIfInBounds_toArray, List.set_cons_zero, List.set_cons_succ])
        refine wpAnyF_take (i := 2) (oi := _) (v := ?_) rfl (by kernel_rfl) (by kernel_rfl) (by kernel_rfl) (by kernel_rfl) (fun _ _ _ h => h) (Or.inl ⟨by rfl, ?_⟩) (by assumption) ?_
        rotate_left 1
        · intro w hSw
          (try dsimp only at hSw)
          (first | (go_simp; done) | (go_simp; with_reducible rfl))
        (try simp only [Act.put, List.getElem_toArray, List.getElem_cons_succ, List.getElem_cons_zero, List.setIfInBounds_toArray, List.set_cons_zero, List.set_cons_succ])
        refine wpAnyF_take (i := 3) (oi := _) (v := (.agg #[.int .u8 (kd : Int), .slice A1 n1 c1, .slice A2 n2 c2])) rfl (by kernel_rfl) (by kernel_rfl) (by kernel_rfl) (by kernel_rfl) (fun _ _ _ h => h) (Or.inl ⟨by rfl, ?_⟩) (by assumption) ?_
        · intro w hSw
          (try dsimp only at hSw)
          exact exec_row 29 (.tmp 5) (by rfl) _ 0 (by rfl) _ _ hSw.2 Try.underlying29 (by rfl) HI.out
        (try simp only [Act.put, List.getElem_toArray, List.getElem_cons_succ, List.getElem_cons_zero, List.setIfInBounds_toArray, List.set_cons_zero, List.set_cons_succ])
        refine wpAnyF_ready (rs := [4]) (by kernel_rfl) (by simp) ?_
        refine AllReadyF.cons (o := _) rfl (fun K hK => ?_) AllReadyF.nil
        go_simp
        (go_at_call 9)
        refine (parts_any (kd : Int) A1 A2 n1 n2 c1 c2 W3.drew k1 k2).mono ?_
        rintro e w4 ⟨rfl, hb4, hs4, hp4⟩
        have hA : Below W3.heap.size W3 w4 := (After.drew W3).next hb4
        have HX4 : Hid (w4.heap[wr.heap.size]? = some (.cells #[.int .u8 (kd : Int), .slice A1 n1 c1, .slice A2 n2 c2] 29 (0, 0))) := Lib.hid ((hA.block _ (blk_lt HX0.out)).trans HX0.out)
        have HP4 := Lib.hid (HPZ.out w4 _ (HB3.out.trans (hA.mono HB3.out.size)) hp4).pts
        have HK4 : Hid (IsBook w4 b u.heap.size S T sh) := Lib.hid (HK3.out.below hA)
        have HB4 : Hid (Below u.heap.size u w4) := Lib.hid (HB3.out.trans (hA.mono HB3.out.size))
        clear hA hb4 hs4 hp4
        refine hK.out _ _ (KS.out _ HX4.out) (fun hHeld4 => ?_)
        clear hK K
        (try simp only [Act.put, List.getElem_toArray, List.getElem_cons_succ, List.getElem_cons_zero, List.setIfInBounds_toArray, List.set_cons_zero, List.set_cons_succ])
        refine wpAnyF_ready (rs := [5]) (by kernel_rfl) (by simp) ?_
        refine AllReadyF.cons (o := _) rfl (fun K hK => ?_) AllReadyF.nil
        go_simp
        (go_at_call 10)
        refine (bk_sum b u.heap.size kd S T sh _ [l1.take 60, l2.take 60] w4 HK4.out hkd HP4.out HL.out.1 HL.out.2.1).mono ?_
        rintro e w5 ⟨rfl, ht, hk⟩
        have HX5 : Hid (w5.heap[wr.heap.size]? = some (.cells #[.int .u8 (kd : Int), .slice A1 n1 c1, .slice A2 n2 c2] 29 (0, 0))) := Lib.hid (turns_blk ht HNS.out HX4.out)
        have htl : (txt kd [l1.take 60, l2.take 60]).length ≤ 121 := by
          unfold txt
          rw [List.length_cons]
          have := HL.out.2.2
          omega
        have HR : Hid (BhR u b u.heap.size n (.int .i64 ((i : Int) + 1)) w5) := Lib.hid ⟨i + 1, rfl, by omega, ⟨_, _, _, hk, fun k q => q.elim (HSU.out k) (fun q2 => Nat.le_trans HB4.out.size q2.1), shT_step HST.out htl, shOk_step HST.out HSS.out htl⟩, HB4.out.trans (ht.below HB4.out.size HSU.out)⟩
        clear ht hk htl
        refine hK.out _ _ (KS.out _ HX5.out) (fun hHeld5 => ?_)
        clear hK K
        (try simp only [Act.put, List.getElem_toArray, List.getElem_cons_succ, List.getElem_cons_zero, List.setIfInBounds_toArray, List.set_cons_zero, List.set_cons_succ])
        refine wpAnyF_done (by kernel_rfl) ?_ _
        go_wp2
        go_roundw
        case rel => exact HR.out
        case measure => simp [intOf]; omega
      · have h30i : (30 : Int) ≤ (i : Int) := by omega
        have HR : Hid (BhR u b u.heap.size n (.int .i64 ((i : Int) + 1)) (wr.alloc (.cells #[.int .u8 (kd : Int), .slice A1 n1 c1, .slice A2 n2 c2] 29))) := Lib.hid ⟨i + 1, rfl, by omega, ⟨_, _, _, HBK.out.below HA0.out, HSU.out, HST.out, HSS.out⟩, HB.out.trans (HA0.out.mono HB.out.size)⟩
        clear hz
        go_wp2
        go_roundw
        case rel => exact HR.out
        case measure => simp [intOf]; omega
    · obtain rfl : i = n := by omega
      rcases HSS.out with rfl | ⟨x, y, rfl, hne, hsum, hx9, hy9⟩
      · go_wp2_with fail
        refine (bk_clash_no b u.heap.size S T wr HBK.out).mono ?_
        rintro e w3 ⟨rfl, rfl⟩
        go_wp2_with fail
        refine (awake4_any _).mono ?_
        rintro e w9 ⟨rfl, hb9⟩
        have HF : Hid (Below u.heap.size u w9) := Lib.hid (HB.out.trans (hb9.mono HB.out.size))
        clear hb9
        go_wp2
        go_ret
        exact ⟨rfl, HF.out⟩
      · go_wp2_with fail
        refine (bk_clash_yes b u.heap.size S T x y wr HBK.out (by omega) (by omega)).mono ?_
        rintro e w3 ⟨A3, c3, A4, c4, rfl, hb3, hs3, hs4, hz3, hz4⟩
        have HB3 : Hid (Below u.heap.size u w3) := Lib.hid (HB.out.trans (hb3.mono HB.out.size))
        have HS3 := Lib.hid hs3
        have HS4 := Lib.hid hs4
        have HZ3 := Lib.hid hz3
        have HZ4 := Lib.hid hz4
        have hcv3 := bk_conv hs3
        have hcv4 := bk_conv hs4
        have hqq : ((str x).toList == (str y).toList) = false := str_ne hs3.byte hs4.byte hne
        have heq := eq32 x y hsum
        obtain ⟨da, hda⟩ : ∃ da, da = digA x := ⟨_, rfl⟩
        obtain ⟨db, hdb⟩ : ∃ db, db = digA y := ⟨_, rfl⟩
        have HDA := Lib.hid hda
        have HDB := Lib.hid hdb
        rw [← hda, ← hdb] at heq
        obtain ⟨m, hm⟩ : ∃ m, m = x.length := ⟨_, rfl⟩
        obtain ⟨q, hq⟩ : ∃ q, q = y.length := ⟨_, rfl⟩
        rw [← hm] at HS3 hcv3 hx9 ⊢
        rw [← hq] at HS4 hcv4 hy9 ⊢
        clear hb3 hs3 hs4 hz3 hz4 hda hdb hm hq hne hsum
        go_wp2_with fail
        refine (refSum_any A3 m c3 x w3 HS3.out HZ3.out (by omega)).mono ?_
        rintro e w4 ⟨rfl, hb4⟩
        rw [← HDA.out]
        have HB4 := Lib.hid hb4
        have HS5 : Hid (BS w4 w4.heap.size A4 q c4 y) := Lib.hid ((HS4.out.below hb4).more hb4.size)
        clear hb4
        go_wp2_with fail
        refine (refSum_any A4 q c4 y w4 HS5.out HZ4.out (by omega)).mono ?_
        rintro e w5 ⟨rfl, hb5⟩
        rw [← HDB.out]
        have HB5 : Hid (Below u.heap.size u w5) := Lib.hid (HB3.out.trans ((HB4.out.trans (hb5.mono HB4.out.size)).mono HB3.out.size))
        clear hb5
        go_wp2_with fail
        refine (awake4_any _).mono ?_
        rintro e w9 ⟨rfl, hb9⟩
        have HF : Hid (Below u.heap.size u w9) := Lib.hid (HB5.out.trans (hb9.mono HB5.out.size))
        clear hb9
        go_wp2
        go_ret
        exact ⟨rfl, HF.out⟩
end Go.Proofs.Ytgblgnmblbmnjaa
