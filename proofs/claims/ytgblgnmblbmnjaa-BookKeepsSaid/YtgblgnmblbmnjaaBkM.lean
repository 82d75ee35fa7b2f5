/-
  BookSums.
-/
import Derived.Test.YtgblgnmblbmnjaaBkK
namespace Go.Proofs.Ytgblgnmblbmnjaa
open Go.RowKit Go
set_option linter.unusedVariables false
set_option linter.unusedSimpArgs false
/-- a book of the call's own -/
def BkIn (u : World) (b g : Nat) (w : World) : Prop := ∃ S T sh, IsBook w b g S T sh ∧ ∀ k, S k → u.heap.size ≤ k
def BsR (u : World) (b g n : Nat) (iv : Value) (wr : World) : Prop := ∃ i : Nat, iv = .int .i64 (i : Int) ∧ i ≤ n ∧ BkIn u b g wr ∧ Below u.heap.size u wr
/-- two parts lie in block r -/
def Pt2 (W : World) (r : Nat) (A1 A2 : Option Addr) (n1 n2 c1 c2 : Nat) : Prop := W.heap[r]? = some (.cells #[.slice A1 (min n1 60) c1, .slice A2 (min n2 60) c2] 27 (0, 0))
theorem pt2_pts {u W : World} {r n1 n2 c1 c2 : Nat} {A1 A2 : Option Addr} {l1 l2 : List Nat} (h : Pt2 W r A1 A2 n1 n2 c1 c2) (hb : Below u.heap.size u W) (b1 : BS u u.heap.size A1 n1 c1 l1) (b2 : BS u u.heap.size A2 n2 c2 l2) (z1 : A1 = none → c1 = 0) (z2 : A2 = none → c2 = 0) :
    PtsZ W (.slice (some ⟨r, 0, none⟩) 2 2) [l1.take 60, l2.take 60] :=
  pts_two h (((bs_take60 b1).below hb).more hb.size) (((bs_take60 b2).below hb).more hb.size) z1 z2
theorem two_len (l1 l2 : List Nat) : ([l1.take 60, l2.take 60] : List (List Nat)).length ≤ 1000 ∧ ([l1.take 60, l2.take 60] : List (List Nat)).flatten.length ≤ 800000 ∧ ([l1.take 60, l2.take 60] : List (List Nat)).flatten.length ≤ 120 := by
  have h1 : (l1.take 60).length ≤ 60 := by rw [List.length_take]; omega
  have h2 : (l2.take 60).length ≤ 60 := by rw [List.length_take]; omega
  have e : ([l1.take 60, l2.take 60] : List (List Nat)).flatten.length = (l1.take 60).length + (l2.take 60).length := by simp [-List.length_take]
  refine ⟨by simp, by omega, by omega⟩
theorem txt_flat (k : Nat) (Ls : List (List Nat)) : txt k [Ls.flatten] = txt k Ls := by unfold txt; simp
theorem dig_self (da : Array Value) (l : List Nat) (h : da = digA l) (W : World) : (binOp .neq 33 (.agg da) (.agg da)).run Try.prog W = .ok (.bool false) W := by
  subst h
  rw [bk_dig_ne]
  simp
/-- what others than the book have stays when the book sums -/
theorem turns_blk {w w' : World} {S : Nat → Prop} {k : Nat} {o : Obj} (h : Turns S w w') (hk : ¬ S k) (ho : w.heap[k]? = some o) : w'.heap[k]? = some o := by
  have hlt : k < w.heap.size := (Array.getElem?_eq_some_iff.1 ho).1
  exact (h.block k hlt hk).trans ho
theorem run_cut1 (A : Option Addr) (n c : Nat) (h : 1 ≤ n) (hc : n ≤ c) (W : World) : (Instr.slice 27 (.slice A n c) (some (.int .i64 1)) none none).run Try.prog W = .ok (.slice (cutA A c 1) (n - 1) (c - 1)) W := by
  exact run_cut 27 5 Try.underlying27 size_u8 A n c 1 h W
set_option maxHeartbeats 8000000 in
set_option maxRecDepth 100000 in
theorem bookSums_any (A : Option Addr) (n c : Nat) (u : World) (h : TxAt u A n) (hn9 : n ≤ 9223372036854775807) (hc9 : n ≤ c) : Calls Try.prog 3 #[.slice A n c] u fun e w' => e = .returned (.bool true) ∧ Below u.heap.size u w' := by
  have hz : ∀ W, (zeroValue 29).run Try.prog W = .ok (.agg #[.int .u8 0, .slice none 0 0, .slice none 0 0]) W := fun W => by kernel_rfl
  have H := Lib.hid h
  clear h
  go_enter Try.func3, Try.ntmps3
  go_wp2_with fail
  refine (make_any _).mono ?_
  rintro e w1 ⟨rfl, hb1, ht1⟩
  have HB1 := Lib.hid hb1
  have HT1 := Lib.hid ht1
  have hw1 : u.heap.size < w1.heap.size := Row.lt ht1
  clear hb1 ht1
  go_wp2_with fail
  refine (bk_new u.heap.size w1 HT1.out).mono ?_
  rintro e w2 ⟨b, rfl, hbl, hb2, hk2⟩
  have H0 : Hid (BsR u b u.heap.size n (.int .i64 0) w2) := Lib.hid ⟨0, rfl, by omega, ⟨_, _, _, hk2, fun k hk => by omega⟩, HB1.out.trans (hb2.mono (by omega))⟩
  clear hb2 hk2
  go_wp2_with fail
  go_loopw [11] (fun iv wr => BsR u b u.heap.size n iv wr) (fun iv _ => (n - intOf iv).toNat)
  case atStart => exact H0.out
  case round =>
    clear H0
    obtain ⟨i, rfl, hi, ⟨S, T, sh, hbk, hSu⟩, hb⟩ := hrel
    have HBK := Lib.hid hbk
    have HSU := Lib.hid hSu
    have HB := Lib.hid hb
    clear hbk hSu hb
    by_cases hlt : i < n
    · obtain ⟨ba, o, rfl, hba, hat⟩ := H.out (by omega)
      obtain ⟨kd, A1, A2, n1, n2, c1, c2, l1, l2, hkd, q0, q1, q2, b1, b2, z1, z2⟩ := hat i hlt
      have p0 : wr.cell? ⟨ba, o + i * 3, none⟩ = some (.int .u8 (kd : Int)) := (HB.out.cell (p := ⟨ba, o + i * 3, none⟩) hba).trans q0
      have p1 : wr.cell? ⟨ba, o + i * 3 + 1, none⟩ = some (.slice A1 n1 c1) := (HB.out.cell (p := ⟨ba, o + i * 3 + 1, none⟩) hba).trans q1
      have p2 : wr.cell? ⟨ba, o + i * 3 + 2, none⟩ = some (.slice A2 n2 c2) := (HB.out.cell (p := ⟨ba, o + i * 3 + 2, none⟩) hba).trans q2
      have hlt1 : ba < wr.heap.size := Nat.lt_of_lt_of_le hba HB.out.size
      have HS1 := Lib.hid b1
      have HS2 := Lib.hid b2
      have HZ1 := Lib.hid z1
      have HZ2 := Lib.hid z2
      have k1 := b1.cap.1
      have k2 := b2.cap.1
      have HX0 : Hid ((wr.alloc (.cells #[.int .u8 (kd : Int), .slice A1 n1 c1, .slice A2 n2 c2] 29)).heap[wr.heap.size]? = some (.cells #[.int .u8 (kd : Int), .slice A1 n1 c1, .slice A2 n2 c2] 29 (0, 0))) := Lib.hid (heap_alloc_new wr _)
      have HA0 : Hid (Below wr.heap.size wr (wr.alloc (.cells #[.int .u8 (kd : Int), .slice A1 n1 c1, .slice A2 n2 c2] 29))) := Lib.hid ((Below.refl _ _).alloc (Nat.le_refl _) _)
      have HN0 : Hid ((wr.alloc (.cells #[.int .u8 (kd : Int), .slice A1 n1 c1, .slice A2 n2 c2] 29)).heap.size = wr.heap.size + 1) := Lib.hid (by simp)
      clear q0 q1 q2 hat b1 b2 z1 z2
      by_cases h12 : i < 12
      · have h12i : (i : Int) < 12 := by omega
        go_wp2_with fail
        generalize hW3 : wr.alloc (.cells #[.int .u8 (kd : Int), .slice A1 n1 c1, .slice A2 n2 c2] 29) = W3 at *
        clear hW3
        refine (parts_any (kd : Int) A1 A2 n1 n2 c1 c2 W3 k1 k2).mono ?_
        rintro e w4 ⟨rfl, hb4, hs4, hp4⟩
        obtain ⟨r, hr⟩ : ∃ r, r = W3.heap.size + 1 := ⟨_, rfl⟩
        have hn0 := HN0.out
        have hub := HB.out.size
        have HP4 : Hid (Pt2 w4 r A1 A2 n1 n2 c1 c2) := Lib.hid (by rw [hr]; exact hp4)
        have HX4 : Hid (w4.heap[wr.heap.size]? = some (.cells #[.int .u8 (kd : Int), .slice A1 n1 c1, .slice A2 n2 c2] 29 (0, 0))) := Lib.hid ((hb4.block _ (by omega)).trans HX0.out)
        have HA4 : Hid (Below wr.heap.size wr w4) := Lib.hid (HA0.out.trans (hb4.mono (by omega)))
        have HB4 : Hid (Below u.heap.size u w4) := Lib.hid (HB.out.trans (HA4.out.mono hub))
        have HK4 : Hid (IsBook w4 b u.heap.size S T sh) := Lib.hid (HBK.out.below HA4.out)
        have HNS : Hid (¬ S wr.heap.size ∧ ¬ S r) := Lib.hid ⟨fun q => by have := HBK.out.sub q; omega, fun q => by have := HBK.out.sub q; omega⟩
        have HS4 : Hid (wr.heap.size < w4.heap.size ∧ r < w4.heap.size ∧ u.heap.size ≤ wr.heap.size) := Lib.hid ⟨by omega, by omega, hub⟩
        have hl := two_len l1 l2
        have HPZ : Hid (∀ W, Below u.heap.size u W → Pt2 W r A1 A2 n1 n2 c1 c2 → PtsZ W (.slice (some ⟨r, 0, none⟩) 2 2) [l1.take 60, l2.take 60]) := Lib.hid fun W q1 q2 => pt2_pts q2 q1 HS1.out HS2.out HZ1.out HZ2.out
        obtain ⟨Ls, hLs⟩ : ∃ Ls : List (List Nat), Ls = [l1.take 60, l2.take 60] := ⟨_, rfl⟩
        rw [← hLs] at hl HPZ
        have HL := Lib.hid hl
        obtain ⟨tx, htx⟩ : ∃ tx, tx = txt kd Ls := ⟨_, rfl⟩
        have HTX := Lib.hid htx
        obtain ⟨m7, hm7⟩ : ∃ m7, m7 = tx.length := ⟨_, rfl⟩
        have HM7 := Lib.hid hm7
        have hm8 : m7 = Ls.flatten.length + 1 := by rw [hm7, htx]; unfold txt; simp
        have hm1 : 1 ≤ m7 := by omega
        obtain ⟨m6, hm6⟩ : ∃ m6, m6 = m7 - 1 := ⟨_, rfl⟩
        have HM6 := Lib.hid hm6
        have HM8 := Lib.hid hm8
        obtain ⟨da, hda⟩ : ∃ da, da = digA tx := ⟨_, rfl⟩
        have HDA := Lib.hid hda
        have HNE : Hid (∀ W, (binOp .neq 33 (.agg da) (.agg da)).run Try.prog W = .ok (.bool false) W) := Lib.hid fun W => dig_self da tx hda W
        have KS : Hid (∀ W : World, W.heap[wr.heap.size]? = some (.cells #[.int .u8 (kd : Int), .slice A1 n1 c1, .slice A2 n2 c2] 29 (0, 0)) → W.cell? ⟨wr.heap.size, 0, none⟩ = some (.int .u8 (kd : Int))) := Lib.hid fun W hW => blk_cell hW 0
        have hrr : W3.heap.size + 1 = r := hr.symm
        rw [hrr]
        clear hb4 hs4 hp4 hr hn0 hub hl hLs htx hm7 hm8 hm6 hda hrr HX0 HA0 HN0 HB HBK HA4
        go_wp2_with fail
        have HK5 : Hid (IsBook w4.drew b u.heap.size S T sh) := Lib.hid (HK4.out.below (After.drew w4))
        have HX5 : Hid (w4.drew.heap[wr.heap.size]? = some (.cells #[.int .u8 (kd : Int), .slice A1 n1 c1, .slice A2 n2 c2] 29 (0, 0))) := Lib.hid HX4.out
        have HP5 : Hid (Pt2 w4.drew r A1 A2 n1 n2 c1 c2) := Lib.hid HP4.out
        have HB5 : Hid (Below u.heap.size u w4.drew) := Lib.hid HB4.out.drew
        have HSU5 := HSU
        have HNS5 := HNS
        refine wp_region_F (S := (fun w' => w'.cell? ⟨wr.heap.size, 0, none⟩ = some (.int .u8 (kd : Int)))) [] (by kernel_rfl) (KS.out _ HX4.out) (fun hHeld => ?_)
        refine wpAnyF_take (i := 0) (oi := _) (v := ?_) rfl (by kernel_rfl) (by kernel_rfl) (by kernel_rfl) (by kernel_rfl) (fun _ _ _ h => h) (Or.inl ⟨by rfl, ?_⟩) (by assumption) ?_
        rotate_left 1
        · intro w hSw
          (try dsimp only at hSw)
          (first | (go_simp; done) | (go_simp; with_reducible rfl))
        (try simp only [Act.put, List.getElem_toArray, List.getElem_cons_succ, List.getElem_cons_zero, List.setIfInBounds_toArray, List.set_cons_zero, List.set_cons_succ])
        refine wpAnyF_take (i := 1) (oi := _) (v := ?_) rfl (by kernel_rfl) (by kernel_rfl) (by kernel_rfl) (by kernel_rfl) (fun _ _ _ h => h) (Or.inl ⟨by rfl, ?_⟩) (by assumption) ?_
        rotate_left 1
        · intro w hSw
          (try dsimp only at hSw)
          (first | (go_simp; done) | (go_simp; with_reducible rfl))
        (try simp only [Act.put, List.getElem_toArray, List.getElem_cons_succ, List.getElem_cons_zero, List.setIfInBounds_toArray, List.set_cons_zero, List.set_cons_succ])
        refine wpAnyF_take (i := 2) (oi := _) (v := ?_) rfl (by kernel_rfl) (by kernel_rfl) (by kernel_rfl) (by kernel_rfl) (fun _ _ _ h => h) (Or.inl ⟨by rfl, ?_⟩) (by assumption) ?_
        rotate_left 1
        · intro w hSw
          (try dsimp only at hSw)
          (first | (go_simp; done) | (go_simp; with_reducible rfl))
        (try simp only [Act.put, List.getElem_toArray, List.getElem_cons_succ, List.getElem_cons_zero, List.setIfInBounds_toArray, List.set_cons_zero, List.set_cons_succ])
        refine wpAnyF_take (i := 3) (oi := _) (v := ?_) rfl (by kernel_rfl) (by kernel_rfl) (by kernel_rfl) (by kernel_rfl) (fun _ _ _ h => h) (Or.inl ⟨by rfl, ?_⟩) (by assumption) ?_
        rotate_left 1
        · intro w hSw
          (try dsimp only at hSw)
          (first | (go_simp; done) | (go_simp; with_reducible rfl))
        (try simp only [Act.put, List.getElem_toArray, List.getElem_cons_succ, List.getElem_cons_zero, List.setIfInBounds_toArray, List.set_cons_zero, List.set_cons_succ])
        refine wpAnyF_take (i := 5) (oi := _) (v := ?_) rfl (by kernel_rfl) (by kernel_rfl) (by kernel_rfl) (by kernel_rfl) (fun _ _ _ h => h) (Or.inl ⟨by rfl, ?_⟩) (by assumption) ?_
        rotate_left 1
        · intro w hSw
          (try dsimp only at hSw)
          (first | (go_simp; done) | (go_simp; with_reducible rfl))
        (try simp only [Act.put, List.getElem_toArray, List.getElem_cons_succ, List.getElem_cons_zero, List.setIfInBounds_toArray, List.set_cons_zero, List.set_cons_succ])
        refine wpAnyF_take (i := 6) (oi := _) (v := ?_) rfl (by kernel_rfl) (by kernel_rfl) (by kernel_rfl) (by kernel_rfl) (fun _ _ _ h => h) (Or.inl ⟨by rfl, ?_⟩) (by assumption) ?_
        rotate_left 1
        · intro w hSw
          (try dsimp only at hSw)
          (first | (go_simp; done) | (go_simp; with_reducible rfl))
        (try simp only [Act.put, List.getElem_toArray, List.getElem_cons_succ, List.getElem_cons_zero, List.setIfInBounds_toArray, List.set_cons_zero, List.set_cons_succ])
        refine wpAnyF_take (i := 7) (oi := _) (v := ?_) rfl (by kernel_rfl) (by kernel_rfl) (by kernel_rfl) (by kernel_rfl) (fun _ _ _ h => h) (Or.inl ⟨by rfl, ?_⟩) (by assumption) ?_
        rotate_left 1
        · intro w hSw
          (try dsimp only at hSw)
          (first | (go_simp; done) | (go_simp; with_reducible rfl))
        (try simp only [Act.put, List.getElem_toArray, List.getElem_cons_succ, List.getElem_cons_zero, List.setIfInBounds_toArray, List.set_cons_zero, List.set_cons_succ])
        refine wpAnyF_ready (rs := [4]) (by kernel_rfl) (by simp) ?_
        refine AllReadyF.cons (o := _) rfl (fun K hK => ?_) AllReadyF.nil
        go_simp
        (go_at_call 10)
        refine (bk_sum b u.heap.size kd (S) (T) (sh) _ Ls _ (HK5.out) hkd ((HPZ.out _ HB5.out HP5.out).pts) HL.out.1 HL.out.2.1).mono ?_
        rintro e w6 ⟨rfl, ht, hk⟩
        rw [← HTX.out] at hk ⊢
        rw [← HDA.out]
        have HX6 : Hid (w6.heap[wr.heap.size]? = some (.cells #[.int .u8 (kd : Int), .slice A1 n1 c1, .slice A2 n2 c2] 29 (0, 0))) := Lib.hid (turns_blk ht HNS5.out.1 HX5.out)
        have HP6 : Hid (Pt2 w6 r A1 A2 n1 n2 c1 c2) := Lib.hid (turns_blk ht HNS5.out.2 HP5.out)
        have HB6 : Hid (Below u.heap.size u w6) := Lib.hid (HB5.out.trans (ht.below HB5.out.size HSU5.out))
        have hzz := ht.size
        obtain ⟨S6, T6, sh6, hk, hSU, hNS⟩ : ∃ S6 T6 sh6, IsBook w6 b u.heap.size S6 T6 sh6 ∧ (∀ k, S6 k → u.heap.size ≤ k) ∧ (¬ S6 wr.heap.size ∧ ¬ S6 r) := ⟨_, _, _, hk, fun k q => q.elim (HSU5.out k) (fun q2 => Nat.le_trans HB5.out.size q2.1), fun q => q.elim HNS5.out.1 (fun q2 => by have := (blk_lt HX5.out); omega), fun q => q.elim HNS5.out.2 (fun q2 => by have := (blk_lt HP5.out); omega)⟩
        have HK6 := Lib.hid hk
        have HSU6 := Lib.hid hSU
        have HNS6 := Lib.hid hNS
        clear ht hk hSU hNS hzz
        refine hK.out _ _ (KS.out _ HX6.out) (fun hHeld4 => ?_)
        clear hK K
        (try simp only [Act.put, List.getElem_toArray, List.getElem_cons_succ, List.getElem_cons_zero, List.setIfInBounds_toArray, List.set_cons_zero, List.set_cons_succ])
        refine wpAnyF_ready (rs := [8]) (by kernel_rfl) (by simp) ?_
        refine AllReadyF.cons (o := _) rfl (fun K hK => ?_) AllReadyF.nil
        go_simp
        (go_at_call 11)
        refine (rsum_any kd hkd _ Ls w6 (HPZ.out _ HB6.out HP6.out) HL.out.1 HL.out.2.1).mono ?_
        rintro e w7 ⟨rfl, hb⟩
        rw [← HTX.out, ← HDA.out]
        have HX7 : Hid (w7.heap[wr.heap.size]? = some (.cells #[.int .u8 (kd : Int), .slice A1 n1 c1, .slice A2 n2 c2] 29 (0, 0))) := Lib.hid ((hb.block _ (blk_lt HX6.out)).trans HX6.out)
        have HP7 : Hid (Pt2 w7 r A1 A2 n1 n2 c1 c2) := Lib.hid ((hb.block _ (blk_lt HP6.out)).trans HP6.out)
        have HB7 : Hid (Below u.heap.size u w7) := Lib.hid (HB6.out.trans (hb.mono HB6.out.size))
        have HK7 : Hid (IsBook w7 b u.heap.size S6 T6 sh6) := Lib.hid (HK6.out.below hb)
        clear hb
        refine hK.out _ _ (KS.out _ HX7.out) (fun hHeld8 => ?_)
        clear hK K
        (try simp only [Act.put, List.getElem_toArray, List.getElem_cons_succ, List.getElem_cons_zero, List.setIfInBounds_toArray, List.set_cons_zero, List.set_cons_succ])
        refine wpAnyF_take (i := 9) (oi := _) (v := (.bool false)) rfl (by kernel_rfl) (by kernel_rfl) (by kernel_rfl) (by kernel_rfl) (fun _ _ _ h => h) (Or.inl ⟨by rfl, ?_⟩) (by assumption) ?_
        · intro w hSw
          (try dsimp only at hSw)
          exact exec_bin .neq 33 _ (.tmp 24) (.tmp 28) (by rfl) _ _ _ (by rfl) (by rfl) (bk_guard_ne _ _ _ _ _) (HNE.out w)
        (try simp only [Act.put, List.getElem_toArray, List.getElem_cons_succ, List.getElem_cons_zero, List.setIfInBounds_toArray, List.set_cons_zero, List.set_cons_succ])
        refine wpAnyF_take (i := 10) (oi := _) (v := ?_) rfl (by kernel_rfl) (by kernel_rfl) (by kernel_rfl) (by kernel_rfl) (fun _ _ _ h => h) (Or.inl ⟨by rfl, ?_⟩) (by assumption) ?_
        rotate_left 1
        · intro w hSw
          (try dsimp only at hSw)
          (first | (go_simp; done) | (go_simp; with_reducible rfl))
        (try simp only [Act.put, List.getElem_toArray, List.getElem_cons_succ, List.getElem_cons_zero, List.setIfInBounds_toArray, List.set_cons_zero, List.set_cons_succ])
        refine wpAnyF_take (i := 11) (oi := _) (v := ?_) rfl (by kernel_rfl) (by kernel_rfl) (by kernel_rfl) (by kernel_rfl) (fun _ _ _ h => h) (Or.inl ⟨by rfl, ?_⟩) (by assumption) ?_
        rotate_left 1
        · intro w hSw
          (try dsimp only at hSw)
          (first | (go_simp; done) | (go_simp; with_reducible rfl))
        (try simp only [Act.put, List.getElem_toArray, List.getElem_cons_succ, List.getElem_cons_zero, List.setIfInBounds_toArray, List.set_cons_zero, List.set_cons_succ])
        refine wpAnyF_take (i := 12) (oi := _) (v := ?_) rfl (by kernel_rfl) (by kernel_rfl) (by kernel_rfl) (by kernel_rfl) (fun _ _ _ h => h) (Or.inl ⟨by rfl, ?_⟩) (by assumption) ?_
        rotate_left 1
        · intro w hSw
          (try dsimp only at hSw)
          (first | (go_simp; done) | (go_simp; with_reducible rfl))
        (try simp only [Act.put, List.getElem_toArray, List.getElem_cons_succ, List.getElem_cons_zero, List.setIfInBounds_toArray, List.set_cons_zero, List.set_cons_succ])
        refine wpAnyF_take (i := 13) (oi := _) (v := ?_) rfl (by kernel_rfl) (by kernel_rfl) (by kernel_rfl) (by kernel_rfl) (fun _ _ _ h => h) (Or.inl ⟨by rfl, ?_⟩) (by assumption) ?_
        rotate_left 1
        · intro w hSw
          (try dsimp only at hSw)
          (first | (go_simp; done) | (go_simp; with_reducible rfl))
        (try simp only [Act.put, List.getElem_toArray, List.getElem_cons_succ, List.getElem_cons_zero, List.setIfInBounds_toArray, List.set_cons_zero, List.set_cons_succ])
        refine wpAnyF_take (i := 14) (oi := _) (v := ?_) rfl (by kernel_rfl) (by kernel_rfl) (by kernel_rfl) (by kernel_rfl) (fun _ _ _ h => h) (Or.inl ⟨by rfl, ?_⟩) (by assumption) ?_
        rotate_left 1
        · intro w hSw
          (try dsimp only at hSw)
          (first | (go_simp; done) | (go_simp; with_reducible rfl))
        (try simp only [Act.put, List.getElem_toArray, List.getElem_cons_succ, List.getElem_cons_zero, List.setIfInBounds_toArray, List.set_cons_zero, List.set_cons_succ])
        refine wpAnyF_take (i := 15) (oi := _) (v := ?_) rfl (by kernel_rfl) (by kernel_rfl) (by kernel_rfl) (by kernel_rfl) (fun _ _ _ h => h) (Or.inl ⟨by rfl, ?_⟩) (by assumption) ?_
        rotate_left 1
        · intro w hSw
          (try dsimp only at hSw)
          (first | (go_simp; done) | (go_simp; with_reducible rfl))
        (try simp only [Act.put, List.getElem_toArray, List.getElem_cons_succ, List.getElem_cons_zero, List.setIfInBounds_toArray, List.set_cons_zero, List.set_cons_succ])
        refine wpAnyF_take (i := 16) (oi := _) (v := ?_) rfl (by kernel_rfl) (by kernel_rfl) (by kernel_rfl) (by kernel_rfl) (fun _ _ _ h => h) (Or.inl ⟨by rfl, ?_⟩) (by assumption) ?_
        rotate_left 1
        · intro w hSw
          (try dsimp only at hSw)
          (first | (go_simp; done) | (go_simp; with_reducible rfl))
        (try simp only [Act.put, List.getElem_toArray, List.getElem_cons_succ, List.getElem_cons_zero, List.setIfInBounds_toArray, List.set_cons_zero, List.set_cons_succ])
        refine wpAnyF_take (i := 21) (oi := _) (v := ?_) rfl (by kernel_rfl) (by kernel_rfl) (by kernel_rfl) (by kernel_rfl) (fun _ _ _ h => h) (Or.inl ⟨by rfl, ?_⟩) (by assumption) ?_
        rotate_left 1
        · intro w hSw
          (try dsimp only at hSw)
          (first | (go_simp; done) | (go_simp; with_reducible rfl))
        (try simp only [Act.put, List.getElem_toArray, List.getElem_cons_succ, List.getElem_cons_zero, List.setIfInBounds_toArray, List.set_cons_zero, List.set_cons_succ])
        refine wpAnyF_take (i := 22) (oi := _) (v := ?_) rfl (by kernel_rfl) (by kernel_rfl) (by kernel_rfl) (by kernel_rfl) (fun _ _ _ h => h) (Or.inl ⟨by rfl, ?_⟩) (by assumption) ?_
        rotate_left 1
        · intro w hSw
          (try dsimp only at hSw)
          (first | (go_simp; done) | (go_simp; with_reducible rfl))
        (try simp only [Act.put, List.getElem_toArray, List.getElem_cons_succ, List.getElem_cons_zero, List.setIfInBounds_toArray, List.set_cons_zero, List.set_cons_succ])
        refine wpAnyF_take (i := 23) (oi := _) (v := ?_) rfl (by kernel_rfl) (by kernel_rfl) (by kernel_rfl) (by kernel_rfl) (fun _ _ _ h => h) (Or.inl ⟨by rfl, ?_⟩) (by assumption) ?_
        rotate_left 1
        · intro w hSw
          (try dsimp only at hSw)
          (first | (go_simp; done) | (go_simp; with_reducible rfl))
        (try simp only [Act.put, List.getElem_toArray, List.getElem_cons_succ, List.getElem_cons_zero, List.setIfInBounds_toArray, List.set_cons_zero, List.set_cons_succ])
        refine wpAnyF_ready (rs := [17]) (by kernel_rfl) (by simp) ?_
        refine AllReadyF.cons (o := _) rfl (fun K hK => ?_) AllReadyF.nil
        go_simp
        (go_at_call 12)
        refine (text_any kd hkd _ Ls w7 (HPZ.out _ HB7.out HP7.out) HL.out.1 HL.out.2.1).mono ?_
        rintro e w8 ⟨A7, c7, rfl, hb, hs7, hz7⟩
        rw [← HTX.out] at hs7
        rw [← HTX.out]
        rw [← HM7.out] at hs7
        rw [← HM7.out]
        have HX8 : Hid (w8.heap[wr.heap.size]? = some (.cells #[.int .u8 (kd : Int), .slice A1 n1 c1, .slice A2 n2 c2] 29 (0, 0))) := Lib.hid ((hb.block _ (blk_lt HX7.out)).trans HX7.out)
        have HP8 : Hid (Pt2 w8 r A1 A2 n1 n2 c1 c2) := Lib.hid ((hb.block _ (blk_lt HP7.out)).trans HP7.out)
        have HB8 : Hid (Below u.heap.size u w8) := Lib.hid (HB7.out.trans (hb.mono HB7.out.size))
        have HK8 : Hid (IsBook w8 b u.heap.size S6 T6 sh6) := Lib.hid (HK7.out.below hb)
        have hcap7 := hs7.cap.1
        have hcut : ∀ W, (Instr.slice 27 (.slice A7 m7 c7) (some (.int .i64 1)) none none).run Try.prog W = .ok (.slice (cutA A7 c7 1) m6 (c7 - 1)) W := fun W => by rw [HM6.out]; exact run_cut1 A7 m7 c7 hm1 hcap7 W
        obtain ⟨c6, hc6⟩ : ∃ c6, c6 = c7 - 1 := ⟨_, rfl⟩
        obtain ⟨A6, hA6⟩ : ∃ A6, A6 = cutA A7 c7 1 := ⟨_, rfl⟩
        rw [← hc6, ← hA6] at hcut
        have HS6 : Hid (BS w8 w8.heap.size A6 m6 c6 (tx.drop 1)) := Lib.hid (by rw [hA6, hc6, HM6.out]; exact hs7.cut hm1)
        have HZ6 : Hid (A6 = none → c6 = 0) := Lib.hid (fun e => by
          obtain ⟨bb, oo, e2, _⟩ := hs7.at_ (by omega)
          rw [hA6, e2] at e
          unfold cutA at e
          split at e <;> cases e)
        clear hb hs7 hz7 hc6 hA6
        refine hK.out _ _ (KS.out _ HX8.out) (fun hHeld17 => ?_)
        clear hK K
        (try simp only [Act.put, List.getElem_toArray, List.getElem_cons_succ, List.getElem_cons_zero, List.setIfInBounds_toArray, List.set_cons_zero, List.set_cons_succ])
        refine wpAnyF_take (i := 18) (oi := _) (v := ?_) rfl (by kernel_rfl) (by kernel_rfl) (by kernel_rfl) (by kernel_rfl) (fun _ _ _ h => h) (Or.inl ⟨by rfl, ?_⟩) (by assumption) ?_
        rotate_left 1
        · intro w hSw
          (try dsimp only at hSw)
          (first | (go_simp; done) | (go_simp; with_reducible rfl))
        (try simp only [Act.put, List.getElem_toArray, List.getElem_cons_succ, List.getElem_cons_zero, List.setIfInBounds_toArray, List.set_cons_zero, List.set_cons_succ])
        have hb9 : Below w8.heap.size w8 (w8.alloc (.cells #[.slice A6 m6 c6] 27)) := (Below.refl _ _).alloc (Nat.le_refl _) _
        have HPT : Hid (PtsZ (w8.alloc (.cells #[.slice A6 m6 c6] 27)) (.slice (some ⟨w8.heap.size, 0, none⟩) 1 1) [tx.drop 1]) := Lib.hid (pts_one (heap_alloc_new w8 _) ((HS6.out.below hb9).more hb9.size) HZ6.out)
        obtain ⟨w9, hw9⟩ : ∃ w9, w9 = w8.alloc (.cells #[.slice A6 m6 c6] 27) := ⟨_, rfl⟩
        rw [← hw9] at hb9 HPT
        have HX9 : Hid (w9.heap[wr.heap.size]? = some (.cells #[.int .u8 (kd : Int), .slice A1 n1 c1, .slice A2 n2 c2] 29 (0, 0))) := Lib.hid ((hb9.block _ (blk_lt HX8.out)).trans HX8.out)
        have HP9 : Hid (Pt2 w9 r A1 A2 n1 n2 c1 c2) := Lib.hid ((hb9.block _ (blk_lt HP8.out)).trans HP8.out)
        have HB9 : Hid (Below u.heap.size u w9) := Lib.hid (HB8.out.trans (hb9.mono HB8.out.size))
        have HK9 : Hid (IsBook w9 b u.heap.size S6 T6 sh6) := Lib.hid (HK8.out.below hb9)
        have HW9 := Lib.hid hw9
        have HSU9 := HSU6
        have HNS9 := HNS6
        clear hb9 hw9
        refine wpAnyF_ready (rs := [19]) (by kernel_rfl) (by simp) ?_
        refine AllReadyF.cons (o := _) rfl (fun K hK => ?_) AllReadyF.nil
        go_simp
        rw [← HW9.out]
        refine hK.out _ _ (KS.out _ HX9.out) (fun hHeld19 => ?_)
        clear hK K
        (try simp only [Act.put, List.getElem_toArray, List.getElem_cons_succ, List.getElem_cons_zero, List.setIfInBounds_toArray, List.set_cons_zero, List.set_cons_succ])
        refine wpAnyF_ready (rs := [20]) (by kernel_rfl) (by simp) ?_
        refine AllReadyF.cons (o := _) rfl (fun K hK => ?_) AllReadyF.nil
        go_simp
        (go_at_call 10)
        refine (bk_sum b u.heap.size kd (S6) (T6) (sh6) _ [tx.drop 1] _ (HK9.out) hkd (HPT.out.pts) (by simp) (by have := HL.out.2.2; have := HM8.out; have := HM7.out; simp; omega)).mono ?_
        rintro e w10 ⟨rfl, ht, hk⟩
        have hq9 : txt kd [tx.drop 1] = tx := by rw [HTX.out]; exact txt_flat kd Ls
        rw [hq9] at hk ⊢
        rw [← HDA.out]
        clear hq9
        have HX10 : Hid (w10.heap[wr.heap.size]? = some (.cells #[.int .u8 (kd : Int), .slice A1 n1 c1, .slice A2 n2 c2] 29 (0, 0))) := Lib.hid (turns_blk ht HNS9.out.1 HX9.out)
        have HP10 : Hid (Pt2 w10 r A1 A2 n1 n2 c1 c2) := Lib.hid (turns_blk ht HNS9.out.2 HP9.out)
        have HB10 : Hid (Below u.heap.size u w10) := Lib.hid (HB9.out.trans (ht.below HB9.out.size HSU9.out))
        have hzz := ht.size
        obtain ⟨S10, T10, sh10, hk, hSU, hNS⟩ : ∃ S10 T10 sh10, IsBook w10 b u.heap.size S10 T10 sh10 ∧ (∀ k, S10 k → u.heap.size ≤ k) ∧ (¬ S10 wr.heap.size ∧ ¬ S10 r) := ⟨_, _, _, hk, fun k q => q.elim (HSU9.out k) (fun q2 => Nat.le_trans HB9.out.size q2.1), fun q => q.elim HNS9.out.1 (fun q2 => by have := (blk_lt HX9.out); omega), fun q => q.elim HNS9.out.2 (fun q2 => by have := (blk_lt HP9.out); omega)⟩
        have HK10 := Lib.hid hk
        have HSU10 := Lib.hid hSU
        have HNS10 := Lib.hid hNS
        clear ht hk hSU hNS hzz
        refine hK.out _ _ (KS.out _ HX10.out) (fun hHeld20 => ?_)
        clear hK K
        (try simp only [Act.put, List.getElem_toArray, List.getElem_cons_succ, List.getElem_cons_zero, List.setIfInBounds_toArray, List.set_cons_zero, List.set_cons_succ])
        refine wpAnyF_ready (rs := [24]) (by kernel_rfl) (by simp) ?_
        refine AllReadyF.cons (o := _) rfl (fun K hK => ?_) AllReadyF.nil
        go_simp
        (go_at_call 11)
        refine (rsum_any kd hkd _ Ls w10 (HPZ.out _ HB10.out HP10.out) HL.out.1 HL.out.2.1).mono ?_
        rintro e w11 ⟨rfl, hb⟩
        rw [← HTX.out, ← HDA.out]
        have HX11 : Hid (w11.heap[wr.heap.size]? = some (.cells #[.int .u8 (kd : Int), .slice A1 n1 c1, .slice A2 n2 c2] 29 (0, 0))) := Lib.hid ((hb.block _ (blk_lt HX10.out)).trans HX10.out)
        have HP11 : Hid (Pt2 w11 r A1 A2 n1 n2 c1 c2) := Lib.hid ((hb.block _ (blk_lt HP10.out)).trans HP10.out)
        have HB11 : Hid (Below u.heap.size u w11) := Lib.hid (HB10.out.trans (hb.mono HB10.out.size))
        have HK11 : Hid (IsBook w11 b u.heap.size S10 T10 sh10) := Lib.hid (HK10.out.below hb)
        clear hb
        refine hK.out _ _ (KS.out _ HX11.out) (fun hHeld24 => ?_)
        clear hK K
        (try simp only [Act.put, List.getElem_toArray, List.getElem_cons_succ, List.getElem_cons_zero, List.setIfInBounds_toArray, List.set_cons_zero, List.set_cons_succ])
        refine wpAnyF_take (i := 25) (oi := _) (v := (.bool false)) rfl (by kernel_rfl) (by kernel_rfl) (by kernel_rfl) (by kernel_rfl) (fun _ _ _ h => h) (Or.inl ⟨by rfl, ?_⟩) (by assumption) ?_
        · intro w hSw
          (try dsimp only at hSw)
          exact exec_bin .neq 33 _ (.tmp 40) (.tmp 44) (by rfl) _ _ _ (by rfl) (by rfl) (bk_guard_ne _ _ _ _ _) (HNE.out w)
        (try simp only [Act.put, List.getElem_toArray, List.getElem_cons_succ, List.getElem_cons_zero, List.setIfInBounds_toArray, List.set_cons_zero, List.set_cons_succ])
        refine wpAnyF_take (i := 26) (oi := _) (v := ?_) rfl (by kernel_rfl) (by kernel_rfl) (by kernel_rfl) (by kernel_rfl) (fun _ _ _ h => h) (Or.inl ⟨by rfl, ?_⟩) (by assumption) ?_
        rotate_left 1
        · intro w hSw
          (try dsimp only at hSw)
          (first | (go_simp; done) | (go_simp; with_reducible rfl))
        (try simp only [Act.put, List.getElem_toArray, List.getElem_cons_succ, List.getElem_cons_zero, List.setIfInBounds_toArray, List.set_cons_zero, List.set_cons_succ])
        refine wpAnyF_done (by kernel_rfl) ?_ _
        have HR : Hid (BsR u b u.heap.size n (.int .i64 ((i : Int) + 1)) w11) := Lib.hid ⟨i + 1, rfl, by omega, ⟨S10, T10, sh10, HK11.out, HSU10.out⟩, HB11.out⟩
        go_wp2
        go_roundw
        case rel => exact HR.out
        case measure => simp [intOf]; omega
      · have h12i : (12 : Int) ≤ (i : Int) := by omega
        go_wp2_with fail
        refine (awake4_any _).mono ?_
        rintro e w9 ⟨rfl, hb9⟩
        have HF : Hid (Below u.heap.size u w9) := Lib.hid ((HB.out.trans (HA0.out.mono HB.out.size)).trans (hb9.mono (Nat.le_trans HB.out.size HA0.out.size)))
        clear hb9
        go_wp2
        go_ret
        exact ⟨rfl, HF.out⟩
    · obtain rfl : i = n := by omega
      go_wp2_with fail
      refine (awake4_any _).mono ?_
      rintro e w9 ⟨rfl, hb9⟩
      have HF : Hid (Below u.heap.size u w9) := Lib.hid (HB.out.trans (hb9.mono HB.out.size))
      clear hb9
      go_wp2
      go_ret
      exact ⟨rfl, HF.out⟩
end Go.Proofs.Ytgblgnmblbmnjaa
