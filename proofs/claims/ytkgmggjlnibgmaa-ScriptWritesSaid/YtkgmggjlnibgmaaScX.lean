/-
  ScriptWrites' walk.
-/
import Derived.Test.YtkgmggjlnibgmaaScR
import Derived.Test.YtkgmggjlnibgmaaScW
import Derived.Test.YtkgmggjlnibgmaaScD
namespace Go.Proofs.Ytkgmggjlnibgmaa
open Go.RowKit Go
set_option linter.unusedVariables false
set_option linter.unusedSimpArgs false
set_option maxRecDepth 100000
def WrR (w1 : World) (la : List Ac) (iv v mv : Value) (wr : World) : Prop :=
  ∃ (k : Nat) (x : Value) (L : List Nat) (mk : Bool), iv = .int .i64 (k : Int) ∧ x = v ∧ mv = .bool mk ∧ k ≤ la.length ∧ (mk = true ↔ ∀ i, i < k → mayA (aAt la i) = true) ∧ Own wr w1.heap.size x L ∧ (mk = true → L = flatA (la.take k)) ∧ After w1 wr
theorem acV_one {t : TypeId} {w : World} {g : Nat} {a : Ac} {A : Option Addr} {c : Nat} (h : w.heap[g]? = some (.cells (acL a A a.b.length c).toArray t (0, 0))) (hs : BS w w.heap.size A a.b.length c a.b) (hz : A = none → c = 0) : AcV w (some ⟨g, 0, none⟩) 1 [a] :=
  ⟨rfl, fun _ => ⟨g, 0, rfl, blk_lt h, fun i hi => by
    obtain rfl : i = 0 := by simpa using hi
    exact ⟨A, c, fun j v hj => by
      have e : aAt [a] 0 = a := rfl
      rw [e] at hj
      rw [show 0 + 0 * 7 + j = j by omega, blk_cell h j]
      simpa using hj, hs, hz⟩⟩⟩
theorem may_step {la : List Ac} {k : Nat} {mk : Bool} (h : mk = true ↔ ∀ i, i < k → mayA (aAt la i) = true) : ((mk && mayA (aAt la k)) = true) ↔ ∀ i, i < k + 1 → mayA (aAt la i) = true := by
  rw [Bool.and_eq_true, h]
  constructor
  · rintro ⟨h1, h2⟩ i hi
    by_cases e : i = k
    · rw [e]; exact h2
    · exact h1 i (by omega)
  · intro h1
    exact ⟨fun i hi => h1 i (by omega), h1 k (by omega)⟩
set_option maxHeartbeats 8000000 in
theorem scriptWrites_any (A : Option Addr) (n c : Nat) (l : List Ac) (w : World) (hv : AcV w A n l) (hn : n ≤ c) (hc : c ≤ 9223372036854775807) :
    Calls Try.prog 3 #[.slice A n c] w (SameTo w true) := by
  have HC1 := Lib.hid (cut27_any A n c 10 l w hv (by omega) (by omega))
  have HF1 := Lib.hid (cut_few 10 l)
  have HB30 : Hid (∀ i, i < (cutL 10 l).length → (aAt (cutL 10 l) i).b.length ≤ 1030) := Lib.hid (cutL_b 10 l)
  generalize cutL 10 l = la at *
  have HSF := Lib.hid (allF_self la)
  clear hv
  go_enter Try.func3, Try.ntmps3
  go_wp2_with fail
  refine HC1.out.mono ?_
  rintro e w1 ⟨v1, rfl, ho1, hb1⟩
  obtain ⟨Aa, ca, rfl, hv1, hnc, hca, _⟩ := ho1.acV (Nat.le_refl _) hb1.size
  obtain ⟨na, hna⟩ : ∃ na, la.length = na := ⟨_, rfl⟩
  have HNA : Hid (na ≤ 10) := Lib.hid (by rw [← hna]; exact HF1.out.1)
  rw [hna] at hv1 ⊢
  have HLA := Lib.hid hna
  have HB1 := Lib.hid hb1
  have HV := Lib.hid hv1
  have HR : Hid (WrR w1 la (.int .i64 0) (.slice none 0 0) (.bool true) w1) := Lib.hid ⟨0, _, [], true, rfl, rfl, rfl, by omega, ⟨fun _ i hi => by omega, fun _ => rfl⟩, Own.nil _ _, fun _ => rfl, After.refl _⟩
  have hna10 := HNA.out
  clear ho1 hb1 hv1 hnc hca hna HC1
  go_wp2_with fail
  go_loopw [15, 3, 4] (fun iv v mv wr => WrR w1 la iv v mv wr) (fun iv _ _ _ => (na - intOf iv).toNat)
  case atStart => exact HR.out
  case round =>
    clear HR
    obtain ⟨k, v, L, mk, rfl, rfl, rfl, hk, hmk, hO, hL, hA⟩ := hrel
    have HO := Lib.hid hO
    have HL := Lib.hid hL
    have HA := Lib.hid hA
    have HMK := Lib.hid hmk
    clear hO hL hA hmk
    rw [HLA.out] at hk
    have HBW : Hid (Below w.heap.size w wr) := Lib.hid (HB1.out.trans (Below.mono HA.out HB1.out.size))
    by_cases hlt : k < na
    · have HPRE : Hid ((mk && mayA (aAt la k)) = true ↔ ∀ i, i < k + 1 → mayA (aAt la i) = true) := Lib.hid (may_step HMK.out)
      have HFT : Hid (flatA (la.take (k + 1)) = flatA (la.take k) ++ bytesA (aAt la k)) := Lib.hid (flat_take (by rw [HLA.out]; exact hlt))
      have HFL : Hid ((flatA (la.take k)).length ≤ 104200) := Lib.hid (by
        have h1 := flatA_len (l := la.take k) (fun i hi => by
          have hik : i < k := by rw [List.length_take] at hi; omega
          have e2 : aAt (la.take k) i = aAt la i := by simp [aAt, List.getD, List.getElem?_take_of_lt hik]
          rw [e2]; exact HB30.out i (by rw [HLA.out]; omega))
        have h2 : (la.take k).length ≤ 10 := by rw [List.length_take]; omega
        omega)
      obtain ⟨b, o, A1, c1, rfl, hb0, q0, q1, q2, q3, q4, q5, q6, hs1, hz1⟩ := HV.out.at_ (show k < na by omega)
      have p0 : wr.cell? ⟨b, o + k * 7, none⟩ = some (.int .i64 (aAt la k).kind) := (HA.out.cell (p := ⟨b, o + k * 7, none⟩) hb0).trans q0
      have p1 : wr.cell? ⟨b, o + k * 7 + 1, none⟩ = some (.bool (aAt la k).yes) := (HA.out.cell (p := ⟨b, o + k * 7 + 1, none⟩) hb0).trans q1
      have p2 : wr.cell? ⟨b, o + k * 7 + 2, none⟩ = some (.int .i64 (aAt la k).which) := (HA.out.cell (p := ⟨b, o + k * 7 + 2, none⟩) hb0).trans q2
      have p3 : wr.cell? ⟨b, o + k * 7 + 3, none⟩ = some (.int .i64 (aAt la k).k) := (HA.out.cell (p := ⟨b, o + k * 7 + 3, none⟩) hb0).trans q3
      have p4 : wr.cell? ⟨b, o + k * 7 + 4, none⟩ = some (.int .i64 (aAt la k).n) := (HA.out.cell (p := ⟨b, o + k * 7 + 4, none⟩) hb0).trans q4
      have p5 : wr.cell? ⟨b, o + k * 7 + 5, none⟩ = some (.int .i64 (aAt la k).pos) := (HA.out.cell (p := ⟨b, o + k * 7 + 5, none⟩) hb0).trans q5
      have p6 : wr.cell? ⟨b, o + k * 7 + 6, none⟩ = some (.slice A1 (aAt la k).b.length c1) := (HA.out.cell (p := ⟨b, o + k * 7 + 6, none⟩) hb0).trans q6
      have HZ := Lib.hid hz1
      have HBB : Hid (byteL (aAt la k).b) := Lib.hid (HV.out.byte k)
      have hlt1 : b < wr.heap.size := Nat.lt_of_lt_of_le hb0 HA.out.size
      have HEQ : Hid (aAt la k = ⟨(aAt la k).kind, (aAt la k).yes, (aAt la k).which, (aAt la k).k, (aAt la k).n, (aAt la k).pos, (aAt la k).b⟩) := Lib.hid rfl
      rw [HEQ.out] at HPRE HFT
      obtain ⟨bb, hbb⟩ : ∃ bb, (aAt la k).b = bb := ⟨_, rfl⟩
      rw [hbb] at p6 hs1 HBB HPRE HFT
      try dsimp only at HPRE HFT
      obtain ⟨n1, hn1⟩ : ∃ n1, bb.length = n1 := ⟨_, rfl⟩
      have HN1 := Lib.hid hn1
      rw [hn1] at p6 hs1
      have HS1 : Hid (BS wr wr.heap.size A1 n1 c1 bb) := Lib.hid ((hs1.below HA.out).more (Below.size HA.out))
      have HB31 : Hid (n1 ≤ 1030) := Lib.hid (by have := HB30.out k (by rw [HLA.out]; exact hlt); rw [hbb, hn1] at this; exact this)
      clear q0 q1 q2 q3 q4 q5 q6 hs1 hz1 hb0 hbb hn1 HEQ
      generalize (aAt la k).kind = kd at *
      generalize (aAt la k).yes = y at *
      generalize (aAt la k).which = z1 at *
      generalize (aAt la k).k = z2 at *
      generalize (aAt la k).n = z3 at *
      generalize (aAt la k).pos = z4 at *
      go_upto_region 7 with (fail)
      have HA5 : Hid (After wr (wr.alloc (.cells #[.int .i64 kd, .bool y, .int .i64 z1, .int .i64 z2, .int .i64 z3, .int .i64 z4, .slice A1 n1 c1] 26))) := Lib.hid (al1 _ _)
      have HX5 := Lib.hid (heap_alloc_new wr (.cells #[.int .i64 kd, .bool y, .int .i64 z1, .int .i64 z2, .int .i64 z3, .int .i64 z4, .slice A1 n1 c1] 26))
      have HS5 : Hid ((wr.alloc (.cells #[.int .i64 kd, .bool y, .int .i64 z1, .int .i64 z2, .int .i64 z3, .int .i64 z4, .slice A1 n1 c1] 26)).heap.size = wr.heap.size + 1) := Lib.hid (by simp)
      generalize wr.alloc (.cells #[.int .i64 kd, .bool y, .int .i64 z1, .int .i64 z2, .int .i64 z3, .int .i64 z4, .slice A1 n1 c1] 26) = W5 at *
      have KX : Hid (∀ w', w'.heap[wr.heap.size]? = some (.cells #[.int .i64 kd, .bool y, .int .i64 z1, .int .i64 z2, .int .i64 z3, .int .i64 z4, .slice A1 n1 c1] 26 (0, 0)) →  (w' : World).cell? ⟨wr.heap.size, 0, none⟩ = some (.int .i64 kd) ∧ w'.cell? ⟨wr.heap.size, 1, none⟩ = some (.bool y) ∧ w'.cell? ⟨wr.heap.size, 2, none⟩ = some (.int .i64 z1) ∧ w'.cell? ⟨wr.heap.size, 3, none⟩ = some (.int .i64 z2) ∧ w'.cell? ⟨wr.heap.size, 4, none⟩ = some (.int .i64 z3) ∧ w'.cell? ⟨wr.heap.size, 5, none⟩ = some (.int .i64 z4) ∧ w'.cell? ⟨wr.heap.size, 6, none⟩ = some (.slice A1 n1 c1)) := Lib.hid (fun w' hw => ⟨blk_cell hw 0, blk_cell hw 1, blk_cell hw 2, blk_cell hw 3, blk_cell hw 4, blk_cell hw 5, blk_cell hw 6⟩)
      have KB : Hid (∀ w', After W5 w' → w'.heap[wr.heap.size]? = some (.cells #[.int .i64 kd, .bool y, .int .i64 z1, .int .i64 z2, .int .i64 z3, .int .i64 z4, .slice A1 n1 c1] 26 (0, 0))) := Lib.hid (fun w' hw => (Below.block hw _ (by rw [HS5.out]; omega)).trans HX5.out)
      have KS : Hid (∀ w', After W5 w' →  w'.cell? ⟨wr.heap.size, 0, none⟩ = some (.int .i64 kd) ∧ w'.cell? ⟨wr.heap.size, 1, none⟩ = some (.bool y) ∧ w'.cell? ⟨wr.heap.size, 2, none⟩ = some (.int .i64 z1) ∧ w'.cell? ⟨wr.heap.size, 3, none⟩ = some (.int .i64 z2) ∧ w'.cell? ⟨wr.heap.size, 4, none⟩ = some (.int .i64 z3) ∧ w'.cell? ⟨wr.heap.size, 5, none⟩ = some (.int .i64 z4) ∧ w'.cell? ⟨wr.heap.size, 6, none⟩ = some (.slice A1 n1 c1)) := Lib.hid (fun w' hw => KX.out _ (KB.out _ hw))
      have HA6 : Hid (After W5 (W5.alloc (.cells #[.int .i64 kd, .bool y, .int .i64 z1, .int .i64 z2, .int .i64 z3, .int .i64 z4, .slice A1 n1 c1] 26)).drew) := Lib.hid ((After.drew W5).alloc (Nat.le_refl _) _)
      have HAC6 : Hid (AcV (W5.alloc (.cells #[.int .i64 kd, .bool y, .int .i64 z1, .int .i64 z2, .int .i64 z3, .int .i64 z4, .slice A1 n1 c1] 26)).drew (some ⟨W5.heap.size, 0, none⟩) 1 [(⟨kd, y, z1, z2, z3, z4, bb⟩ : Ac)]) := Lib.hid (acV_one (a := (⟨kd, y, z1, z2, z3, z4, bb⟩ : Ac)) (A := A1) (c := c1) (t := 26) (by
          have h := heap_alloc_new W5.drew (.cells #[.int .i64 kd, .bool y, .int .i64 z1, .int .i64 z2, .int .i64 z3, .int .i64 z4, .slice A1 n1 c1] 26)
          have e : (acL (⟨kd, y, z1, z2, z3, z4, bb⟩ : Ac) A1 ((⟨kd, y, z1, z2, z3, z4, bb⟩ : Ac) : Ac).b.length c1).toArray = #[.int .i64 kd, .bool y, .int .i64 z1, .int .i64 z2, .int .i64 z3, .int .i64 z4, .slice A1 n1 c1] := by show #[_, _, _, _, _, _, Value.slice A1 bb.length c1] = _; rw [HN1.out]
          rw [e]; exact h) (by show BS _ _ A1 bb.length c1 bb; rw [HN1.out]; exact (HS1.out.below (HA5.out.next HA6.out)).more (Below.size (HA5.out.next HA6.out))) HZ.out)
      have HOURS : Hid (Calls Try.prog 9 #[.slice (some ⟨W5.heap.size, 0, none⟩) 1 1] (W5.alloc (.cells #[.int .i64 kd, .bool y, .int .i64 z1, .int .i64 z2, .int .i64 z3, .int .i64 z4, .slice A1 n1 c1] 26)).drew (GivesA 28 (W5.alloc (.cells #[.int .i64 kd, .bool y, .int .i64 z1, .int .i64 z2, .int .i64 z3, .int .i64 z4, .slice A1 n1 c1] 26)).drew [(⟨kd, y, z1, z2, z3, z4, bb⟩ : Ac)])) := Lib.hid (ours27_any _ 1 1 [(⟨kd, y, z1, z2, z3, z4, bb⟩ : Ac)] _ HAC6.out (by omega) (fun i => by
          match i with
          | 0 => show bb.length < 1000000; rw [HN1.out]; have := HB31.out; omega
          | i + 1 => show ([] : List Nat).length < 1000000; simp))
      refine wp_region_F (S := (fun w' => w'.cell? ⟨wr.heap.size, 0, none⟩ = some (.int .i64 kd) ∧ w'.cell? ⟨wr.heap.size, 1, none⟩ = some (.bool y) ∧ w'.cell? ⟨wr.heap.size, 2, none⟩ = some (.int .i64 z1) ∧ w'.cell? ⟨wr.heap.size, 3, none⟩ = some (.int .i64 z2) ∧ w'.cell? ⟨wr.heap.size, 4, none⟩ = some (.int .i64 z3) ∧ w'.cell? ⟨wr.heap.size, 5, none⟩ = some (.int .i64 z4) ∧ w'.cell? ⟨wr.heap.size, 6, none⟩ = some (.slice A1 n1 c1))) [] (by kernel_rfl) (KS.out _ (After.drew W5)) (fun hHeld => ?_)
      refine wpAnyF_take (i := 0) (oi := _) (v := ?_) rfl (by kernel_rfl) (by kernel_rfl) (by kernel_rfl) (by kernel_rfl) (fun _ _ _ h => h) (Or.inl ⟨by rfl, ?_⟩) (by assumption) ?_
      rotate_left 1
      · intro w hSw
        (try dsimp only at hSw)
        (first | (go_simp; done) | (go_simp; with_reducible rfl))
      (try simp only [Act.put, List.getElem_toArray, List.getElem_cons_succ, List.getElem_cons_zero, List.setIfInBounds_toArray, List.set_cons_zero, List.set_cons_succ])
      refine wpAnyF_take (i := 6) (oi := _) (v := ?_) rfl (by kernel_rfl) (by kernel_rfl) (by kernel_rfl) (by kernel_rfl) (fun _ _ _ h => h) (Or.inl ⟨by rfl, ?_⟩) (by assumption) ?_
      rotate_left 1
      · intro w hSw
        (try dsimp only at hSw)
        (first | (go_simp; done) | (go_simp; with_reducible rfl))
      (try simp only [Act.put, List.getElem_toArray, List.getElem_cons_succ, List.getElem_cons_zero, List.setIfInBounds_toArray, List.set_cons_zero, List.set_cons_succ])
      refine wpAnyF_ready (rs := [1]) (by kernel_rfl) (by simp) ?_
      refine AllReadyF.cons (o := _) rfl (fun K hK => ?_) AllReadyF.nil
      go_simp
      refine hK.out _ _ (KS.out _ HA6.out) (fun hHeld1 => ?_)
      clear hK K
      (try simp only [Act.put, List.getElem_toArray, List.getElem_cons_succ, List.getElem_cons_zero, List.setIfInBounds_toArray, List.set_cons_zero, List.set_cons_succ])
      refine wpAnyF_ready (rs := [2]) (by kernel_rfl) (by simp) ?_
      refine AllReadyF.cons (o := _) rfl (fun K hK => ?_) AllReadyF.nil
      go_simp
      refine HOURS.out.mono ?_
      rintro e w7 ⟨v7, rfl, ho7, hb7⟩
      obtain ⟨A7, c7, rfl, hv7, hn7, hc7, _⟩ := ho7.acV (Nat.le_refl _) hb7.size
      have hl7 : ([(⟨kd, y, z1, z2, z3, z4, bb⟩ : Ac)] : List Ac).length = 1 := rfl
      rw [hl7] at hv7 hn7 ⊢
      obtain ⟨b7, o7, A8, c8, rfl, hb8, d0, d1, d2, d3, d4, d5, d6, hs8, hz8⟩ := hv7.at_ (i := 0) (by omega)
      have HA7 : Hid (After W5 w7) := Lib.hid (After.next HA6.out hb7)
      have e7 : o7 + 0 * 7 = o7 := by omega
      rw [e7] at d0 d1 d2 d3 d4 d5 d6
      have HD7 : Hid ((w7.cell? ⟨b7, o7, none⟩ = some (.int .i64 kd)) ∧ (w7.cell? ⟨b7, o7 + 1, none⟩ = some (.bool y)) ∧ (w7.cell? ⟨b7, o7 + 2, none⟩ = some (.int .i64 z1)) ∧ (w7.cell? ⟨b7, o7 + 3, none⟩ = some (.int .i64 z2)) ∧ (w7.cell? ⟨b7, o7 + 4, none⟩ = some (.int .i64 z3)) ∧ (w7.cell? ⟨b7, o7 + 5, none⟩ = some (.int .i64 z4)) ∧ (w7.cell? ⟨b7, o7 + 6, none⟩ = some (.slice A8 n1 c8))) := Lib.hid ⟨d0, d1, d2, d3, d4, d5, by rw [← HN1.out]; exact d6⟩
      have HS8 : Hid (BS w7 w7.heap.size A8 n1 c8 bb) := Lib.hid (by rw [← HN1.out]; exact hs8)
      clear ho7 hb7 hv7 hl7 hb8 d0 d1 d2 d3 d4 d5 d6 hs8 hz8 e7
      refine hK.out _ _ (KS.out _ HA7.out) (fun hHeld2 => ?_)
      clear hK K
      (try simp only [Act.put, List.getElem_toArray, List.getElem_cons_succ, List.getElem_cons_zero, List.setIfInBounds_toArray, List.set_cons_zero, List.set_cons_succ])
      refine wpAnyF_ready (rs := [3]) (by kernel_rfl) (by simp) ?_
      refine AllReadyF.cons (o := _) rfl (fun K hK => ?_) AllReadyF.nil
      go_simp
      refine hK.out _ _ (KS.out _ HA7.out) (fun hHeld3 => ?_)
      clear hK K
      (try simp only [Act.put, List.getElem_toArray, List.getElem_cons_succ, List.getElem_cons_zero, List.setIfInBounds_toArray, List.set_cons_zero, List.set_cons_succ])
      refine wpAnyF_ready (rs := [4]) (by kernel_rfl) (by simp) ?_
      refine AllReadyF.cons (o := _) rfl (fun K hK => ?_) AllReadyF.nil
      obtain ⟨d0, d1, d2, d3, d4, d5, d6⟩ := HD7.out
      go_simp
      clear d0 d1 d2 d3 d4 d5 d6
      refine hK.out _ _ (KS.out _ HA7.out) (fun hHeld4 => ?_)
      clear hK K
      (try simp only [Act.put, List.getElem_toArray, List.getElem_cons_succ, List.getElem_cons_zero, List.setIfInBounds_toArray, List.set_cons_zero, List.set_cons_succ])
      refine wpAnyF_ready (rs := [5]) (by kernel_rfl) (by simp) ?_
      refine AllReadyF.cons (o := _) rfl (fun K hK => ?_) AllReadyF.nil
      go_simp
      refine (pmay_any (⟨kd, y, z1, z2, z3, z4, bb⟩ : Ac) A8 n1 c8 w7 HS8.out).mono ?_
      rintro e w8 ⟨rfl, hb8⟩
      have HA8 : Hid (After W5 w8) := Lib.hid (After.next HA7.out hb8)
      clear hb8
      refine hK.out _ _ (KS.out _ HA8.out) (fun hHeld5 => ?_)
      clear hK K
      (try simp only [Act.put, List.getElem_toArray, List.getElem_cons_succ, List.getElem_cons_zero, List.setIfInBounds_toArray, List.set_cons_zero, List.set_cons_succ])
      refine wpAnyF_ready (rs := [7]) (by kernel_rfl) (by simp) ?_
      refine AllReadyF.cons (o := _) rfl (fun K hK => ?_) AllReadyF.nil
      go_simp
      refine (rmay_any kd y z1 z2 z3 z4 A1 n1 c1 bb HN1.out (by have := HS1.out.cap; omega) w8).mono ?_
      rintro e w9 ⟨rfl, hb9⟩
      have HA9 : Hid (After W5 w9) := Lib.hid (After.next HA8.out hb9)
      clear hb9
      generalize hRR : mayA (⟨kd, y, z1, z2, z3, z4, bb⟩ : Ac) = R at *
      have HRR := Lib.hid hRR
      clear hRR
      refine hK.out _ _ (KS.out _ HA9.out) (fun hHeld7 => ?_)
      clear hK K
      (try simp only [Act.put, List.getElem_toArray, List.getElem_cons_succ, List.getElem_cons_zero, List.setIfInBounds_toArray, List.set_cons_zero, List.set_cons_succ])
      refine wpAnyF_take (i := 8) (oi := _) (v := ?_) rfl (by kernel_rfl) (by kernel_rfl) (by kernel_rfl) (by kernel_rfl) (fun _ _ _ h => h) (Or.inl ⟨by rfl, ?_⟩) (by assumption) ?_
      rotate_left 1
      · intro w hSw
        (try dsimp only at hSw)
        (first | (go_simp; done) | (go_simp; with_reducible rfl))
      (try simp only [Act.put, List.getElem_toArray, List.getElem_cons_succ, List.getElem_cons_zero, List.setIfInBounds_toArray, List.set_cons_zero, List.set_cons_succ])
      refine wpAnyF_done (by kernel_rfl) ?_ _
      have HX9 : Hid (w9.heap[wr.heap.size]? = some (.cells #[.int .i64 kd, .bool y, .int .i64 z1, .int .i64 z2, .int .i64 z3, .int .i64 z4, .slice A1 n1 c1] 26 (0, 0))) := Lib.hid (KB.out _ HA9.out)
      have HAW9 : Hid (After wr w9) := Lib.hid (HA5.out.next HA9.out)
      have HO9 : Hid (Own w9 w1.heap.size v L) := Lib.hid (HO.out.below HAW9.out)
      have HW9 : Hid (After w1 w9) := Lib.hid (After.next HA.out HAW9.out)
      have HBS9 : Hid (BS w9 w9.heap.size A1 n1 c1 bb) := Lib.hid ((HS1.out.below HAW9.out).more (Below.size HAW9.out))
      have HRM9 : Hid (Calls Try.prog 10 #[.agg #[.int .i64 kd, .bool y, .int .i64 z1, .int .i64 z2, .int .i64 z3, .int .i64 z4, .slice A1 n1 c1]] w9 (fun e w' => e = .returned (.bool R) ∧ Below w9.heap.size w9 w')) := Lib.hid (by rw [← HRR.out]; exact rmay_any kd y z1 z2 z3 z4 A1 n1 c1 bb HN1.out (by have := HS1.out.cap; omega) w9)
      clear KX KB KS HOURS HAC6 HA6 HD7 HS8 HA7 HA8
      cases mk
      · have HG : Hid (WrR w1 la (.int .i64 ((k : Int) + 1)) v (.bool false) w9) := Lib.hid ⟨k + 1, v, L, false, rfl, rfl, rfl, by rw [HLA.out]; omega, HPRE.out, HO9.out, fun h => (by cases h), HW9.out⟩
        clear HPRE
        go_wp2
        go_roundw
        case rel => exact HG.out
        case measure => simp [intOf]; omega
      · have hLk := HL.out rfl
        subst hLk
        have g0 : w9.cell? ⟨wr.heap.size, 0, none⟩ = some (.int .i64 kd) := blk_cell HX9.out 0
        have g1 : w9.cell? ⟨wr.heap.size, 1, none⟩ = some (.bool y) := blk_cell HX9.out 1
        have g2 : w9.cell? ⟨wr.heap.size, 2, none⟩ = some (.int .i64 z1) := blk_cell HX9.out 2
        have g3 : w9.cell? ⟨wr.heap.size, 3, none⟩ = some (.int .i64 z2) := blk_cell HX9.out 3
        have g4 : w9.cell? ⟨wr.heap.size, 4, none⟩ = some (.int .i64 z3) := blk_cell HX9.out 4
        have g5 : w9.cell? ⟨wr.heap.size, 5, none⟩ = some (.int .i64 z4) := blk_cell HX9.out 5
        have g6 : w9.cell? ⟨wr.heap.size, 6, none⟩ = some (.slice A1 n1 c1) := blk_cell HX9.out 6
        go_wp2_with fail
        refine HRM9.out.mono ?_
        rintro e w10 ⟨rfl, hb10⟩
        have HA10 : Hid (After w9 w10) := Lib.hid hb10
        have HX10 : Hid (w10.heap[wr.heap.size]? = some (.cells #[.int .i64 kd, .bool y, .int .i64 z1, .int .i64 z2, .int .i64 z3, .int .i64 z4, .slice A1 n1 c1] 26 (0, 0))) := Lib.hid ((hb10.block _ (blk_lt HX9.out)).trans HX9.out)
        have HO10 : Hid (Own w10 w1.heap.size v (flatA (la.take k))) := Lib.hid (HO9.out.below hb10)
        have HW10 : Hid (After w1 w10) := Lib.hid (After.next HW9.out hb10)
        have HBS10 : Hid (BS w10 w10.heap.size A1 n1 c1 bb) := Lib.hid ((HBS9.out.below hb10).more hb10.size)
        clear hb10 g0 g1 g2 g3 g4 g5 g6 HRM9
        cases R
        · have HG : Hid (WrR w1 la (.int .i64 ((k : Int) + 1)) v (.bool false) w10) := Lib.hid ⟨k + 1, v, _, false, rfl, rfl, rfl, by rw [HLA.out]; omega, HPRE.out, HO10.out, fun h => (by cases h), HW10.out⟩
          clear HPRE
          go_wp2
          go_roundw
          case rel => exact HG.out
          case measure => simp [intOf]; omega
        · have HNX : Hid (∀ v' w', Own w' w1.heap.size v' (flatA (la.take k) ++ bytesA (⟨kd, y, z1, z2, z3, z4, bb⟩ : Ac)) → After w1 w' → WrR w1 la (.int .i64 ((k : Int) + 1)) v' (.bool true) w') := Lib.hid (fun v' w' h1 h2 => ⟨k + 1, v', _, true, rfl, rfl, rfl, by rw [HLA.out]; omega, HPRE.out, h1, fun _ => HFT.out.symm, h2⟩)
          have HBT := Lib.hid (rbytes_any (⟨kd, y, z1, z2, z3, z4, bb⟩ : Ac) A1 n1 c1 HRR.out HZ.out w10 HBS10.out)
          have HLB : Hid ((bytesA (⟨kd, y, z1, z2, z3, z4, bb⟩ : Ac)).length ≤ 1042 ∧ byteL (bytesA (⟨kd, y, z1, z2, z3, z4, bb⟩ : Ac))) := Lib.hid ⟨by rw [bytesA_len]; show 12 + bb.length ≤ 1042; rw [HN1.out]; have := HB31.out; omega, bytesA_byte HBB.out⟩
          clear HPRE HFT
          generalize bytesA (⟨kd, y, z1, z2, z3, z4, bb⟩ : Ac) = bs at *
          generalize flatA (la.take k) = L at *
          have g0 : w10.cell? ⟨wr.heap.size, 0, none⟩ = some (.int .i64 kd) := blk_cell HX10.out 0
          have g1 : w10.cell? ⟨wr.heap.size, 1, none⟩ = some (.bool y) := blk_cell HX10.out 1
          have g2 : w10.cell? ⟨wr.heap.size, 2, none⟩ = some (.int .i64 z1) := blk_cell HX10.out 2
          have g3 : w10.cell? ⟨wr.heap.size, 3, none⟩ = some (.int .i64 z2) := blk_cell HX10.out 3
          have g4 : w10.cell? ⟨wr.heap.size, 4, none⟩ = some (.int .i64 z3) := blk_cell HX10.out 4
          have g5 : w10.cell? ⟨wr.heap.size, 5, none⟩ = some (.int .i64 z4) := blk_cell HX10.out 5
          have g6 : w10.cell? ⟨wr.heap.size, 6, none⟩ = some (.slice A1 n1 c1) := blk_cell HX10.out 6
          go_wp2_with fail
          refine HBT.out.mono ?_
          rintro e w11 ⟨v11, rfl, ho11, hb11⟩
          obtain ⟨A11, c11, rfl, hs11⟩ := ho11.bs HLB.out.2
          have HS11 := Lib.hid hs11
          have HZ11 := Lib.hid (own_zero ho11)
          have HO11 : Hid (Own w11 w1.heap.size v L) := Lib.hid (HO10.out.below hb11)
          have HW11 : Hid (After w1 w11) := Lib.hid (After.next HW10.out hb11)
          have HLEN : Hid (L.length + bs.length < 1000000000) := Lib.hid (by have := HFL.out; have := HLB.out.1; omega)
          clear ho11 hb11 hs11 g0 g1 g2 g3 g4 g5 g6
          go_upto_region 12 with (at_builtin; refine wp_apps _ rfl (.tmp 34) (.tmp 36) rfl w1.heap.size v L rfl HO11.out w11.heap.size A11 bs.length c11 bs rfl HS11.out HZ11.out HLEN.out (Below.size HW11.out) ?_; intro v12 w12 ho12 hd12; have HG : Hid (WrR w1 la (.int .i64 ((k : Int) + 1)) v12 (.bool true) w12) := Lib.hid (HNX.out v12 w12 ho12 (Below.trans HW11.out hd12)); clear ho12 hd12)
          go_wp2
          go_roundw
          case rel => exact HG.out
          case measure => simp [intOf]; omega
    · have hkn : k = na := by omega
      subst hkn
      have HVr : Hid (AcV wr Aa k la) := Lib.hid (HV.out.below HA.out)
      have HB20 := HBW
      have hbf : ∀ i, (aAt la i).b.length < 1000000 := HF1.out.2
      have HBF := Lib.hid hbf
      have htk : la.take k = la := List.take_of_length_le (by rw [HLA.out]; exact Nat.le_refl _)
      have HMA : Hid (mk = true ↔ allMay la) := Lib.hid (by rw [HMK.out]; unfold allMay; rw [HLA.out])
      have HLF : Hid (mk = true → L = flatA la) := Lib.hid (fun h => by rw [HL.out h, htk])
      have HFB : Hid (byteL (flatA la) ∧ (flatA la).length < 1000000) := Lib.hid ⟨flatA_byte (fun i _ => HV.out.byte i), by
        have := flatA_len (l := la) (fun i hi => HB30.out i hi)
        have h2 := HF1.out.1
        omega⟩
      clear hbf htk HMK HL
      go_wp2_with fail
      refine (ours27_any Aa k ca la _ HVr.out (by omega) HBF.out).mono ?_
      rintro e w21 ⟨v21, rfl, ho21, hb21⟩
      have HB21 : Hid (Below w.heap.size w w21) := Lib.hid (HB20.out.trans (Below.mono hb21 HB20.out.size))
      have HVa_21 : Hid (AcV w21 Aa k la) := Lib.hid (HVr.out.below hb21)
      obtain ⟨A21, c21, rfl, hv21, _, _, hz21⟩ := ho21.acV (Nat.le_refl _) hb21.size
      have HVp_21 : Hid (AcV w21 A21 (la).length (la)) := Lib.hid hv21
      have HXE21 : Hid (After wr w21) := Lib.hid hb21
      clear ho21 hb21 hv21 hz21
      clear HVr
      rw [HLA.out] at HVp_21 ⊢
      go_wp2_with fail
      refine (encode_any A21 k c21 la _ HVp_21.out (by omega)).mono ?_
      rintro e w22 ⟨hb22, hE22⟩
      have HB22 : Hid (Below w.heap.size w w22) := Lib.hid (HB21.out.trans (Below.mono hb22 HB21.out.size))
      have HVa_22 : Hid (AcV w22 Aa k la) := Lib.hid (HVa_21.out.below hb22)
      have HVp_22 : Hid (AcV w22 A21 k la) := Lib.hid (HVp_21.out.below hb22)
      clear HVa_21 HVp_21
      clear HVp_22
      have HXE22 : Hid (After wr w22) := Lib.hid (After.next HXE21.out hb22)
      rcases hE22 with ⟨hall, ve, rfl, ho22⟩ | ⟨hall, rfl⟩
      · obtain rfl : mk = true := HMA.out.mpr hall
        have hLf := HLF.out rfl
        subst hLf
        obtain ⟨Ab, cb, rfl, hsb⟩ := ho22.bs HFB.out.1
        obtain ⟨Aw, cw, rfl, hsw⟩ := HO.out.bs HFB.out.1
        have HSB : Hid (BS w22 w22.heap.size Ab (flatA la).length cb (flatA la)) := Lib.hid hsb
        have HSWr : Hid (BS wr wr.heap.size Aw (flatA la).length cw (flatA la)) := Lib.hid hsw
        have HSW : Hid (BS w22 w22.heap.size Aw (flatA la).length cw (flatA la)) := Lib.hid ((HSWr.out.below HXE22.out).more (Below.size HXE22.out))
        have HPF : Hid (parseL (flatA la) = some la) := Lib.hid (parse_flat hall)
        clear hsb hsw ho22 HLF HMA hall HSWr
        obtain ⟨m, hm⟩ : ∃ m, (flatA la).length = m := ⟨_, rfl⟩
        have HMM := Lib.hid hm
        have HM6 : Hid (m < 1000000) := Lib.hid (by rw [← hm]; exact HFB.out.2)
        rw [hm] at HSB HSW ⊢
        clear hm
        go_wp2_with fail
        refine (pparse_any Ab m cb (flatA la) _ HSB.out HM6.out).mono ?_
        rintro e w23 ⟨hb23, hP23⟩
        have HB23 : Hid (Below w.heap.size w w23) := Lib.hid (HB22.out.trans (Below.mono hb23 HB22.out.size))
        have HVa_23 : Hid (AcV w23 Aa k la) := Lib.hid (HVa_22.out.below hb23)
        have HSB23 := Lib.hid ((HSB.out.below hb23).more hb23.size)
        have HSW23 := Lib.hid ((HSW.out.below hb23).more hb23.size)
        clear HSB HSW
        clear HVa_22
        rcases hP23 with ⟨h0, _⟩ | ⟨l2, A2, c2, h0, rfl, hv2, _⟩
        · rw [HPF.out] at h0; cases h0
        rw [HPF.out] at h0
        have hl2 := Option.some.inj h0
        subst hl2
        have HVx_23 := Lib.hid hv2
        rw [HLA.out] at HVx_23 ⊢
        clear h0 hv2 HPF
        have hcv1 := conv_at HSB23.out
        have hcv2 := conv_at HSW23.out
        clear hb23
        go_wp2_with fail
        refine (plain27_any A2 k c2 la _ HVx_23.out (by omega) HBF.out).mono ?_
        rintro e w24 ⟨v24, rfl, ho24, hb24⟩
        have HB24 : Hid (Below w.heap.size w w24) := Lib.hid (HB23.out.trans (Below.mono hb24 HB23.out.size))
        have HVa_24 : Hid (AcV w24 Aa k la) := Lib.hid (HVa_23.out.below hb24)
        have HVx_24 : Hid (AcV w24 A2 k la) := Lib.hid (HVx_23.out.below hb24)
        obtain ⟨A24, c24, rfl, hv24, _, _, hz24⟩ := ho24.acV (Nat.le_refl _) hb24.size
        have HVz_24 : Hid (AcV w24 A24 (la).length (la)) := Lib.hid hv24
        clear ho24 hb24 hv24 hz24
        clear HVa_23 HVx_23
        rw [HLA.out] at HVz_24 ⊢
        clear HVx_24
        go_wp2_with fail
        refine (rall27_any A24 Aa k c24 k ca la la false _ HVz_24.out HVa_24.out (by omega) (by omega)).mono ?_
        rintro e w25 ⟨rfl, hb25⟩
        have HB25 : Hid (Below w.heap.size w w25) := Lib.hid (HB24.out.trans (Below.mono hb25 HB24.out.size))
        have HVa_25 : Hid (AcV w25 Aa k la) := Lib.hid (HVa_24.out.below hb25)
        have HVz_25 : Hid (AcV w25 A24 k la) := Lib.hid (HVz_24.out.below hb25)
        clear hb25
        rw [HSF.out]
        clear HVa_24 HVz_24
        go_wp2_with fail
        refine (awake27_any _).mono ?_
        rintro e w26 ⟨rfl, hb26⟩
        have HB26 : Hid (Below w.heap.size w w26) := Lib.hid (HB25.out.trans (Below.mono hb26 HB25.out.size))
        have HVa_26 : Hid (AcV w26 Aa k la) := Lib.hid (HVa_25.out.below hb26)
        have HVz_26 : Hid (AcV w26 A24 k la) := Lib.hid (HVz_25.out.below hb26)
        clear hb26
        clear HVa_25 HVz_25
        go_wp2
        go_ret
        exact ⟨rfl, HB26.out⟩
      · have hmf : mk = false := by cases mk; rfl; exact absurd (HMA.out.mp rfl) hall
        subst hmf
        go_wp2_with fail
        refine (awake27_any _).mono ?_
        rintro e w23 ⟨rfl, hb23⟩
        have HB23 : Hid (Below w.heap.size w w23) := Lib.hid (HB22.out.trans (Below.mono hb23 HB22.out.size))
        have HVa_23 : Hid (AcV w23 Aa k la) := Lib.hid (HVa_22.out.below hb23)
        clear hb23
        clear HVa_22
        go_wp2
        go_ret
        exact ⟨rfl, HB23.out⟩
end Go.Proofs.Ytkgmggjlnibgmaa
