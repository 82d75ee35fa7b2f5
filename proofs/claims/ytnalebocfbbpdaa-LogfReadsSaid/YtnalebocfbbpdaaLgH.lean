/-
  Package garderobelaw14: Ours.
-/
import Derived.Test.YtnalebocfbbpdaaLgG
import Derived.Great.Ranges
import Derived.Deep.RegionHeld3
namespace Go.Proofs.Ytnalebocfbbpdaa
open Go.RowKit Go
set_option linter.unusedVariables false
set_option linter.unusedSimpArgs false
/-- a slice of bytes that is nil has no capacity, in every entry -/
def EsZ (w : World) (A : Option Addr) (n : Nat) : Prop := ∀ b o, A = some ⟨b, o, none⟩ → ∀ i, i < n → ∀ m c, w.cell? ⟨b, o + i * 2 + 1, none⟩ = some (.slice none m c) → c = 0
theorem own_zero {w : World} {B n c : Nat} {A : Option Addr} {l : List Nat} (h : Own w B (.slice A n c) l) : A = none → c = 0 := by
  rintro rfl
  obtain ⟨_, k⟩ := h
  rcases k with ⟨e, _⟩ | ⟨g, cap, cur, e, _⟩
  · injection e
  · injection e with e1 _ _
    cases e1
theorem EnO.esZ {t : TypeId} {w : World} {B0 B n c : Nat} {A : Option Addr} {es : List (Int × List Nat)} (h : EnO t w B0 B (.slice A n c) es) : EsZ w A es.length := by
  intro b o e i hi m c' hcell
  subst e
  obtain ⟨vs, ⟨h1, h0⟩, h2⟩ := h
  rcases h0 with ⟨e, _⟩ | ⟨g, cap, cur, e, hg, hh, hn, hm, hs, ht⟩
  · injection e with e1 _ _
    cases e1
  · injection e with e1 _ _
    have e2 := Option.some.inj e1
    injection e2 with e3 e4 _
    subst e3 e4
    obtain ⟨A', c2, h3, h4, h5⟩ := h2 i hi
    have hk : i * 2 + 1 < es.length * 2 := by
      have := (List.getElem?_eq_some_iff.mp h4).1
      omega
    rw [Nat.zero_add, blk_cell hh] at hcell
    rw [← ht, List.getElem?_take_of_lt hk] at h4
    have h6 : cur[i * 2 + 1]? = some (.slice A' (dAt es i).length c2) := by simpa using h4
    rw [h6] at hcell
    have h7 := Option.some.inj hcell
    injection h7 with h8 _ h9
    subst h8 h9
    exact h5.2 rfl
def OursTo (w : World) (cnt : Nat) (es : List (Int × List Nat)) (e : Ending) (w' : World) : Prop :=
  ∃ A c, e = .returned (.agg #[.int .u64 (cnt : Int), .slice A es.length c]) ∧ Below w.heap.size w w' ∧ EsV w' A es.length es
def OuR (w : World) (cnt : Nat) (es : List (Int × List Nat)) (iv : Value) (wr : World) : Prop :=
  ∃ (k : Nat) (v : Value), iv = .int .i64 (k : Int) ∧ k ≤ es.length ∧ LgB wr (w.heap.size + 1) 35 0 (.slice none 0 0) ∧ LgB wr (w.heap.size + 2) 35 cnt v ∧ EnO 58 wr w.heap.size (w.heap.size + 3) v (es.take k) ∧ Below w.heap.size w wr ∧ w.heap.size + 3 ≤ wr.heap.size
set_option maxRecDepth 100000 in
set_option maxHeartbeats 2000000 in
theorem ours_any (cnt : Nat) (A : Option Addr) (n c : Nat) (es : List (Int × List Nat)) (w : World) (hE : EsV w A n es) (hZ : EsZ w A n) (hn9 : n ≤ 999) (h9 : ∀ i, i < n → (dAt es i).length ≤ 1000) :
    Calls Try.prog 7 #[.agg #[.int .u64 (cnt : Int), .slice A n c]] w (OursTo w cnt es) := by
  have hl := hE.1
  have HE := Lib.hid hE
  have HZ := Lib.hid hZ
  have HL := Lib.hid hl
  obtain ⟨W0, hW⟩ : ∃ W0, W0 = (((w.alloc (.cells #[.int .u64 (cnt : Int), .slice A n c] 27)).alloc (.cells #[.int .u64 (0 : Nat), .slice none 0 0] 35)).alloc (.cells #[.int .u64 (cnt : Int), .slice none 0 0] 35)) := ⟨_, rfl⟩
  have HR : Hid (OuR w cnt es (.int .i64 0) W0) := Lib.hid (by
    have hb : Below w.heap.size w W0 := by
      rw [hW]
      exact (((Below.refl _ _).alloc (Nat.le_refl _) _).alloc (by simp) _).alloc (by simp; omega) _
    have h2 := heap_alloc_new ((w.alloc (.cells #[.int .u64 (cnt : Int), .slice A n c] 27)).alloc (.cells #[.int .u64 (0 : Nat), .slice none 0 0] 35)) (.cells #[.int .u64 (cnt : Int), .slice none 0 0] 35)
    have h1 := blk_alloc (heap_alloc_new (w.alloc (.cells #[.int .u64 (cnt : Int), .slice A n c] 27)) (.cells #[.int .u64 (0 : Nat), .slice none 0 0] 35)) (.cells #[.int .u64 (cnt : Int), .slice none 0 0] 35)
    rw [show (w.alloc (.cells #[.int .u64 (cnt : Int), .slice A n c] 27)).heap.size = w.heap.size + 1 by simp] at h1
    rw [show ((w.alloc (.cells #[.int .u64 (cnt : Int), .slice A n c] 27)).alloc (.cells #[.int .u64 (0 : Nat), .slice none 0 0] 35)).heap.size = w.heap.size + 2 by simp] at h2
    rw [← hW] at h1 h2
    exact ⟨0, .slice none 0 0, rfl, by omega, h1, h2, EnO.nil _ _ _ _, hb, by rw [hW]; simp⟩)
  have HW := Lib.hid hW
  have H9 := Lib.hid h9
  clear hE hZ hl hW h9
  go_enter Try.func7, Try.ntmps7
  go_wp2_with fail
  go_loopw [12] (fun iv wr => OuR w cnt es iv wr) (fun iv _ => (n - intOf iv).toNat)
  case atStart => rw [HW.out] at HR; exact HR.out
  case round =>
    clear HR HW
    obtain ⟨k, v, rfl, hk, hr1, hr2, hO, hb, hsz⟩ := hrel
    have HR1 := Lib.hid hr1
    have HR2 := Lib.hid hr2
    have HO := Lib.hid hO
    have HB := Lib.hid hb
    clear hr1 hr2 hO hb
    by_cases hlt : k < n
    · obtain ⟨b, o, rfl, hEs⟩ := HE.out.2 (by omega)
      obtain ⟨A1, c1, q1, q2, q3⟩ := hEs.2 k (by rw [HL.out]; exact hlt)
      have p1 : wr.cell? ⟨b, o + k * 2, none⟩ = some (.int .i64 (kAt es k)) := (HB.out.cell (p := ⟨b, o + k * 2, none⟩) hEs.1).trans q1
      have p2 : wr.cell? ⟨b, o + k * 2 + 1, none⟩ = some (.slice A1 (dAt es k).length c1) := (HB.out.cell (p := ⟨b, o + k * 2 + 1, none⟩) hEs.1).trans q2
      have HA1 : Hid (A1 = none → c1 = 0) := Lib.hid fun e => HZ.out b o rfl k hlt _ _ (by rw [← e]; exact q2)
      have HS1 : Hid (BS w w.heap.size A1 (dAt es k).length c1 (dAt es k)) := Lib.hid q3
      have HTK : Hid (es.take (k + 1) = es.take k ++ [(kAt es k, dAt es k)]) := Lib.hid (by
        have hke : k < es.length := by rw [HL.out]; exact hlt
        have e1 : (kAt es k, dAt es k) = es[k] := by unfold kAt dAt; simp [List.getD, List.getElem?_eq_getElem hke]
        rw [e1]
        exact List.take_succ_eq_append_getElem hke)
      have HTL : Hid ((es.take k).length < 1000) := Lib.hid (by rw [List.length_take]; omega)
      have hlt1 : b < wr.heap.size := Nat.lt_of_lt_of_le hEs.1 HB.out.size
      have h99 := H9.out k hlt
      obtain ⟨nl, hnl⟩ : ∃ nl, (dAt es k).length = nl := ⟨_, rfl⟩
      have HNL := Lib.hid hnl
      have HLB := Lib.hid (fun i => HS1.out.byte i)
      rw [hnl] at p2 HS1 h99
      clear q1 q2 q3 hEs hnl
      have HNX : Hid (∀ (v' : Value) (w' : World), LgB w' (w.heap.size + 1) 35 0 (.slice none 0 0) → LgB w' (w.heap.size + 2) 35 cnt v' → EnO 58 w' w.heap.size (w.heap.size + 3) v' (es.take k ++ [(kAt es k, dAt es k)]) → Below w.heap.size w w' → w.heap.size + 3 ≤ w'.heap.size → OuR w cnt es (.int .i64 ((k : Int) + 1)) w') := Lib.hid fun v' w' h1 h2 h3 h4 h5 => ⟨k + 1, v', rfl, by rw [HL.out]; omega, h1, h2, by rw [HTK.out]; exact h3, h4, h5⟩
      clear HTK
      generalize es.take k = pre at *
      generalize kAt es k = X at *
      generalize dAt es k = l at *
      go_wp2_with fail
      have HA5 : Hid (After wr (wr.alloc (.cells #[.int .i64 X, .slice A1 nl c1] 55))) := Lib.hid ((Below.refl _ _).alloc (Nat.le_refl _) _)
      have HE5 : Hid ((wr.alloc (.cells #[.int .i64 X, .slice A1 nl c1] 55)).heap[wr.heap.size]? = some (.cells #[.int .i64 X, .slice A1 nl c1] 55 (0, 0))) := Lib.hid (heap_alloc_new wr _)
      have hs5 : (wr.alloc (.cells #[.int .i64 X, .slice A1 nl c1] 55)).heap.size = wr.heap.size + 1 := by simp
      generalize wr.alloc (.cells #[.int .i64 X, .slice A1 nl c1] 55) = W5 at *
      have H25 : Hid (LgB W5 (w.heap.size + 1 + 1) 35 cnt v) := Lib.hid (HR2.out.after HA5.out)
      have KS : Hid (∀ w', After W5 w' → w'.cell? ⟨w.heap.size + 1 + 1, 1, none⟩ = some v ∧ w'.cell? ⟨wr.heap.size, 0, none⟩ = some (.int .i64 X) ∧ w'.cell? ⟨wr.heap.size, 1, none⟩ = some (.slice A1 nl c1)) := Lib.hid fun w' hw => ⟨(H25.out.after hw).snd, blk_cell ((Below.block hw _ (by omega)).trans HE5.out) 0, blk_cell ((Below.block hw _ (by omega)).trans HE5.out) 1⟩
      have HA4 : Hid (After W5 (W5.alloc (.cells #[] 5)).drew) := Lib.hid ((After.drew W5).alloc (Nat.le_refl _) _)
      have HO4 : Hid (Own (W5.alloc (.cells #[] 5)).drew W5.heap.size (.slice (some ⟨W5.heap.size, 0, none⟩) 0 0) []) := Lib.hid (Own.blk (Nat.le_refl _) (heap_alloc_new W5.drew _) rfl (by omega) (by unfold maxLen; omega) rfl rfl)
      have HS4 : Hid (BS (W5.alloc (.cells #[] 5)).drew w.heap.size A1 nl c1 l) := Lib.hid (HS1.out.below (HB.out.trans ((Below.mono HA5.out HB.out.size).trans (Below.mono HA4.out (by omega)))))
      have hsz4 : W5.heap.size ≤ (W5.alloc (.cells #[] 5)).drew.heap.size := HA4.out.size
      have HN4 : Hid (([] : List Nat).length + nl < 1000000000) := Lib.hid (by simp; omega)
      have HS5 := Lib.hid hs5
      clear hs5
      refine wp_region_F (S := (fun w' => w'.cell? ⟨w.heap.size + 1 + 1, 1, none⟩ = some v ∧ w'.cell? ⟨wr.heap.size, 0, none⟩ = some (.int .i64 X) ∧ w'.cell? ⟨wr.heap.size, 1, none⟩ = some (.slice A1 nl c1))) [12] (by kernel_rfl) (KS.out _ (After.drew W5)) (fun hHeld => ?_)
      refine wpAnyF_take (i := 0) (oi := _) (v := ?_) rfl (by kernel_rfl) (by kernel_rfl) (by kernel_rfl) (by kernel_rfl) (fun _ _ _ h => h) (Or.inl ⟨by rfl, ?_⟩) (by assumption) ?_
      rotate_left 1
      · intro w hSw
        (try dsimp only at hSw)
        (first | (go_simp; done) | (go_simp; with_reducible rfl))
      (try simp only [Act.put, List.getElem_toArray, List.getElem_cons_succ, List.getElem_cons_zero, List.setIfInBounds_toArray, List.set_cons_zero, List.set_cons_succ])
      refine wpAnyF_take (i := 1) (oi := _) (v := ?_) rfl (by kernel_rfl) (by kernel_rfl) (by kernel_rfl) (by kernel_rfl) (fun _ _ _ h => h) (Or.inl ⟨by rfl, ?_⟩) (by assumption) ?_
      rotate_left 1
      · intro w hSw
        (try dsimp only at hSw)
        (first | (go_simp; done) | (go_simp; with_reducible rfl))
      (try simp only [Act.put, List.getElem_toArray, List.getElem_cons_succ, List.getElem_cons_zero, List.setIfInBounds_toArray, List.set_cons_zero, List.set_cons_succ])
      refine wpAnyF_take (i := 2) (oi := _) (v := ?_) rfl (by kernel_rfl) (by kernel_rfl) (by kernel_rfl) (by kernel_rfl) (fun _ _ _ h => h) (Or.inl ⟨by rfl, ?_⟩) (by assumption) ?_
      rotate_left 1
      · intro w hSw
        (try dsimp only at hSw)
        (first | (go_simp; done) | (go_simp; with_reducible rfl))
      (try simp only [Act.put, List.getElem_toArray, List.getElem_cons_succ, List.getElem_cons_zero, List.setIfInBounds_toArray, List.set_cons_zero, List.set_cons_succ])
      refine wpAnyF_take (i := 3) (oi := _) (v := ?_) rfl (by kernel_rfl) (by kernel_rfl) (by kernel_rfl) (by kernel_rfl) (fun _ _ _ h => h) (Or.inl ⟨by rfl, ?_⟩) (by assumption) ?_
      rotate_left 1
      · intro w hSw
        (try dsimp only at hSw)
        (first | (go_simp; done) | (go_simp; with_reducible rfl))
      (try simp only [Act.put, List.getElem_toArray, List.getElem_cons_succ, List.getElem_cons_zero, List.setIfInBounds_toArray, List.set_cons_zero, List.set_cons_succ])
      refine wpAnyF_take (i := 5) (oi := _) (v := ?_) rfl (by kernel_rfl) (by kernel_rfl) (by kernel_rfl) (by kernel_rfl) (fun _ _ _ h => h) (Or.inl ⟨by rfl, ?_⟩) (by assumption) ?_
      rotate_left 1
      · intro w hSw
        (try dsimp only at hSw)
        (first | (go_simp; done) | (go_simp; with_reducible rfl))
      (try simp only [Act.put, List.getElem_toArray, List.getElem_cons_succ, List.getElem_cons_zero, List.setIfInBounds_toArray, List.set_cons_zero, List.set_cons_succ])
      refine wpAnyF_take (i := 6) (oi := _) (v := ?_) rfl (by kernel_rfl) (by kernel_rfl) (by kernel_rfl) (by kernel_rfl) (fun _ _ _ h => h) (Or.inl ⟨by rfl, ?_⟩) (by assumption) ?_
      rotate_left 1
      · intro w hSw
        (try dsimp only at hSw)
        (first | (go_simp; done) | (go_simp; with_reducible rfl))
      (try simp only [Act.put, List.getElem_toArray, List.getElem_cons_succ, List.getElem_cons_zero, List.setIfInBounds_toArray, List.set_cons_zero, List.set_cons_succ])
      refine wpAnyF_ready (rs := [4]) (by kernel_rfl) (by simp) ?_
      refine AllReadyF.cons (o := _) rfl (fun K hK => ?_) AllReadyF.nil
      go_simp
      refine hK.out _ _ (KS.out _ HA4.out) (fun hHeld4 => ?_)
      clear hK K
      (try simp only [Act.put, List.getElem_toArray, List.getElem_cons_succ, List.getElem_cons_zero, List.setIfInBounds_toArray, List.set_cons_zero, List.set_cons_succ])
      refine wpAnyF_ready (rs := [7]) (by kernel_rfl) (by simp) ?_
      refine AllReadyF.cons (o := _) rfl (fun K hK => ?_) AllReadyF.nil
      rw [if_pos (by kernel_rfl)]
      refine step_apps _ (.tmp 20) (.tmp 22) rfl W5.heap.size (.slice (some ⟨W5.heap.size, 0, none⟩) 0 0) [] rfl HO4.out w.heap.size A1 nl c1 l rfl HS4.out HA1.out HN4.out hsz4 ?_
      intro v7 w7 hown7 hb7
      have HA7 : Hid (After W5 w7) := Lib.hid (HA4.out.trans hb7)
      have hq7 := hown7.bs (by simpa using HLB.out)
      rw [List.nil_append] at hq7 hown7
      rw [HNL.out] at hq7
      obtain ⟨A7, c7, rfl, _⟩ := hq7
      have HO7 : Hid (Own w7 W5.heap.size (.slice A7 nl c7) l) := Lib.hid hown7
      clear hown7 hb7 HO4 HS4 HA4 HN4
      refine hK.out _ _ (KS.out _ HA7.out) (fun hHeld7 => ?_)
      clear hK K
      (try simp only [Act.put, List.getElem_toArray, List.getElem_cons_succ, List.getElem_cons_zero, List.setIfInBounds_toArray, List.set_cons_zero, List.set_cons_succ])
      refine wpAnyF_take (i := 8) (oi := _) (v := ?_) rfl (by kernel_rfl) (by kernel_rfl) (by kernel_rfl) (by kernel_rfl) (fun _ _ _ h => h) (Or.inl ⟨by rfl, ?_⟩) (by assumption) ?_
      rotate_left 1
      · intro w hSw
        (try dsimp only at hSw)
        (first | (go_simp; done) | (go_simp; with_reducible rfl))
      (try simp only [Act.put, List.getElem_toArray, List.getElem_cons_succ, List.getElem_cons_zero, List.setIfInBounds_toArray, List.set_cons_zero, List.set_cons_succ])
      have HA9 : Hid (After W5 (w7.alloc (.cells #[.int .i64 X, .slice A7 nl c7] 58))) := Lib.hid (HA7.out.alloc (Below.size HA7.out) _)
      refine wpAnyF_ready (rs := [9]) (by kernel_rfl) (by simp) ?_
      refine AllReadyF.cons (o := _) rfl (fun K hK => ?_) AllReadyF.nil
      go_simp
      refine hK.out _ _ (KS.out _ HA9.out) (fun hHeld9 => ?_)
      clear hK K
      (try simp only [Act.put, List.getElem_toArray, List.getElem_cons_succ, List.getElem_cons_zero, List.setIfInBounds_toArray, List.set_cons_zero, List.set_cons_succ])
      have HW7 : Hid (After wr w7) := Lib.hid (HA5.out.next HA7.out)
      have hB7 : w.heap.size + 3 ≤ w7.heap.size := Nat.le_trans hsz (Below.size HW7.out)
      have HO7E : Hid (EnO 58 w7 w.heap.size (w.heap.size + 3) v pre) := Lib.hid (HO.out.below (by omega) hsz HW7.out)
      have HI7 : Hid (EnI w7 w.heap.size (w.heap.size + 3) A7 c7 l) := Lib.hid ⟨.inr ⟨by rw [HNL.out]; exact HO7.out.base (by have := HS5.out; omega), HLB.out⟩, own_zero HO7.out⟩
      have HV : Hid (∀ g, v.ownBlock = some g → w.heap.size + 3 ≤ g ∧ g < wr.heap.size) := Lib.hid (by obtain ⟨vs, h, _⟩ := HO.out; exact fun g e => World.ownsRow.lt h g e)
      have HK7 := Lib.hid hHeld7
      have HLT7 : Hid (wr.heap.size < w7.heap.size) := Lib.hid (by have := Below.size HA7.out; have := HS5.out; omega)
      refine wpAnyF_ready (rs := [10]) (by kernel_rfl) (by simp) ?_
      refine AllReadyF.cons (o := _) rfl (fun K hK => ?_) AllReadyF.nil
      rw [if_pos (by kernel_rfl)]
      refine step_appE 58 33 Try.underlying33 (by kernel_rfl) (by decide) w7 (.tmp 17) (.tmp 25) rfl w.heap.size (w.heap.size + 3) (by omega) v pre X A7 c7 nl l HNL.out rfl HO7E.out HTL.out rfl HI7.out hB7 ?_
      intro v10 w10 hO10 hb10 hfar10
      obtain ⟨nn, A10, cc, rfl⟩ : ∃ nn A cc, v10 = .slice A nn cc := by
        obtain ⟨A, c, e, _⟩ := hO10.esV (by omega) (Nat.le_trans hB7 hb10.size)
        exact ⟨_, A, c, e⟩
      have HK10 : Hid (w10.cell? ⟨w.heap.size + 1 + 1, 1, none⟩ = some v ∧ w10.cell? ⟨wr.heap.size, 0, none⟩ = some (.int .i64 X) ∧ w10.cell? ⟨wr.heap.size, 1, none⟩ = some (.slice A1 nl c1)) := Lib.hid
        ⟨(World.cell?_of_block (hfar10 _ (by show w.heap.size + 1 + 1 < _; omega) (fun e => by have := (HV.out _ e).1; simp at this; omega))).trans HK7.out.1,
         (World.cell?_of_block (hfar10 _ HLT7.out (fun e => by have := (HV.out _ e).2; simp at this))).trans HK7.out.2.1,
         (World.cell?_of_block (hfar10 _ HLT7.out (fun e => by have := (HV.out _ e).2; simp at this))).trans HK7.out.2.2⟩
      have HOU : Hid (OuR w cnt es (.int .i64 ((k : Int) + 1)) (w10.setCell ⟨w.heap.size + 1 + 1, 1, none⟩ (.slice A10 nn cc))) := Lib.hid (by
        have g1 : w10.heap[w.heap.size + 1]? = wr.heap[w.heap.size + 1]? := (hb10.block _ (by omega)).trans (Below.block HW7.out _ (by omega))
        have g2 : w10.heap[w.heap.size + 2]? = wr.heap[w.heap.size + 2]? := (hb10.block _ (by omega)).trans (Below.block HW7.out _ (by omega))
        have g3 : LgB w10 (w.heap.size + 2) 35 cnt v := g2.trans HR2.out
        have g4 := blk_set g3 1 (.slice A10 nn cc)
        have g5 : Below w.heap.size w w10 := HB.out.trans ((Below.mono HW7.out HB.out.size).trans (Below.mono hb10 (by omega)))
        refine HNX.out (.slice A10 nn cc) _ ?_ (by simpa [LgB] using g4) (hO10.set _ (by show w.heap.size ≤ w.heap.size + 1 + 1; omega) (by show w.heap.size + 1 + 1 < w.heap.size + 3; omega) (.slice A10 nn cc)) ?_ ?_
        · exact (show _ = w10.heap[w.heap.size + 1]? by simp [World.setCell, Array.getElem?_modify]).trans (g1.trans HR1.out)
        · exact g5.setCell (by show w.heap.size ≤ w.heap.size + 1 + 1; omega) (.slice A10 nn cc)
        · rw [size_set]; exact Nat.le_trans hB7 hb10.size)
      have f10 : w10.frozen? ⟨w.heap.size + 1 + 1, 1, none⟩ = false := by
        have g3 : LgB w10 (w.heap.size + 2) 35 cnt v := ((hb10.block _ (by omega)).trans (Below.block HW7.out _ (by omega))).trans HR2.out
        exact blk_free g3 1
      clear hO10 hb10 hfar10 HO7E HI7 HO7 HO HR1 HR2
      refine hK.out _ _ (HK10.out) (fun hHeld10 => ?_)
      clear hK K
      (try simp only [Act.put, List.getElem_toArray, List.getElem_cons_succ, List.getElem_cons_zero, List.setIfInBounds_toArray, List.set_cons_zero, List.set_cons_succ])
      refine wpAnyF_take (i := 11) (oi := _) (v := ?_) rfl (by kernel_rfl) (by kernel_rfl) (by kernel_rfl) (by kernel_rfl) (fun _ _ _ h => h) (Or.inl ⟨by rfl, ?_⟩) (by assumption) ?_
      rotate_left 1
      · intro w hSw
        (try dsimp only at hSw)
        (first | (go_simp; done) | (go_simp; with_reducible rfl))
      (try simp only [Act.put, List.getElem_toArray, List.getElem_cons_succ, List.getElem_cons_zero, List.setIfInBounds_toArray, List.set_cons_zero, List.set_cons_succ])
      have c10 := hHeld10.1
      refine wpAnyF_ready (rs := [12]) (by kernel_rfl) (by simp) ?_
      refine AllReadyF.last (o := _) rfl (by rfl) (fun K hK => ?_) AllReadyF.nil
      go_simp
      refine hK.out _ _ ?_
      clear hK K
      (try simp only [Act.put, List.getElem_toArray, List.getElem_cons_succ, List.getElem_cons_zero, List.setIfInBounds_toArray, List.set_cons_zero, List.set_cons_succ])
      refine wpAnyF_done (by kernel_rfl) ?_ _
      clear c10 f10 hHeld hHeld4 hHeld7 hHeld9 hHeld10 HK7 HK10 HNX
      go_wp2
      go_roundw
      case rel => exact HOU.out
      case measure => simp [intOf]; omega
    · have hkn : k = n := by have := HL.out; omega
      subst hkn
      have hfull : es.take k = es := List.take_of_length_le (by rw [HL.out]; exact Nat.le_refl _)
      rw [hfull] at HO
      obtain ⟨A9, c9, rfl, _⟩ := HO.out.esV (by omega) hsz
      have HFX : Hid (((wr.setCell ⟨w.heap.size + 1, 0, none⟩ (.int .u64 (cnt : Int))).setCell ⟨w.heap.size + 1, 1, none⟩ (.slice A9 k c9)).heap[w.heap.size + 1]? = some (.cells #[.int .u64 (cnt : Int), .slice A9 k c9] 35 (0, 0))) := Lib.hid (by
        have h := blk_set (blk_set HR1.out 0 (.int .u64 (cnt : Int))) 1 (.slice A9 k c9)
        simpa using h)
      have HIL : Hid ((Try.prog.info? 35).map (·.size) = some (#[.int .u64 (cnt : Int), .slice A9 k c9] : Array Value).size) := Lib.hid (by rw [show (#[.int .u64 (cnt : Int), .slice A9 k c9] : Array Value).size = 2 from rfl]; kernel_rfl)
      have HF : Hid (OursTo w cnt es (.returned (.agg #[.int .u64 (cnt : Int), .slice A9 k c9])) ((wr.setCell ⟨w.heap.size + 1, 0, none⟩ (.int .u64 (cnt : Int))).setCell ⟨w.heap.size + 1, 1, none⟩ (.slice A9 k c9))) := Lib.hid (by
        refine ⟨A9, c9, by rw [HL.out], (HB.out.setCell (by show w.heap.size ≤ w.heap.size + 1; omega) _).setCell (by show w.heap.size ≤ w.heap.size + 1; omega) _, ?_⟩
        obtain ⟨A, c, e, h⟩ := ((HO.out.set ⟨w.heap.size + 1, 0, none⟩ (by show w.heap.size ≤ w.heap.size + 1; omega) (by show w.heap.size + 1 < w.heap.size + 3; omega) (.int .u64 (cnt : Int))).set ⟨w.heap.size + 1, 1, none⟩ (by show w.heap.size ≤ w.heap.size + 1; omega) (by show w.heap.size + 1 < w.heap.size + 3; omega) (.slice A9 k c9)).esV (by omega) (by rw [size_set, size_set]; exact hsz)
        injection e with e1 _ _
        subst e1
        exact h)
      clear hfull HO
      have g0 := HR1.out.fst
      have g1 := HR1.out.snd
      have d0 := HR2.out.fst
      have d1 := HR2.out.snd
      rw [HL.out] at d1
      have f0 : wr.frozen? ⟨w.heap.size + 1, 0, none⟩ = false := blk_free HR1.out 0
      have f1 : wr.frozen? ⟨w.heap.size + 1, 1, none⟩ = false := blk_free HR1.out 1
      go_wp2
      exact bodyPost_ret (v := .agg #[.int .u64 (cnt : Int), .slice A9 k c9]) (results_cell_row rfl _ _ _ 35 _ (0, 0) _ rfl HFX.out Try.underlying35 rfl HIL.out) rfl HF.out
end Go.Proofs.Ytnalebocfbbpdaa
