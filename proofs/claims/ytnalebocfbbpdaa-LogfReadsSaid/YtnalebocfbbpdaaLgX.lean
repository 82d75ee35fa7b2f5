/-
  Package logf: Parse, where there are as many blocks as ought to be.
-/
import Derived.Test.YtnalebocfbbpdaaLgW
namespace Go.Proofs.Ytnalebocfbbpdaa
open Go.RowKit Go Go.Deep
set_option linter.unusedVariables false
set_option linter.unusedSimpArgs false
set_option maxRecDepth 100000
theorem results_row_num {P : Program} {fn : Func} {p u : Tmp} {ty : TypeId} (h : fn.results = #[.cell p ty, .tmp u]) (tmps : Array Value) (w : World) (g : Nat) (t : TypeId) (cs : Array Value) (fr : Nat × Nat) (d : TypeDesc)
    (v2 : Value) (hp : tmps.getD p undef = .pointer (some ⟨g, 0, none⟩)) (hv2 : tmps.getD u undef = v2) (hg : w.heap[g]? = some (.cells cs t fr))
    (hu : P.underlying ty = some d) (hd : (match d with | .struct _ | .array _ _ => true | _ => false) = true) (hi : (P.info? ty).map (·.size) = some cs.size) :
    (results fn tmps).run P w = .ok (.tuple #[.agg cs, v2]) w := by
  subst hv2
  have hp' : tmps[p]?.getD undef = .pointer (some ⟨g, 0, none⟩) := by simpa using hp
  simp [results, h, hp', asAddr, run_loadVar_row w g t ty cs fr d hg hu hd hi, Sem.run_bind, Result.andThen]
def ParseTo (w : World) (p t : Int) (tn : Nat) (Ls : List (List Nat)) (e : Ending) (w' : World) : Prop :=
  ∃ (x : Nat) (es : List (Int × List Nat)) (A : Option Addr) (m c : Nat) (er : Int), e = .returned (.tuple #[.agg #[.int .u64 (x : Int), .slice A m c], .int .i64 er]) ∧ Below w.heap.size w w' ∧ EsV w' A m es ∧ EsZ w' A m ∧
    ((MayG p t (readL (Ls.getD 0 []) Ls tn) ∧ headL (numAt (Ls.getD 0 []) 8 8) (readL (Ls.getD 0 []) Ls tn) = Ls.getD 0 [] ∧ x = numAt (Ls.getD 0 []) 8 8 ∧ es = readL (Ls.getD 0 []) Ls tn ∧ er = 0) ∨
     (¬ (MayG p t (readL (Ls.getD 0 []) Ls tn) ∧ headL (numAt (Ls.getD 0 []) 8 8) (readL (Ls.getD 0 []) Ls tn) = Ls.getD 0 []) ∧ x = 0 ∧ es = [] ∧ er = 4))
theorem readL_ok {F : List Nat} {Ls : List (List Nat)} {t : Nat} (ht : t ≤ 24) (hl : Ls.length = t + 1) (h : ∀ i, i < Ls.length → (Ls.getD i []).length = 256) : (readL F Ls t).length ≤ 24 ∧ ∀ i, i < (readL F Ls t).length → (dAt (readL F Ls t) i).length = 256 := by
  unfold readL
  split
  · exact ⟨by simp, fun i hi => by simp at hi⟩
  · refine ⟨by rw [readE_len]; omega, fun i hi => ?_⟩
    rw [readE_len] at hi
    have e : dAt (readE F Ls (numAt F 16 2)) i = Ls.getD (1 + i) [] := by
      unfold dAt readE
      rw [List.getD_eq_getElem?_getD, List.getElem?_map, List.getElem?_range hi]; rfl
    rw [e]
    exact h _ (by omega)
set_option maxHeartbeats 8000000 in
theorem parse14_any (p t gB cap : Nat) (Ls : List (List Nat)) (hg : Geo.May p t) (hLs : Ls.length = t + 1) (hcap : t + 1 ≤ cap) (hcap9 : cap ≤ 9223372036854775807) (h256 : ∀ i, i < Ls.length → (Ls.getD i []).length = 256) (w : World) (hblk : Blk w gB Ls) :
    Calls Try.prog 13 #[.agg #[.int .i64 (p : Int), .int .i64 (t : Int)], .slice (some ⟨gB, 0, none⟩) (t + 1) cap] w (ParseTo w p t t Ls) := by
  have ht24 : t ≤ 24 := by unfold Geo.May at hg; omega
  obtain ⟨W0, hW⟩ : ∃ W0, W0 = (w.alloc (.cells #[.int .i64 (p : Int), .int .i64 (t : Int)] 23)).alloc (.cells #[.int .u64 0, .slice none 0 0] 35) := ⟨_, rfl⟩
  have hb0 : Below w.heap.size w W0 := by rw [hW]; exact ((Below.refl _ _).alloc (Nat.le_refl _) _).alloc (by simp) _
  have hx0 : W0.heap[w.heap.size]? = some (.cells #[.int .i64 (p : Int), .int .i64 (t : Int)] 23 (0, 0)) := by rw [hW]; exact blk_alloc (heap_alloc_new w _) _
  have hx1 : W0.heap[w.heap.size + 1]? = some (.cells #[.int .u64 0, .slice none 0 0] 35 (0, 0)) := by
    have := heap_alloc_new (w.alloc (.cells #[.int .i64 (p : Int), .int .i64 (t : Int)] 23)) (.cells #[.int .u64 0, .slice none 0 0] 35)
    rw [show (w.alloc (.cells #[.int .i64 (p : Int), .int .i64 (t : Int)] 23)).heap.size = w.heap.size + 1 by simp, ← hW] at this
    exact this
  have HI : Hid ((Try.prog.info? 23).map (·.size) = some (#[Value.int .i64 (p : Int), Value.int .i64 (t : Int)] : Array Value).size) := Lib.hid (info_geo2 p t)
  have HB0 := Lib.hid hb0
  have HX0 := Lib.hid hx0
  have HX1 := Lib.hid hx1
  have HBLK := Lib.hid (hblk.below hb0)
  have HLS := Lib.hid hLs
  have H256 := Lib.hid h256
  have HGM := Lib.hid hg
  have HRK := Lib.hid (readL_ok (F := Ls.getD 0 []) ht24 hLs h256)
  have HF256 : Hid ((Ls.getD 0 []).length = 256) := Lib.hid (h256 0 (by omega))
  have HRD : Hid (∀ W, Below W0.heap.size W0 W → ∀ A1 c1, BS W W.heap.size A1 256 c1 (Ls.getD 0 []) → Calls Try.prog 30 #[.slice A1 256 c1, .slice (some ⟨gB, 1, none⟩) t (cap - 1)] W (ReadTo W (Ls.getD 0 []) Ls t)) := Lib.hid (fun W h A1 c1 hs => read_any (Ls.getD 0 []) Ls gB t c1 (cap - 1) A1 ht24 (by omega) (by omega) hLs h256 W hs (HBLK.out.below h))
  have HCN : Hid (∀ W, Below W0.heap.size W0 W → Calls Try.prog 28 #[.slice (some ⟨gB, 0, none⟩) (t + 1) cap, .func (Fn.func 29) #[] #[]] W fun e w' => e = .returned (.bool false) ∧ W = w') := Lib.hid (fun W h => by
    have := bcontains_no gB cap Ls W (HBLK.out.below h) (by omega) h256
    rw [hLs] at this
    exact this)
  have h1t : (1 : Int) ≤ (t : Int) + 1 := by omega
  have hcap1 : ¬ cap = 1 := by unfold Geo.May at hg; omega
  have hne : ((t : Int) + 1 != 1 + (t : Int)) = false := by rw [bne_eq_false_iff_eq]; omega
  have HC0 : Hid (∀ W, Below W0.heap.size W0 W → W.cell? ⟨w.heap.size, 0, none⟩ = some (.int .i64 (p : Int)) ∧ W.cell? ⟨w.heap.size, 1, none⟩ = some (.int .i64 (t : Int)) ∧ ∃ A c, W.cell? ⟨gB, 0, none⟩ = some (.slice A 256 c) ∧ BS W W.heap.size A 256 c (Ls.getD 0 [])) := Lib.hid (fun W h => by
    have h2 := (h.block _ (blk_lt HX0.out)).trans HX0.out
    obtain ⟨A, c, k1, k2⟩ := (HBLK.out.below h).2 0 (by omega)
    rw [HF256.out] at k1 k2
    exact ⟨blk_cell h2 0, blk_cell h2 1, A, c, k1, k2⟩)
  have HW := Lib.hid hW
  clear hb0 hx0 hx1 hblk hLs h256 hg hW
  go_enter Try.func13, Try.ntmps13
  go_wp2_with fail
  rw [← HW.out]
  refine (check_yes p t HGM.out _).mono ?_
  rintro e w1 ⟨rfl, hb1⟩
  have HB1 := Lib.hid hb1
  obtain ⟨c0, c1, A1, c1x, k1, k2⟩ := HC0.out w1 hb1
  clear hb1
  go_wp2_with fail
  refine (HCN.out w1 HB1.out).mono ?_
  rintro e w2 ⟨rfl, rfl⟩
  go_wp2_with fail
  have HKR : Hid (∀ W, Below w1.heap.size w1 W → W.cell? ⟨gB, 0, none⟩ = some (.slice A1 256 c1x)) := Lib.hid (fun W h => (h.cell (p := ⟨gB, 0, none⟩) (HBLK.out.below HB1.out).1).trans k1)
  have HS1 := Lib.hid k2
  have HCL : Hid ((numAt (Ls.getD 0 []) 8 8) < 2 ^ 64) := Lib.hid (by have := numAt_lt k2.byte 8 8; omega)
  clear k1 k2 c0 c1
  refine wp_region_F (S := fun (W : World) => W.cell? ⟨gB, 0, none⟩ = some (.slice A1 256 c1x)) [7] (by kernel_rfl) (HKR.out _ ((Below.refl _ _).drew)) (fun hHeld => ?_)
  refine wpAnyF_take (i := 0) (oi := _) (v := ?_) rfl (by kernel_rfl) (by kernel_rfl) (by kernel_rfl) (by kernel_rfl) (fun _ _ _ h => h) (Or.inl ⟨by rfl, ?_⟩) (by assumption) ?_
  rotate_left 1
  · intro w hSw
    (try dsimp only at hSw)
    (first | (go_simp; done) | (go_simp; with_reducible rfl))
  (try simp only [Act.put, List.getElem_toArray, List.getElem_cons_succ, List.getElem_cons_zero, List.setIfInBounds_toArray, List.set_cons_zero, List.set_cons_succ])
  refine wpAnyF_take (i := 1) (oi := _) (v := ?_) rfl (by kernel_rfl) (by kernel_rfl) (by kernel_rfl) (by kernel_rfl) (fun _ _ _ h => h) (Or.inl ⟨by rfl, ?_⟩) (by assumption) ?_
  rotate_left 1
  · intro w hSw
    (try dsimp only at hSw)
    (first | (go_simp; done) | (go_simp; with_reducible rfl))
  (try simp only [Act.put, List.getElem_toArray, List.getElem_cons_succ, List.getElem_cons_zero, List.setIfInBounds_toArray, List.set_cons_zero, List.set_cons_succ])
  refine wpAnyF_take (i := 2) (oi := _) (v := ?_) rfl (by kernel_rfl) (by kernel_rfl) (by kernel_rfl) (by kernel_rfl) (fun _ _ _ h => h) (Or.inl ⟨by rfl, ?_⟩) (by assumption) ?_
  rotate_left 1
  · intro w hSw
    (try dsimp only at hSw)
    (first | (go_simp; done) | (go_simp; with_reducible rfl))
  (try simp only [Act.put, List.getElem_toArray, List.getElem_cons_succ, List.getElem_cons_zero, List.setIfInBounds_toArray, List.set_cons_zero, List.set_cons_succ])
  refine wpAnyF_take (i := 3) (oi := _) (v := ?_) rfl (by kernel_rfl) (by kernel_rfl) (by kernel_rfl) (by kernel_rfl) (fun _ _ _ h => h) (Or.inl ⟨by rfl, ?_⟩) (by assumption) ?_
  rotate_left 1
  · intro w hSw
    (try dsimp only at hSw)
    (first | (go_simp; done) | (go_simp; with_reducible rfl))
  (try simp only [Act.put, List.getElem_toArray, List.getElem_cons_succ, List.getElem_cons_zero, List.setIfInBounds_toArray, List.set_cons_zero, List.set_cons_succ])
  refine wpAnyF_take (i := 4) (oi := _) (v := ?_) rfl (by kernel_rfl) (by kernel_rfl) (by kernel_rfl) (by kernel_rfl) (fun _ _ _ h => h) (Or.inl ⟨by rfl, ?_⟩) (by assumption) ?_
  rotate_left 1
  · intro w hSw
    (try dsimp only at hSw)
    (first | (go_simp; done) | (go_simp; with_reducible rfl))
  (try simp only [Act.put, List.getElem_toArray, List.getElem_cons_succ, List.getElem_cons_zero, List.setIfInBounds_toArray, List.set_cons_zero, List.set_cons_succ])
  refine wpAnyF_ready (rs := [5, 6]) (by kernel_rfl) (by simp) ?_
  refine AllReadyF.cons (o := _) rfl (fun K hK => ?_) (AllReadyF.cons (o := _) rfl (fun K hK => ?_) AllReadyF.nil)
  · go_simp
    (go_at_call 30)
    refine (HRD.out w1.drew (HB1.out.drew) A1 c1x ((HS1.out.below ((Below.refl w1.heap.size w1).drew)).more ((Below.refl w1.heap.size w1).drew).size)).mono ?_
    rintro e v5 ⟨A5, c5, rfl, hb5, hv5, hz5⟩
    have HQ5 : Hid (LgOk v5 A5 (readL (Ls.getD 0 []) Ls t)) := Lib.hid ⟨hv5, hz5, by have := HRK.out.1; omega, fun i hi => by have := HRK.out.2 i hi; omega⟩
    have HA5 : Hid (Below w1.heap.size w1 v5) := Lib.hid (((Below.refl w1.heap.size w1).drew).trans hb5)
    clear hb5 hv5 hz5
    generalize hEE : (readL (Ls.getD 0 []) Ls t) = es at HQ5 ⊢
    generalize hCC : (numAt (Ls.getD 0 []) 8 8) = cnt at HCL ⊢
    refine hK.out _ _ (HKR.out _ HA5.out) (fun hHeld5 => ?_)
    clear hK K
    (try simp only [Act.put, List.getElem_toArray, List.getElem_cons_succ, List.getElem_cons_zero, List.setIfInBounds_toArray, List.set_cons_zero, List.set_cons_succ])
    have HEE : Hid ((readL (Ls.getD 0 []) Ls t) = es) := Lib.hid hEE
    have HCC : Hid ((numAt (Ls.getD 0 []) 8 8) = cnt) := Lib.hid hCC
    have hX6 := heap_alloc_new v5 (.cells #[.int .u64 0, .slice none 0 0] 35)
    have hA6 : Below v5.heap.size v5 (v5.alloc (.cells #[.int .u64 0, .slice none 0 0] 35)) := (Below.refl _ _).alloc (Nat.le_refl _) _
    have HA6 : Hid (Below w1.heap.size w1 (v5.alloc (.cells #[.int .u64 0, .slice none 0 0] 35))) := Lib.hid (HA5.out.trans (hA6.mono HA5.out.size))
    have HQ6 := Lib.hid hA6
    refine wpAnyF_ready (rs := [6]) (by kernel_rfl) (by simp) ?_
    refine AllReadyF.cons (o := _) rfl (fun K hK => ?_) AllReadyF.nil
    go_simp
    refine hK.out _ _ (HKR.out _ HA6.out) (fun hHeld6 => ?_)
    clear hK K
    (try simp only [Act.put, List.getElem_toArray, List.getElem_cons_succ, List.getElem_cons_zero, List.setIfInBounds_toArray, List.set_cons_zero, List.set_cons_succ])
    have HX6 := Lib.hid hX6
    have HB6 : Hid (w1.heap.size ≤ v5.heap.size) := Lib.hid HA5.out.size
    have HBB : Hid (v5.heap.size = v5.heap.size) := Lib.hid rfl
    clear hX6 hA6
    generalize v5.alloc (.cells #[.int .u64 0, .slice none 0 0] 35) = v6 at *
    obtain ⟨b, hb⟩ : ∃ b, b = v5.heap.size := ⟨_, rfl⟩
    rw [← hb] at HX6 HB6 ⊢
    have HBV : Hid (v5.heap.size ≤ b) := Lib.hid (by rw [hb]; exact Nat.le_refl _)
    clear hb HBB
    have q6 : v6.cell? ⟨b, 0, none⟩ = some (.int .u64 0) := blk_cell HX6.out 0
    have q7 : v6.cell? ⟨b, 1, none⟩ = some (.slice none 0 0) := blk_cell HX6.out 1
    have q8 : v6.frozen? ⟨b, 0, none⟩ = false := blk_free HX6.out 0
    have q9 : v6.frozen? ⟨b, 1, none⟩ = false := blk_free HX6.out 1
    refine wpAnyF_ready (rs := [7]) (by kernel_rfl) (by simp) ?_
    refine AllReadyF.last (o := _) rfl (by rfl) (fun K hK => ?_) AllReadyF.nil
    go_simp
    refine hK.out _ _ ?_
    clear hK K
    (try simp only [Act.put, List.getElem_toArray, List.getElem_cons_succ, List.getElem_cons_zero, List.setIfInBounds_toArray, List.set_cons_zero, List.set_cons_succ])
    refine wpAnyF_done (by kernel_rfl) ?_ _
    clear q6 q7 q8 q9
    obtain ⟨WF, hWF⟩ : ∃ WF, WF = ((v6.setCell ⟨b, 0, none⟩ (.int .u64 (cnt : Int))).setCell ⟨b, 1, none⟩ (.slice A5 es.length c5)) := ⟨_, rfl⟩
    have hk : ∀ k, k ≠ b → ((v6.setCell ⟨b, 0, none⟩ (.int .u64 (cnt : Int))).setCell ⟨b, 1, none⟩ (.slice A5 es.length c5)).heap[k]? = v6.heap[k]? := fun k hk => (Below.heap_setCell _ _ _ k hk).trans (Below.heap_setCell _ _ _ k hk)
    have HXF : Hid (WF.heap[b]? = some (.cells #[.int .u64 (cnt : Int), .slice A5 es.length c5] 35 (0, 0))) := Lib.hid (by
      rw [hWF]
      have h := blk_set (blk_set HX6.out 0 (.int .u64 (cnt : Int))) 1 (.slice A5 es.length c5)
      simpa using h)
    have HWF1 : Hid (Below w1.heap.size w1 WF) := Lib.hid (by rw [hWF]; exact (HA6.out.setCell (p := ⟨b, 0, none⟩) HB6.out _).setCell (p := ⟨b, 1, none⟩) HB6.out _)
    have HBF : Hid (Below W0.heap.size W0 WF) := Lib.hid (HB1.out.trans (HWF1.out.mono HB1.out.size))
    have HQF : Hid (LgOk WF A5 es) := Lib.hid (by rw [hWF]; exact HQ5.out.below ((HQ6.out.setCell (p := ⟨b, 0, none⟩) HBV.out _).setCell (p := ⟨b, 1, none⟩) HBV.out _))
    have HKF : Hid (∀ W, Below WF.heap.size WF W → W.cell? ⟨gB, 0, none⟩ = some (.slice A1 256 c1x)) := Lib.hid (fun W h => HKR.out W (HWF1.out.trans (h.mono HWF1.out.size)))
    have HSF : Hid (BS WF WF.heap.size A1 256 c1x (Ls.getD 0 [])) := Lib.hid ((HS1.out.below HWF1.out).more HWF1.out.size)
    rw [← hWF]
    clear hWF hk
    have HK4 : Hid (∀ W, Below WF.heap.size WF W → (W.cell? ⟨w.heap.size, 0, none⟩ = some (.int .i64 (p : Int)) ∧ W.cell? ⟨w.heap.size, 1, none⟩ = some (.int .i64 (t : Int)) ∧ W.cell? ⟨b, 0, none⟩ = some (.int .u64 (cnt : Int)) ∧ W.cell? ⟨b, 1, none⟩ = some (.slice A5 es.length c5) ∧ W.cell? ⟨gB, 0, none⟩ = some (.slice A1 256 c1x))) := Lib.hid (fun W h => by
      obtain ⟨z0, z1, _⟩ := HC0.out W (HBF.out.trans (h.mono HBF.out.size))
      have hb := (h.block _ (blk_lt HXF.out)).trans HXF.out
      exact ⟨z0, z1, blk_cell hb 0, blk_cell hb 1, HKF.out W h⟩)
    go_wp2_with fail
    by_cases hM : MayG p t es
    case neg =>
      refine wp_region_F (S := fun (W : World) => W.cell? ⟨w.heap.size, 0, none⟩ = some (.int .i64 (p : Int)) ∧ W.cell? ⟨w.heap.size, 1, none⟩ = some (.int .i64 (t : Int)) ∧ W.cell? ⟨b, 0, none⟩ = some (.int .u64 (cnt : Int)) ∧ W.cell? ⟨b, 1, none⟩ = some (.slice A5 es.length c5) ∧ W.cell? ⟨gB, 0, none⟩ = some (.slice A1 256 c1x)) [] (by kernel_rfl) (HK4.out _ ((Below.refl _ _).drew)) (fun hHeld => ?_)
      refine wpAnyF_take (i := 0) (oi := _) (v := ?_) rfl (by kernel_rfl) (by kernel_rfl) (by kernel_rfl) (by kernel_rfl) (fun _ _ _ h => h) (Or.inl ⟨by rfl, ?_⟩) (by assumption) ?_
      rotate_left 1
      · intro w hSw
        (try dsimp only at hSw)
        (first | (go_simp; done) | (go_simp; with_reducible rfl))
      (try simp only [Act.put, List.getElem_toArray, List.getElem_cons_succ, List.getElem_cons_zero, List.setIfInBounds_toArray, List.set_cons_zero, List.set_cons_succ])
      refine wpAnyF_take (i := 1) (oi := _) (v := ?_) rfl (by kernel_rfl) (by kernel_rfl) (by kernel_rfl) (by kernel_rfl) (fun _ _ _ h => h) (Or.inl ⟨by rfl, ?_⟩) (by assumption) ?_
      rotate_left 1
      · intro w hSw
        (try dsimp only at hSw)
        (first | (go_simp; done) | (go_simp; with_reducible rfl))
      (try simp only [Act.put, List.getElem_toArray, List.getElem_cons_succ, List.getElem_cons_zero, List.setIfInBounds_toArray, List.set_cons_zero, List.set_cons_succ])
      refine wpAnyF_ready (rs := [2]) (by kernel_rfl) (by simp) ?_
      refine AllReadyF.cons (o := _) rfl (fun K hK => ?_) AllReadyF.nil
      go_simp
      (go_at_call 8)
      refine (lmay_any p t cnt es.length c5 A5 es (by have := HQF.out.n; omega) _ (HQF.out.below ((Below.refl WF.heap.size WF).drew)).v).mono ?_
      rintro e v2 ⟨bb, rfl, hbb, hb2⟩
      obtain rfl : bb = false := by cases bb with | false => rfl | true => exact absurd (hbb.mp rfl) hM
      have HC2 : Hid (Below WF.heap.size WF v2) := Lib.hid (((Below.refl WF.heap.size WF).drew).trans hb2)
      clear hbb hb2
      refine hK.out _ _ (HK4.out _ HC2.out) (fun hHeld2 => ?_)
      clear hK K
      (try simp only [Act.put, List.getElem_toArray, List.getElem_cons_succ, List.getElem_cons_zero, List.setIfInBounds_toArray, List.set_cons_zero, List.set_cons_succ])
      refine wpAnyF_take (i := 3) (oi := _) (v := ?_) rfl (by kernel_rfl) (by kernel_rfl) (by kernel_rfl) (by kernel_rfl) (fun _ _ _ h => h) (Or.inl ⟨by rfl, ?_⟩) (by assumption) ?_
      rotate_left 1
      · intro w hSw
        (try dsimp only at hSw)
        (first | (go_simp; done) | (go_simp; with_reducible rfl))
      (try simp only [Act.put, List.getElem_toArray, List.getElem_cons_succ, List.getElem_cons_zero, List.setIfInBounds_toArray, List.set_cons_zero, List.set_cons_succ])
      refine wpAnyF_take (i := 4) (oi := _) (v := ?_) rfl (by kernel_rfl) (by kernel_rfl) (by kernel_rfl) (by kernel_rfl) (fun _ _ _ h => h) (Or.inl ⟨by rfl, ?_⟩) (by assumption) ?_
      rotate_left 1
      · intro w hSw
        (try dsimp only at hSw)
        (first | (go_simp; done) | (go_simp; with_reducible rfl))
      (try simp only [Act.put, List.getElem_toArray, List.getElem_cons_succ, List.getElem_cons_zero, List.setIfInBounds_toArray, List.set_cons_zero, List.set_cons_succ])
      refine wpAnyF_take (i := 5) (oi := _) (v := undef) rfl (by kernel_rfl) (by kernel_rfl) (by kernel_rfl) (by kernel_rfl) (fun _ _ _ h => h) (Or.inr ⟨by rfl, rfl⟩) (by assumption) ?_
      (try simp only [Act.put, List.getElem_toArray, List.getElem_cons_succ, List.getElem_cons_zero, List.setIfInBounds_toArray, List.set_cons_zero, List.set_cons_succ])
      refine wpAnyF_take (i := 6) (oi := _) (v := undef) rfl (by kernel_rfl) (by kernel_rfl) (by kernel_rfl) (by kernel_rfl) (fun _ _ _ h => h) (Or.inr ⟨by rfl, rfl⟩) (by assumption) ?_
      (try simp only [Act.put, List.getElem_toArray, List.getElem_cons_succ, List.getElem_cons_zero, List.setIfInBounds_toArray, List.set_cons_zero, List.set_cons_succ])
      refine wpAnyF_take (i := 7) (oi := _) (v := undef) rfl (by kernel_rfl) (by kernel_rfl) (by kernel_rfl) (by kernel_rfl) (fun _ _ _ h => h) (Or.inr ⟨by rfl, rfl⟩) (by assumption) ?_
      (try simp only [Act.put, List.getElem_toArray, List.getElem_cons_succ, List.getElem_cons_zero, List.setIfInBounds_toArray, List.set_cons_zero, List.set_cons_succ])
      refine wpAnyF_take (i := 8) (oi := _) (v := undef) rfl (by kernel_rfl) (by kernel_rfl) (by kernel_rfl) (by kernel_rfl) (fun _ _ _ h => h) (Or.inr ⟨by rfl, rfl⟩) (by assumption) ?_
      (try simp only [Act.put, List.getElem_toArray, List.getElem_cons_succ, List.getElem_cons_zero, List.setIfInBounds_toArray, List.set_cons_zero, List.set_cons_succ])
      refine wpAnyF_take (i := 9) (oi := _) (v := undef) rfl (by kernel_rfl) (by kernel_rfl) (by kernel_rfl) (by kernel_rfl) (fun _ _ _ h => h) (Or.inr ⟨by rfl, rfl⟩) (by assumption) ?_
      (try simp only [Act.put, List.getElem_toArray, List.getElem_cons_succ, List.getElem_cons_zero, List.setIfInBounds_toArray, List.set_cons_zero, List.set_cons_succ])
      refine wpAnyF_take (i := 10) (oi := _) (v := undef) rfl (by kernel_rfl) (by kernel_rfl) (by kernel_rfl) (by kernel_rfl) (fun _ _ _ h => h) (Or.inr ⟨by rfl, rfl⟩) (by assumption) ?_
      (try simp only [Act.put, List.getElem_toArray, List.getElem_cons_succ, List.getElem_cons_zero, List.setIfInBounds_toArray, List.set_cons_zero, List.set_cons_succ])
      refine wpAnyF_take (i := 11) (oi := _) (v := undef) rfl (by kernel_rfl) (by kernel_rfl) (by kernel_rfl) (by kernel_rfl) (fun _ _ _ h => h) (Or.inr ⟨by rfl, rfl⟩) (by assumption) ?_
      (try simp only [Act.put, List.getElem_toArray, List.getElem_cons_succ, List.getElem_cons_zero, List.setIfInBounds_toArray, List.set_cons_zero, List.set_cons_succ])
      refine wpAnyF_take (i := 12) (oi := _) (v := ?_) rfl (by kernel_rfl) (by kernel_rfl) (by kernel_rfl) (by kernel_rfl) (fun _ _ _ h => h) (Or.inl ⟨by rfl, ?_⟩) (by assumption) ?_
      rotate_left 1
      · intro w hSw
        (try dsimp only at hSw)
        (first | (go_simp; done) | (go_simp; with_reducible rfl))
      (try simp only [Act.put, List.getElem_toArray, List.getElem_cons_succ, List.getElem_cons_zero, List.setIfInBounds_toArray, List.set_cons_zero, List.set_cons_succ])
      refine wpAnyF_done (by kernel_rfl) ?_ _
      clear hHeld hHeld2
      have hR := (((HBF.out.trans (HC2.out.mono HBF.out.size))).block _ (blk_lt HX1.out)).trans HX1.out
      have HRX := Lib.hid hR
      have dd0 := blk_cell hR 0
      have dd1 := blk_cell hR 1
      have ff0 := blk_free hR 0
      have ff1 := blk_free hR 1
      have HFX : Hid (((v2.setCell ⟨w.heap.size + 1, 0, none⟩ (.int .u64 0)).setCell ⟨w.heap.size + 1, 1, none⟩ (.slice none 0 0)).heap[w.heap.size + 1]? = some (.cells #[.int .u64 0, .slice none 0 0] 35 (0, 0))) := Lib.hid (by
        have h := blk_set (blk_set hR 0 (.int .u64 0)) 1 (.slice none 0 0)
        simpa using h)
      have HIL : Hid ((Try.prog.info? 35).map (·.size) = some (#[.int .u64 0, .slice none 0 0] : Array Value).size) := Lib.hid (by rw [show (#[.int .u64 0, .slice none 0 0] : Array Value).size = 2 from rfl]; kernel_rfl)
      have HBFX : Hid (Below w.heap.size w ((v2.setCell ⟨w.heap.size + 1, 0, none⟩ (.int .u64 0)).setCell ⟨w.heap.size + 1, 1, none⟩ (.slice none 0 0))) := Lib.hid (((HB0.out.trans (((HBF.out.trans (HC2.out.mono HBF.out.size))).mono HB0.out.size)).setCell (p := ⟨w.heap.size + 1, 0, none⟩) (by show w.heap.size ≤ w.heap.size + 1; omega) _).setCell (p := ⟨w.heap.size + 1, 1, none⟩) (by show w.heap.size ≤ w.heap.size + 1; omega) _)
      have HF : Hid (ParseTo w p t t Ls (.returned (.tuple #[.agg #[.int .u64 0, .slice none 0 0], .int .i64 4])) ((v2.setCell ⟨w.heap.size + 1, 0, none⟩ (.int .u64 0)).setCell ⟨w.heap.size + 1, 1, none⟩ (.slice none 0 0))) := Lib.hid (⟨0, [], none, 0, 0, 4, rfl, HBFX.out, ⟨rfl, fun h => absurd h (by omega)⟩, fun b o e => (by cases e), .inr ⟨fun h => hM (by rw [HEE.out] at h; exact h.1), rfl, rfl, rfl⟩⟩)
      clear hR
      go_wp2
      exact bodyPost_ret (v := .tuple #[.agg #[.int .u64 0, .slice none 0 0], .int .i64 4]) (results_row_num rfl _ _ _ 35 _ (0, 0) _ _ rfl rfl HFX.out Try.underlying35 rfl HIL.out) rfl HF.out
    case pos =>
      refine wp_region_F (S := fun (W : World) => W.cell? ⟨w.heap.size, 0, none⟩ = some (.int .i64 (p : Int)) ∧ W.cell? ⟨w.heap.size, 1, none⟩ = some (.int .i64 (t : Int)) ∧ W.cell? ⟨b, 0, none⟩ = some (.int .u64 (cnt : Int)) ∧ W.cell? ⟨b, 1, none⟩ = some (.slice A5 es.length c5) ∧ W.cell? ⟨gB, 0, none⟩ = some (.slice A1 256 c1x)) [] (by kernel_rfl) (HK4.out _ ((Below.refl _ _).drew)) (fun hHeld => ?_)
      refine wpAnyF_take (i := 0) (oi := _) (v := ?_) rfl (by kernel_rfl) (by kernel_rfl) (by kernel_rfl) (by kernel_rfl) (fun _ _ _ h => h) (Or.inl ⟨by rfl, ?_⟩) (by assumption) ?_
      rotate_left 1
      · intro w hSw
        (try dsimp only at hSw)
        (first | (go_simp; done) | (go_simp; with_reducible rfl))
      (try simp only [Act.put, List.getElem_toArray, List.getElem_cons_succ, List.getElem_cons_zero, List.setIfInBounds_toArray, List.set_cons_zero, List.set_cons_succ])
      refine wpAnyF_take (i := 1) (oi := _) (v := ?_) rfl (by kernel_rfl) (by kernel_rfl) (by kernel_rfl) (by kernel_rfl) (fun _ _ _ h => h) (Or.inl ⟨by rfl, ?_⟩) (by assumption) ?_
      rotate_left 1
      · intro w hSw
        (try dsimp only at hSw)
        (first | (go_simp; done) | (go_simp; with_reducible rfl))
      (try simp only [Act.put, List.getElem_toArray, List.getElem_cons_succ, List.getElem_cons_zero, List.setIfInBounds_toArray, List.set_cons_zero, List.set_cons_succ])
      refine wpAnyF_ready (rs := [2]) (by kernel_rfl) (by simp) ?_
      refine AllReadyF.cons (o := _) rfl (fun K hK => ?_) AllReadyF.nil
      go_simp
      (go_at_call 8)
      refine (lmay_any p t cnt es.length c5 A5 es (by have := HQF.out.n; omega) _ (HQF.out.below ((Below.refl WF.heap.size WF).drew)).v).mono ?_
      rintro e v2 ⟨bb, rfl, hbb, hb2⟩
      obtain rfl : bb = true := hbb.mpr hM
      have HC2 : Hid (Below WF.heap.size WF v2) := Lib.hid (((Below.refl WF.heap.size WF).drew).trans hb2)
      clear hbb hb2
      refine hK.out _ _ (HK4.out _ HC2.out) (fun hHeld2 => ?_)
      clear hK K
      (try simp only [Act.put, List.getElem_toArray, List.getElem_cons_succ, List.getElem_cons_zero, List.setIfInBounds_toArray, List.set_cons_zero, List.set_cons_succ])
      refine wpAnyF_take (i := 3) (oi := _) (v := ?_) rfl (by kernel_rfl) (by kernel_rfl) (by kernel_rfl) (by kernel_rfl) (fun _ _ _ h => h) (Or.inl ⟨by rfl, ?_⟩) (by assumption) ?_
      rotate_left 1
      · intro w hSw
        (try dsimp only at hSw)
        (first | (go_simp; done) | (go_simp; with_reducible rfl))
      (try simp only [Act.put, List.getElem_toArray, List.getElem_cons_succ, List.getElem_cons_zero, List.setIfInBounds_toArray, List.set_cons_zero, List.set_cons_succ])
      refine wpAnyF_take (i := 4) (oi := _) (v := ?_) rfl (by kernel_rfl) (by kernel_rfl) (by kernel_rfl) (by kernel_rfl) (fun _ _ _ h => h) (Or.inl ⟨by rfl, ?_⟩) (by assumption) ?_
      rotate_left 1
      · intro w hSw
        (try dsimp only at hSw)
        (first | (go_simp; done) | (go_simp; with_reducible rfl))
      (try simp only [Act.put, List.getElem_toArray, List.getElem_cons_succ, List.getElem_cons_zero, List.setIfInBounds_toArray, List.set_cons_zero, List.set_cons_succ])
      refine wpAnyF_take (i := 5) (oi := _) (v := ?_) rfl (by kernel_rfl) (by kernel_rfl) (by kernel_rfl) (by kernel_rfl) (fun _ _ _ h => h) (Or.inl ⟨by rfl, ?_⟩) (by assumption) ?_
      rotate_left 1
      · intro w hSw
        (try dsimp only at hSw)
        (first | (go_simp; done) | (go_simp; with_reducible rfl))
      (try simp only [Act.put, List.getElem_toArray, List.getElem_cons_succ, List.getElem_cons_zero, List.setIfInBounds_toArray, List.set_cons_zero, List.set_cons_succ])
      refine wpAnyF_take (i := 7) (oi := _) (v := ?_) rfl (by kernel_rfl) (by kernel_rfl) (by kernel_rfl) (by kernel_rfl) (fun _ _ _ h => h) (Or.inl ⟨by rfl, ?_⟩) (by assumption) ?_
      rotate_left 1
      · intro w hSw
        (try dsimp only at hSw)
        (first | (go_simp; done) | (go_simp; with_reducible rfl))
      (try simp only [Act.put, List.getElem_toArray, List.getElem_cons_succ, List.getElem_cons_zero, List.setIfInBounds_toArray, List.set_cons_zero, List.set_cons_succ])
      refine wpAnyF_take (i := 8) (oi := _) (v := ?_) rfl (by kernel_rfl) (by kernel_rfl) (by kernel_rfl) (by kernel_rfl) (fun _ _ _ h => h) (Or.inl ⟨by rfl, ?_⟩) (by assumption) ?_
      rotate_left 1
      · intro w hSw
        (try dsimp only at hSw)
        (first | (go_simp; done) | (go_simp; with_reducible rfl))
      (try simp only [Act.put, List.getElem_toArray, List.getElem_cons_succ, List.getElem_cons_zero, List.setIfInBounds_toArray, List.set_cons_zero, List.set_cons_succ])
      refine wpAnyF_take (i := 9) (oi := _) (v := ?_) rfl (by kernel_rfl) (by kernel_rfl) (by kernel_rfl) (by kernel_rfl) (fun _ _ _ h => h) (Or.inl ⟨by rfl, ?_⟩) (by assumption) ?_
      rotate_left 1
      · intro w hSw
        (try dsimp only at hSw)
        (first | (go_simp; done) | (go_simp; with_reducible rfl))
      (try simp only [Act.put, List.getElem_toArray, List.getElem_cons_succ, List.getElem_cons_zero, List.setIfInBounds_toArray, List.set_cons_zero, List.set_cons_succ])
      refine wpAnyF_ready (rs := [6]) (by kernel_rfl) (by simp) ?_
      refine AllReadyF.cons (o := _) rfl (fun K hK => ?_) AllReadyF.nil
      go_simp
      (go_at_call 20)
      refine (head_any cnt es.length c5 A5 es _ HCL.out (HQF.out.below HC2.out).v (mayG_k hM) (by have := HQF.out.n; omega)).mono ?_
      rintro e v6 ⟨vh, rfl, hown, hb6⟩
      obtain ⟨Ah, ch, rfl, hbsh⟩ := hown.bs (headL_byte cnt es)
      rw [head_len] at hbsh ⊢
      have HSH := Lib.hid hbsh
      have HC6 : Hid (Below WF.heap.size WF v6) := Lib.hid (HC2.out.trans (hb6.mono HC2.out.size))
      clear hown hb6 hbsh
      refine hK.out _ _ (HK4.out _ HC6.out) (fun hHeld6 => ?_)
      clear hK K
      (try simp only [Act.put, List.getElem_toArray, List.getElem_cons_succ, List.getElem_cons_zero, List.setIfInBounds_toArray, List.set_cons_zero, List.set_cons_succ])
      refine wpAnyF_ready (rs := [10]) (by kernel_rfl) (by simp) ?_
      refine AllReadyF.cons (o := _) rfl (fun K hK => ?_) AllReadyF.nil
      go_simp
      (go_at_call 31)
      refine (same_any Ah A1 256 ch 256 c1x v6.heap.size (headL cnt es) (Ls.getD 0 []) _ HSH.out ((HSF.out.below HC6.out).more HC6.out.size)).mono ?_
      rintro e v10 ⟨rfl, rfl⟩
      obtain ⟨sb, hsb⟩ : ∃ sb, sameB (headL cnt es) (Ls.getD 0 []) = sb := ⟨_, rfl⟩
      have HSB : Hid (sb = true ↔ headL cnt es = Ls.getD 0 []) := Lib.hid (by rw [← hsb]; exact sameB_iff HSH.out.byte HSF.out.byte)
      rw [hsb]
      clear hsb
      refine hK.out _ _ (HK4.out _ HC6.out) (fun hHeld10 => ?_)
      clear hK K
      (try simp only [Act.put, List.getElem_toArray, List.getElem_cons_succ, List.getElem_cons_zero, List.setIfInBounds_toArray, List.set_cons_zero, List.set_cons_succ])
      refine wpAnyF_take (i := 11) (oi := _) (v := ?_) rfl (by kernel_rfl) (by kernel_rfl) (by kernel_rfl) (by kernel_rfl) (fun _ _ _ h => h) (Or.inl ⟨by rfl, ?_⟩) (by assumption) ?_
      rotate_left 1
      · intro w hSw
        (try dsimp only at hSw)
        (first | (go_simp; done) | (go_simp; with_reducible rfl))
      (try simp only [Act.put, List.getElem_toArray, List.getElem_cons_succ, List.getElem_cons_zero, List.setIfInBounds_toArray, List.set_cons_zero, List.set_cons_succ])
      refine wpAnyF_take (i := 12) (oi := _) (v := ?_) rfl (by kernel_rfl) (by kernel_rfl) (by kernel_rfl) (by kernel_rfl) (fun _ _ _ h => h) (Or.inl ⟨by rfl, ?_⟩) (by assumption) ?_
      rotate_left 1
      · intro w hSw
        (try dsimp only at hSw)
        (first | (go_simp; done) | (go_simp; with_reducible rfl))
      (try simp only [Act.put, List.getElem_toArray, List.getElem_cons_succ, List.getElem_cons_zero, List.setIfInBounds_toArray, List.set_cons_zero, List.set_cons_succ])
      refine wpAnyF_done (by kernel_rfl) ?_ _
      clear hHeld hHeld2 hHeld6 hHeld10
      cases sb with
      | false =>
        have hR := (((HBF.out.trans (HC6.out.mono HBF.out.size))).block _ (blk_lt HX1.out)).trans HX1.out
        have HRX := Lib.hid hR
        have dd0 := blk_cell hR 0
        have dd1 := blk_cell hR 1
        have ff0 := blk_free hR 0
        have ff1 := blk_free hR 1
        have HFX : Hid (((v6.setCell ⟨w.heap.size + 1, 0, none⟩ (.int .u64 0)).setCell ⟨w.heap.size + 1, 1, none⟩ (.slice none 0 0)).heap[w.heap.size + 1]? = some (.cells #[.int .u64 0, .slice none 0 0] 35 (0, 0))) := Lib.hid (by
          have h := blk_set (blk_set hR 0 (.int .u64 0)) 1 (.slice none 0 0)
          simpa using h)
        have HIL : Hid ((Try.prog.info? 35).map (·.size) = some (#[.int .u64 0, .slice none 0 0] : Array Value).size) := Lib.hid (by rw [show (#[.int .u64 0, .slice none 0 0] : Array Value).size = 2 from rfl]; kernel_rfl)
        have HBFX : Hid (Below w.heap.size w ((v6.setCell ⟨w.heap.size + 1, 0, none⟩ (.int .u64 0)).setCell ⟨w.heap.size + 1, 1, none⟩ (.slice none 0 0))) := Lib.hid (((HB0.out.trans (((HBF.out.trans (HC6.out.mono HBF.out.size))).mono HB0.out.size)).setCell (p := ⟨w.heap.size + 1, 0, none⟩) (by show w.heap.size ≤ w.heap.size + 1; omega) _).setCell (p := ⟨w.heap.size + 1, 1, none⟩) (by show w.heap.size ≤ w.heap.size + 1; omega) _)
        have HF : Hid (ParseTo w p t t Ls (.returned (.tuple #[.agg #[.int .u64 0, .slice none 0 0], .int .i64 4])) ((v6.setCell ⟨w.heap.size + 1, 0, none⟩ (.int .u64 0)).setCell ⟨w.heap.size + 1, 1, none⟩ (.slice none 0 0))) := Lib.hid (⟨0, [], none, 0, 0, 4, rfl, HBFX.out, ⟨rfl, fun h => absurd h (by omega)⟩, fun b o e => (by cases e), .inr ⟨fun h => Bool.false_ne_true (HSB.out.mpr (by rw [HEE.out, HCC.out] at h; exact h.2)), rfl, rfl, rfl⟩⟩)
        clear hR
        go_wp2
        exact bodyPost_ret (v := .tuple #[.agg #[.int .u64 0, .slice none 0 0], .int .i64 4]) (results_row_num rfl _ _ _ 35 _ (0, 0) _ _ rfl rfl HFX.out Try.underlying35 rfl HIL.out) rfl HF.out
      | true =>
        obtain ⟨y0, y1, y2, y3, y4⟩ := HK4.out v6 HC6.out
        have hR := (((HBF.out.trans (HC6.out.mono HBF.out.size))).block _ (blk_lt HX1.out)).trans HX1.out
        have HRX := Lib.hid hR
        have dd0 := blk_cell hR 0
        have dd1 := blk_cell hR 1
        have ff0 := blk_free hR 0
        have ff1 := blk_free hR 1
        have HFX : Hid (((v6.setCell ⟨w.heap.size + 1, 0, none⟩ (.int .u64 (cnt : Int))).setCell ⟨w.heap.size + 1, 1, none⟩ (.slice A5 es.length c5)).heap[w.heap.size + 1]? = some (.cells #[.int .u64 (cnt : Int), .slice A5 es.length c5] 35 (0, 0))) := Lib.hid (by
          have h := blk_set (blk_set hR 0 (.int .u64 (cnt : Int))) 1 (.slice A5 es.length c5)
          simpa using h)
        have HIL : Hid ((Try.prog.info? 35).map (·.size) = some (#[.int .u64 (cnt : Int), .slice A5 es.length c5] : Array Value).size) := Lib.hid (by rw [show (#[.int .u64 (cnt : Int), .slice A5 es.length c5] : Array Value).size = 2 from rfl]; kernel_rfl)
        have HBFX : Hid (Below w.heap.size w ((v6.setCell ⟨w.heap.size + 1, 0, none⟩ (.int .u64 (cnt : Int))).setCell ⟨w.heap.size + 1, 1, none⟩ (.slice A5 es.length c5))) := Lib.hid (((HB0.out.trans (((HBF.out.trans (HC6.out.mono HBF.out.size))).mono HB0.out.size)).setCell (p := ⟨w.heap.size + 1, 0, none⟩) (by show w.heap.size ≤ w.heap.size + 1; omega) _).setCell (p := ⟨w.heap.size + 1, 1, none⟩) (by show w.heap.size ≤ w.heap.size + 1; omega) _)
        have HF : Hid (ParseTo w p t t Ls (.returned (.tuple #[.agg #[.int .u64 (cnt : Int), .slice A5 es.length c5], .int .i64 0])) ((v6.setCell ⟨w.heap.size + 1, 0, none⟩ (.int .u64 (cnt : Int))).setCell ⟨w.heap.size + 1, 1, none⟩ (.slice A5 es.length c5))) := Lib.hid (by
            have hk : ∀ k, k ≠ w.heap.size + 1 → ((v6.setCell ⟨w.heap.size + 1, 0, none⟩ (.int .u64 (cnt : Int))).setCell ⟨w.heap.size + 1, 1, none⟩ (.slice A5 es.length c5)).heap[k]? = v6.heap[k]? := fun k hk => (Below.heap_setCell _ _ _ k hk).trans (Below.heap_setCell _ _ _ k hk)
            have hq := (HQF.out.below HC6.out).box (x := 0) HRX.out hk (by rw [size_set, size_set])
            exact ⟨cnt, es, A5, es.length, c5, 0, rfl, HBFX.out, hq.v, hq.z, .inl ⟨(by rw [HEE.out]; exact hM), (by rw [HCC.out, HEE.out]; exact HSB.out.mp rfl), HCC.out.symm, HEE.out.symm, rfl⟩⟩)
        clear hR
        go_wp2
        exact bodyPost_ret (v := .tuple #[.agg #[.int .u64 (cnt : Int), .slice A5 es.length c5], .int .i64 0]) (results_row_num rfl _ _ _ 35 _ (0, 0) _ _ rfl rfl HFX.out Try.underlying35 rfl HIL.out) rfl HF.out
  · have hX6 : (w1.alloc (.cells #[.int .u64 0, .slice none 0 0] 35)).drew.heap[w1.heap.size]? = some (.cells #[.int .u64 0, .slice none 0 0] 35 (0, 0)) := heap_alloc_new w1 (.cells #[.int .u64 0, .slice none 0 0] 35)
    have HA60 : Hid (Below w1.heap.size w1 (w1.alloc (.cells #[.int .u64 0, .slice none 0 0] 35)).drew) := Lib.hid (((Below.refl w1.heap.size w1).alloc (Nat.le_refl _) _).drew)
    go_simp
    refine hK.out _ _ (HKR.out _ HA60.out) (fun hHeld6 => ?_)
    clear hK K
    (try simp only [Act.put, List.getElem_toArray, List.getElem_cons_succ, List.getElem_cons_zero, List.setIfInBounds_toArray, List.set_cons_zero, List.set_cons_succ])
    have HX60 := Lib.hid hX6
    clear hX6
    generalize (w1.alloc (.cells #[.int .u64 0, .slice none 0 0] 35)).drew = v6 at *
    obtain ⟨b, hb⟩ : ∃ b, b = w1.heap.size := ⟨_, rfl⟩
    have HB6 : Hid (w1.heap.size ≤ b) := Lib.hid (Nat.le_of_eq hb.symm)
    rw [← hb] at HX60 ⊢
    clear hb
    have HBS : Hid (b < v6.heap.size) := Lib.hid (blk_lt HX60.out)
    refine wpAnyF_ready (rs := [5]) (by kernel_rfl) (by simp) ?_
    refine AllReadyF.cons (o := _) rfl (fun K hK => ?_) AllReadyF.nil
    go_simp
    (go_at_call 30)
    refine (HRD.out v6 (HB1.out.trans (HA60.out.mono HB1.out.size)) A1 c1x ((HS1.out.below HA60.out).more HA60.out.size)).mono ?_
    rintro e v5 ⟨A5, c5, rfl, hb5, hv5, hz5⟩
    have HQ5 : Hid (LgOk v5 A5 (readL (Ls.getD 0 []) Ls t)) := Lib.hid ⟨hv5, hz5, by have := HRK.out.1; omega, fun i hi => by have := HRK.out.2 i hi; omega⟩
    have HA6 : Hid (Below w1.heap.size w1 v5) := Lib.hid (HA60.out.trans (hb5.mono HA60.out.size))
    have HX6 : Hid (v5.heap[b]? = some (.cells #[.int .u64 0, .slice none 0 0] 35 (0, 0))) := Lib.hid ((hb5.block b HBS.out).trans HX60.out)
    clear hb5 hv5 hz5
    generalize hEE : (readL (Ls.getD 0 []) Ls t) = es at HQ5 ⊢
    generalize hCC : (numAt (Ls.getD 0 []) 8 8) = cnt at HCL ⊢
    refine hK.out _ _ (HKR.out _ HA6.out) (fun hHeld5 => ?_)
    clear hK K
    (try simp only [Act.put, List.getElem_toArray, List.getElem_cons_succ, List.getElem_cons_zero, List.setIfInBounds_toArray, List.set_cons_zero, List.set_cons_succ])
    have HEE : Hid ((readL (Ls.getD 0 []) Ls t) = es) := Lib.hid hEE
    have HCC : Hid ((numAt (Ls.getD 0 []) 8 8) = cnt) := Lib.hid hCC
    clear HX60 HA60
    have q6 : v5.cell? ⟨b, 0, none⟩ = some (.int .u64 0) := blk_cell HX6.out 0
    have q7 : v5.cell? ⟨b, 1, none⟩ = some (.slice none 0 0) := blk_cell HX6.out 1
    have q8 : v5.frozen? ⟨b, 0, none⟩ = false := blk_free HX6.out 0
    have q9 : v5.frozen? ⟨b, 1, none⟩ = false := blk_free HX6.out 1
    refine wpAnyF_ready (rs := [7]) (by kernel_rfl) (by simp) ?_
    refine AllReadyF.last (o := _) rfl (by rfl) (fun K hK => ?_) AllReadyF.nil
    go_simp
    refine hK.out _ _ ?_
    clear hK K
    (try simp only [Act.put, List.getElem_toArray, List.getElem_cons_succ, List.getElem_cons_zero, List.setIfInBounds_toArray, List.set_cons_zero, List.set_cons_succ])
    refine wpAnyF_done (by kernel_rfl) ?_ _
    clear q6 q7 q8 q9
    obtain ⟨WF, hWF⟩ : ∃ WF, WF = ((v5.setCell ⟨b, 0, none⟩ (.int .u64 (cnt : Int))).setCell ⟨b, 1, none⟩ (.slice A5 es.length c5)) := ⟨_, rfl⟩
    have hk : ∀ k, k ≠ b → ((v5.setCell ⟨b, 0, none⟩ (.int .u64 (cnt : Int))).setCell ⟨b, 1, none⟩ (.slice A5 es.length c5)).heap[k]? = v5.heap[k]? := fun k hk => (Below.heap_setCell _ _ _ k hk).trans (Below.heap_setCell _ _ _ k hk)
    have HXF : Hid (WF.heap[b]? = some (.cells #[.int .u64 (cnt : Int), .slice A5 es.length c5] 35 (0, 0))) := Lib.hid (by
      rw [hWF]
      have h := blk_set (blk_set HX6.out 0 (.int .u64 (cnt : Int))) 1 (.slice A5 es.length c5)
      simpa using h)
    have HWF1 : Hid (Below w1.heap.size w1 WF) := Lib.hid (by rw [hWF]; exact (HA6.out.setCell (p := ⟨b, 0, none⟩) HB6.out _).setCell (p := ⟨b, 1, none⟩) HB6.out _)
    have HBF : Hid (Below W0.heap.size W0 WF) := Lib.hid (HB1.out.trans (HWF1.out.mono HB1.out.size))
    have HQF : Hid (LgOk WF A5 es) := Lib.hid (by rw [hWF]; exact HQ5.out.box (x := 0) HX6.out hk (by rw [size_set, size_set]))
    have HKF : Hid (∀ W, Below WF.heap.size WF W → W.cell? ⟨gB, 0, none⟩ = some (.slice A1 256 c1x)) := Lib.hid (fun W h => HKR.out W (HWF1.out.trans (h.mono HWF1.out.size)))
    have HSF : Hid (BS WF WF.heap.size A1 256 c1x (Ls.getD 0 [])) := Lib.hid ((HS1.out.below HWF1.out).more HWF1.out.size)
    rw [← hWF]
    clear hWF hk
    have HK4 : Hid (∀ W, Below WF.heap.size WF W → (W.cell? ⟨w.heap.size, 0, none⟩ = some (.int .i64 (p : Int)) ∧ W.cell? ⟨w.heap.size, 1, none⟩ = some (.int .i64 (t : Int)) ∧ W.cell? ⟨b, 0, none⟩ = some (.int .u64 (cnt : Int)) ∧ W.cell? ⟨b, 1, none⟩ = some (.slice A5 es.length c5) ∧ W.cell? ⟨gB, 0, none⟩ = some (.slice A1 256 c1x))) := Lib.hid (fun W h => by
      obtain ⟨z0, z1, _⟩ := HC0.out W (HBF.out.trans (h.mono HBF.out.size))
      have hb := (h.block _ (blk_lt HXF.out)).trans HXF.out
      exact ⟨z0, z1, blk_cell hb 0, blk_cell hb 1, HKF.out W h⟩)
    go_wp2_with fail
    by_cases hM : MayG p t es
    case neg =>
      refine wp_region_F (S := fun (W : World) => W.cell? ⟨w.heap.size, 0, none⟩ = some (.int .i64 (p : Int)) ∧ W.cell? ⟨w.heap.size, 1, none⟩ = some (.int .i64 (t : Int)) ∧ W.cell? ⟨b, 0, none⟩ = some (.int .u64 (cnt : Int)) ∧ W.cell? ⟨b, 1, none⟩ = some (.slice A5 es.length c5) ∧ W.cell? ⟨gB, 0, none⟩ = some (.slice A1 256 c1x)) [] (by kernel_rfl) (HK4.out _ ((Below.refl _ _).drew)) (fun hHeld => ?_)
      refine wpAnyF_take (i := 0) (oi := _) (v := ?_) rfl (by kernel_rfl) (by kernel_rfl) (by kernel_rfl) (by kernel_rfl) (fun _ _ _ h => h) (Or.inl ⟨by rfl, ?_⟩) (by assumption) ?_
      rotate_left 1
      · intro w hSw
        (try dsimp only at hSw)
        (first | (go_simp; done) | (go_simp; with_reducible rfl))
      (try simp only [Act.put, List.getElem_toArray, List.getElem_cons_succ, List.getElem_cons_zero, List.setIfInBounds_toArray, List.set_cons_zero, List.set_cons_succ])
      refine wpAnyF_take (i := 1) (oi := _) (v := ?_) rfl (by kernel_rfl) (by kernel_rfl) (by kernel_rfl) (by kernel_rfl) (fun _ _ _ h => h) (Or.inl ⟨by rfl, ?_⟩) (by assumption) ?_
      rotate_left 1
      · intro w hSw
        (try dsimp only at hSw)
        (first | (go_simp; done) | (go_simp; with_reducible rfl))
      (try simp only [Act.put, List.getElem_toArray, List.getElem_cons_succ, List.getElem_cons_zero, List.setIfInBounds_toArray, List.set_cons_zero, List.set_cons_succ])
      refine wpAnyF_ready (rs := [2]) (by kernel_rfl) (by simp) ?_
      refine AllReadyF.cons (o := _) rfl (fun K hK => ?_) AllReadyF.nil
      go_simp
      (go_at_call 8)
      refine (lmay_any p t cnt es.length c5 A5 es (by have := HQF.out.n; omega) _ (HQF.out.below ((Below.refl WF.heap.size WF).drew)).v).mono ?_
      rintro e v2 ⟨bb, rfl, hbb, hb2⟩
      obtain rfl : bb = false := by cases bb with | false => rfl | true => exact absurd (hbb.mp rfl) hM
      have HC2 : Hid (Below WF.heap.size WF v2) := Lib.hid (((Below.refl WF.heap.size WF).drew).trans hb2)
      clear hbb hb2
      refine hK.out _ _ (HK4.out _ HC2.out) (fun hHeld2 => ?_)
      clear hK K
      (try simp only [Act.put, List.getElem_toArray, List.getElem_cons_succ, List.getElem_cons_zero, List.setIfInBounds_toArray, List.set_cons_zero, List.set_cons_succ])
      refine wpAnyF_take (i := 3) (oi := _) (v := ?_) rfl (by kernel_rfl) (by kernel_rfl) (by kernel_rfl) (by kernel_rfl) (fun _ _ _ h => h) (Or.inl ⟨by rfl, ?_⟩) (by assumption) ?_
      rotate_left 1
      · intro w hSw
        (try dsimp only at hSw)
        (first | (go_simp; done) | (go_simp; with_reducible rfl))
      (try simp only [Act.put, List.getElem_toArray, List.getElem_cons_succ, List.getElem_cons_zero, List.setIfInBounds_toArray, List.set_cons_zero, List.set_cons_succ])
      refine wpAnyF_take (i := 4) (oi := _) (v := ?_) rfl (by kernel_rfl) (by kernel_rfl) (by kernel_rfl) (by kernel_rfl) (fun _ _ _ h => h) (Or.inl ⟨by rfl, ?_⟩) (by assumption) ?_
      rotate_left 1
      · intro w hSw
        (try dsimp only at hSw)
        (first | (go_simp; done) | (go_simp; with_reducible rfl))
      (try simp only [Act.put, List.getElem_toArray, List.getElem_cons_succ, List.getElem_cons_zero, List.setIfInBounds_toArray, List.set_cons_zero, List.set_cons_succ])
      refine wpAnyF_take (i := 5) (oi := _) (v := undef) rfl (by kernel_rfl) (by kernel_rfl) (by kernel_rfl) (by kernel_rfl) (fun _ _ _ h => h) (Or.inr ⟨by rfl, rfl⟩) (by assumption) ?_
      (try simp only [Act.put, List.getElem_toArray, List.getElem_cons_succ, List.getElem_cons_zero, List.setIfInBounds_toArray, List.set_cons_zero, List.set_cons_succ])
      refine wpAnyF_take (i := 6) (oi := _) (v := undef) rfl (by kernel_rfl) (by kernel_rfl) (by kernel_rfl) (by kernel_rfl) (fun _ _ _ h => h) (Or.inr ⟨by rfl, rfl⟩) (by assumption) ?_
      (try simp only [Act.put, List.getElem_toArray, List.getElem_cons_succ, List.getElem_cons_zero, List.setIfInBounds_toArray, List.set_cons_zero, List.set_cons_succ])
      refine wpAnyF_take (i := 7) (oi := _) (v := undef) rfl (by kernel_rfl) (by kernel_rfl) (by kernel_rfl) (by kernel_rfl) (fun _ _ _ h => h) (Or.inr ⟨by rfl, rfl⟩) (by assumption) ?_
      (try simp only [Act.put, List.getElem_toArray, List.getElem_cons_succ, List.getElem_cons_zero, List.setIfInBounds_toArray, List.set_cons_zero, List.set_cons_succ])
      refine wpAnyF_take (i := 8) (oi := _) (v := undef) rfl (by kernel_rfl) (by kernel_rfl) (by kernel_rfl) (by kernel_rfl) (fun _ _ _ h => h) (Or.inr ⟨by rfl, rfl⟩) (by assumption) ?_
      (try simp only [Act.put, List.getElem_toArray, List.getElem_cons_succ, List.getElem_cons_zero, List.setIfInBounds_toArray, List.set_cons_zero, List.set_cons_succ])
      refine wpAnyF_take (i := 9) (oi := _) (v := undef) rfl (by kernel_rfl) (by kernel_rfl) (by kernel_rfl) (by kernel_rfl) (fun _ _ _ h => h) (Or.inr ⟨by rfl, rfl⟩) (by assumption) ?_
      (try simp only [Act.put, List.getElem_toArray, List.getElem_cons_succ, List.getElem_cons_zero, List.setIfInBounds_toArray, List.set_cons_zero, List.set_cons_succ])
      refine wpAnyF_take (i := 10) (oi := _) (v := undef) rfl (by kernel_rfl) (by kernel_rfl) (by kernel_rfl) (by kernel_rfl) (fun _ _ _ h => h) (Or.inr ⟨by rfl, rfl⟩) (by assumption) ?_
      (try simp only [Act.put, List.getElem_toArray, List.getElem_cons_succ, List.getElem_cons_zero, List.setIfInBounds_toArray, List.set_cons_zero, List.set_cons_succ])
      refine wpAnyF_take (i := 11) (oi := _) (v := undef) rfl (by kernel_rfl) (by kernel_rfl) (by kernel_rfl) (by kernel_rfl) (fun _ _ _ h => h) (Or.inr ⟨by rfl, rfl⟩) (by assumption) ?_
      (try simp only [Act.put, List.getElem_toArray, List.getElem_cons_succ, List.getElem_cons_zero, List.setIfInBounds_toArray, List.set_cons_zero, List.set_cons_succ])
      refine wpAnyF_take (i := 12) (oi := _) (v := ?_) rfl (by kernel_rfl) (by kernel_rfl) (by kernel_rfl) (by kernel_rfl) (fun _ _ _ h => h) (Or.inl ⟨by rfl, ?_⟩) (by assumption) ?_
      rotate_left 1
      · intro w hSw
        (try dsimp only at hSw)
        (first | (go_simp; done) | (go_simp; with_reducible rfl))
      (try simp only [Act.put, List.getElem_toArray, List.getElem_cons_succ, List.getElem_cons_zero, List.setIfInBounds_toArray, List.set_cons_zero, List.set_cons_succ])
      refine wpAnyF_done (by kernel_rfl) ?_ _
      clear hHeld hHeld2
      have hR := (((HBF.out.trans (HC2.out.mono HBF.out.size))).block _ (blk_lt HX1.out)).trans HX1.out
      have HRX := Lib.hid hR
      have dd0 := blk_cell hR 0
      have dd1 := blk_cell hR 1
      have ff0 := blk_free hR 0
      have ff1 := blk_free hR 1
      have HFX : Hid (((v2.setCell ⟨w.heap.size + 1, 0, none⟩ (.int .u64 0)).setCell ⟨w.heap.size + 1, 1, none⟩ (.slice none 0 0)).heap[w.heap.size + 1]? = some (.cells #[.int .u64 0, .slice none 0 0] 35 (0, 0))) := Lib.hid (by
        have h := blk_set (blk_set hR 0 (.int .u64 0)) 1 (.slice none 0 0)
        simpa using h)
      have HIL : Hid ((Try.prog.info? 35).map (·.size) = some (#[.int .u64 0, .slice none 0 0] : Array Value).size) := Lib.hid (by rw [show (#[.int .u64 0, .slice none 0 0] : Array Value).size = 2 from rfl]; kernel_rfl)
      have HBFX : Hid (Below w.heap.size w ((v2.setCell ⟨w.heap.size + 1, 0, none⟩ (.int .u64 0)).setCell ⟨w.heap.size + 1, 1, none⟩ (.slice none 0 0))) := Lib.hid (((HB0.out.trans (((HBF.out.trans (HC2.out.mono HBF.out.size))).mono HB0.out.size)).setCell (p := ⟨w.heap.size + 1, 0, none⟩) (by show w.heap.size ≤ w.heap.size + 1; omega) _).setCell (p := ⟨w.heap.size + 1, 1, none⟩) (by show w.heap.size ≤ w.heap.size + 1; omega) _)
      have HF : Hid (ParseTo w p t t Ls (.returned (.tuple #[.agg #[.int .u64 0, .slice none 0 0], .int .i64 4])) ((v2.setCell ⟨w.heap.size + 1, 0, none⟩ (.int .u64 0)).setCell ⟨w.heap.size + 1, 1, none⟩ (.slice none 0 0))) := Lib.hid (⟨0, [], none, 0, 0, 4, rfl, HBFX.out, ⟨rfl, fun h => absurd h (by omega)⟩, fun b o e => (by cases e), .inr ⟨fun h => hM (by rw [HEE.out] at h; exact h.1), rfl, rfl, rfl⟩⟩)
      clear hR
      go_wp2
      exact bodyPost_ret (v := .tuple #[.agg #[.int .u64 0, .slice none 0 0], .int .i64 4]) (results_row_num rfl _ _ _ 35 _ (0, 0) _ _ rfl rfl HFX.out Try.underlying35 rfl HIL.out) rfl HF.out
    case pos =>
      refine wp_region_F (S := fun (W : World) => W.cell? ⟨w.heap.size, 0, none⟩ = some (.int .i64 (p : Int)) ∧ W.cell? ⟨w.heap.size, 1, none⟩ = some (.int .i64 (t : Int)) ∧ W.cell? ⟨b, 0, none⟩ = some (.int .u64 (cnt : Int)) ∧ W.cell? ⟨b, 1, none⟩ = some (.slice A5 es.length c5) ∧ W.cell? ⟨gB, 0, none⟩ = some (.slice A1 256 c1x)) [] (by kernel_rfl) (HK4.out _ ((Below.refl _ _).drew)) (fun hHeld => ?_)
      refine wpAnyF_take (i := 0) (oi := _) (v := ?_) rfl (by kernel_rfl) (by kernel_rfl) (by kernel_rfl) (by kernel_rfl) (fun _ _ _ h => h) (Or.inl ⟨by rfl, ?_⟩) (by assumption) ?_
      rotate_left 1
      · intro w hSw
        (try dsimp only at hSw)
        (first | (go_simp; done) | (go_simp; with_reducible rfl))
      (try simp only [Act.put, List.getElem_toArray, List.getElem_cons_succ, List.getElem_cons_zero, List.setIfInBounds_toArray, List.set_cons_zero, List.set_cons_succ])
      refine wpAnyF_take (i := 1) (oi := _) (v := ?_) rfl (by kernel_rfl) (by kernel_rfl) (by kernel_rfl) (by kernel_rfl) (fun _ _ _ h => h) (Or.inl ⟨by rfl, ?_⟩) (by assumption) ?_
      rotate_left 1
      · intro w hSw
        (try dsimp only at hSw)
        (first | (go_simp; done) | (go_simp; with_reducible rfl))
      (try simp only [Act.put, List.getElem_toArray, List.getElem_cons_succ, List.getElem_cons_zero, List.setIfInBounds_toArray, List.set_cons_zero, List.set_cons_succ])
      refine wpAnyF_ready (rs := [2]) (by kernel_rfl) (by simp) ?_
      refine AllReadyF.cons (o := _) rfl (fun K hK => ?_) AllReadyF.nil
      go_simp
      (go_at_call 8)
      refine (lmay_any p t cnt es.length c5 A5 es (by have := HQF.out.n; omega) _ (HQF.out.below ((Below.refl WF.heap.size WF).drew)).v).mono ?_
      rintro e v2 ⟨bb, rfl, hbb, hb2⟩
      obtain rfl : bb = true := hbb.mpr hM
      have HC2 : Hid (Below WF.heap.size WF v2) := Lib.hid (((Below.refl WF.heap.size WF).drew).trans hb2)
      clear hbb hb2
      refine hK.out _ _ (HK4.out _ HC2.out) (fun hHeld2 => ?_)
      clear hK K
      (try simp only [Act.put, List.getElem_toArray, List.getElem_cons_succ, List.getElem_cons_zero, List.setIfInBounds_toArray, List.set_cons_zero, List.set_cons_succ])
      refine wpAnyF_take (i := 3) (oi := _) (v := ?_) rfl (by kernel_rfl) (by kernel_rfl) (by kernel_rfl) (by kernel_rfl) (fun _ _ _ h => h) (Or.inl ⟨by rfl, ?_⟩) (by assumption) ?_
      rotate_left 1
      · intro w hSw
        (try dsimp only at hSw)
        (first | (go_simp; done) | (go_simp; with_reducible rfl))
      (try simp only [Act.put, List.getElem_toArray, List.getElem_cons_succ, List.getElem_cons_zero, List.setIfInBounds_toArray, List.set_cons_zero, List.set_cons_succ])
      refine wpAnyF_take (i := 4) (oi := _) (v := ?_) rfl (by kernel_rfl) (by kernel_rfl) (by kernel_rfl) (by kernel_rfl) (fun _ _ _ h => h) (Or.inl ⟨by rfl, ?_⟩) (by assumption) ?_
      rotate_left 1
      · intro w hSw
        (try dsimp only at hSw)
        (first | (go_simp; done) | (go_simp; with_reducible rfl))
      (try simp only [Act.put, List.getElem_toArray, List.getElem_cons_succ, List.getElem_cons_zero, List.setIfInBounds_toArray, List.set_cons_zero, List.set_cons_succ])
      refine wpAnyF_take (i := 5) (oi := _) (v := ?_) rfl (by kernel_rfl) (by kernel_rfl) (by kernel_rfl) (by kernel_rfl) (fun _ _ _ h => h) (Or.inl ⟨by rfl, ?_⟩) (by assumption) ?_
      rotate_left 1
      · intro w hSw
        (try dsimp only at hSw)
        (first | (go_simp; done) | (go_simp; with_reducible rfl))
      (try simp only [Act.put, List.getElem_toArray, List.getElem_cons_succ, List.getElem_cons_zero, List.setIfInBounds_toArray, List.set_cons_zero, List.set_cons_succ])
      refine wpAnyF_take (i := 7) (oi := _) (v := ?_) rfl (by kernel_rfl) (by kernel_rfl) (by kernel_rfl) (by kernel_rfl) (fun _ _ _ h => h) (Or.inl ⟨by rfl, ?_⟩) (by assumption) ?_
      rotate_left 1
      · intro w hSw
        (try dsimp only at hSw)
        (first | (go_simp; done) | (go_simp; with_reducible rfl))
      (try simp only [Act.put, List.getElem_toArray, List.getElem_cons_succ, List.getElem_cons_zero, List.setIfInBounds_toArray, List.set_cons_zero, List.set_cons_succ])
      refine wpAnyF_take (i := 8) (oi := _) (v := ?_) rfl (by kernel_rfl) (by kernel_rfl) (by kernel_rfl) (by kernel_rfl) (fun _ _ _ h => h) (Or.inl ⟨by rfl, ?_⟩) (by assumption) ?_
      rotate_left 1
      · intro w hSw
        (try dsimp only at hSw)
        (first | (go_simp; done) | (go_simp; with_reducible rfl))
      (try simp only [Act.put, List.getElem_toArray, List.getElem_cons_succ, List.getElem_cons_zero, List.setIfInBounds_toArray, List.set_cons_zero, List.set_cons_succ])
      refine wpAnyF_take (i := 9) (oi := _) (v := ?_) rfl (by kernel_rfl) (by kernel_rfl) (by kernel_rfl) (by kernel_rfl) (fun _ _ _ h => h) (Or.inl ⟨by rfl, ?_⟩) (by assumption) ?_
      rotate_left 1
      · intro w hSw
        (try dsimp only at hSw)
        (first | (go_simp; done) | (go_simp; with_reducible rfl))
      (try simp only [Act.put, List.getElem_toArray, List.getElem_cons_succ, List.getElem_cons_zero, List.setIfInBounds_toArray, List.set_cons_zero, List.set_cons_succ])
      refine wpAnyF_ready (rs := [6]) (by kernel_rfl) (by simp) ?_
      refine AllReadyF.cons (o := _) rfl (fun K hK => ?_) AllReadyF.nil
      go_simp
      (go_at_call 20)
      refine (head_any cnt es.length c5 A5 es _ HCL.out (HQF.out.below HC2.out).v (mayG_k hM) (by have := HQF.out.n; omega)).mono ?_
      rintro e v6 ⟨vh, rfl, hown, hb6⟩
      obtain ⟨Ah, ch, rfl, hbsh⟩ := hown.bs (headL_byte cnt es)
      rw [head_len] at hbsh ⊢
      have HSH := Lib.hid hbsh
      have HC6 : Hid (Below WF.heap.size WF v6) := Lib.hid (HC2.out.trans (hb6.mono HC2.out.size))
      clear hown hb6 hbsh
      refine hK.out _ _ (HK4.out _ HC6.out) (fun hHeld6 => ?_)
      clear hK K
      (try simp only [Act.put, List.getElem_toArray, List.getElem_cons_succ, List.getElem_cons_zero, List.setIfInBounds_toArray, List.set_cons_zero, List.set_cons_succ])
      refine wpAnyF_ready (rs := [10]) (by kernel_rfl) (by simp) ?_
      refine AllReadyF.cons (o := _) rfl (fun K hK => ?_) AllReadyF.nil
      go_simp
      (go_at_call 31)
      refine (same_any Ah A1 256 ch 256 c1x v6.heap.size (headL cnt es) (Ls.getD 0 []) _ HSH.out ((HSF.out.below HC6.out).more HC6.out.size)).mono ?_
      rintro e v10 ⟨rfl, rfl⟩
      obtain ⟨sb, hsb⟩ : ∃ sb, sameB (headL cnt es) (Ls.getD 0 []) = sb := ⟨_, rfl⟩
      have HSB : Hid (sb = true ↔ headL cnt es = Ls.getD 0 []) := Lib.hid (by rw [← hsb]; exact sameB_iff HSH.out.byte HSF.out.byte)
      rw [hsb]
      clear hsb
      refine hK.out _ _ (HK4.out _ HC6.out) (fun hHeld10 => ?_)
      clear hK K
      (try simp only [Act.put, List.getElem_toArray, List.getElem_cons_succ, List.getElem_cons_zero, List.setIfInBounds_toArray, List.set_cons_zero, List.set_cons_succ])
      refine wpAnyF_take (i := 11) (oi := _) (v := ?_) rfl (by kernel_rfl) (by kernel_rfl) (by kernel_rfl) (by kernel_rfl) (fun _ _ _ h => h) (Or.inl ⟨by rfl, ?_⟩) (by assumption) ?_
      rotate_left 1
      · intro w hSw
        (try dsimp only at hSw)
        (first | (go_simp; done) | (go_simp; with_reducible rfl))
      (try simp only [Act.put, List.getElem_toArray, List.getElem_cons_succ, List.getElem_cons_zero, List.setIfInBounds_toArray, List.set_cons_zero, List.set_cons_succ])
      refine wpAnyF_take (i := 12) (oi := _) (v := ?_) rfl (by kernel_rfl) (by kernel_rfl) (by kernel_rfl) (by kernel_rfl) (fun _ _ _ h => h) (Or.inl ⟨by rfl, ?_⟩) (by assumption) ?_
      rotate_left 1
      · intro w hSw
        (try dsimp only at hSw)
        (first | (go_simp; done) | (go_simp; with_reducible rfl))
      (try simp only [Act.put, List.getElem_toArray, List.getElem_cons_succ, List.getElem_cons_zero, List.setIfInBounds_toArray, List.set_cons_zero, List.set_cons_succ])
      refine wpAnyF_done (by kernel_rfl) ?_ _
      clear hHeld hHeld2 hHeld6 hHeld10
      cases sb with
      | false =>
        have hR := (((HBF.out.trans (HC6.out.mono HBF.out.size))).block _ (blk_lt HX1.out)).trans HX1.out
        have HRX := Lib.hid hR
        have dd0 := blk_cell hR 0
        have dd1 := blk_cell hR 1
        have ff0 := blk_free hR 0
        have ff1 := blk_free hR 1
        have HFX : Hid (((v6.setCell ⟨w.heap.size + 1, 0, none⟩ (.int .u64 0)).setCell ⟨w.heap.size + 1, 1, none⟩ (.slice none 0 0)).heap[w.heap.size + 1]? = some (.cells #[.int .u64 0, .slice none 0 0] 35 (0, 0))) := Lib.hid (by
          have h := blk_set (blk_set hR 0 (.int .u64 0)) 1 (.slice none 0 0)
          simpa using h)
        have HIL : Hid ((Try.prog.info? 35).map (·.size) = some (#[.int .u64 0, .slice none 0 0] : Array Value).size) := Lib.hid (by rw [show (#[.int .u64 0, .slice none 0 0] : Array Value).size = 2 from rfl]; kernel_rfl)
        have HBFX : Hid (Below w.heap.size w ((v6.setCell ⟨w.heap.size + 1, 0, none⟩ (.int .u64 0)).setCell ⟨w.heap.size + 1, 1, none⟩ (.slice none 0 0))) := Lib.hid (((HB0.out.trans (((HBF.out.trans (HC6.out.mono HBF.out.size))).mono HB0.out.size)).setCell (p := ⟨w.heap.size + 1, 0, none⟩) (by show w.heap.size ≤ w.heap.size + 1; omega) _).setCell (p := ⟨w.heap.size + 1, 1, none⟩) (by show w.heap.size ≤ w.heap.size + 1; omega) _)
        have HF : Hid (ParseTo w p t t Ls (.returned (.tuple #[.agg #[.int .u64 0, .slice none 0 0], .int .i64 4])) ((v6.setCell ⟨w.heap.size + 1, 0, none⟩ (.int .u64 0)).setCell ⟨w.heap.size + 1, 1, none⟩ (.slice none 0 0))) := Lib.hid (⟨0, [], none, 0, 0, 4, rfl, HBFX.out, ⟨rfl, fun h => absurd h (by omega)⟩, fun b o e => (by cases e), .inr ⟨fun h => Bool.false_ne_true (HSB.out.mpr (by rw [HEE.out, HCC.out] at h; exact h.2)), rfl, rfl, rfl⟩⟩)
        clear hR
        go_wp2
        exact bodyPost_ret (v := .tuple #[.agg #[.int .u64 0, .slice none 0 0], .int .i64 4]) (results_row_num rfl _ _ _ 35 _ (0, 0) _ _ rfl rfl HFX.out Try.underlying35 rfl HIL.out) rfl HF.out
      | true =>
        obtain ⟨y0, y1, y2, y3, y4⟩ := HK4.out v6 HC6.out
        have hR := (((HBF.out.trans (HC6.out.mono HBF.out.size))).block _ (blk_lt HX1.out)).trans HX1.out
        have HRX := Lib.hid hR
        have dd0 := blk_cell hR 0
        have dd1 := blk_cell hR 1
        have ff0 := blk_free hR 0
        have ff1 := blk_free hR 1
        have HFX : Hid (((v6.setCell ⟨w.heap.size + 1, 0, none⟩ (.int .u64 (cnt : Int))).setCell ⟨w.heap.size + 1, 1, none⟩ (.slice A5 es.length c5)).heap[w.heap.size + 1]? = some (.cells #[.int .u64 (cnt : Int), .slice A5 es.length c5] 35 (0, 0))) := Lib.hid (by
          have h := blk_set (blk_set hR 0 (.int .u64 (cnt : Int))) 1 (.slice A5 es.length c5)
          simpa using h)
        have HIL : Hid ((Try.prog.info? 35).map (·.size) = some (#[.int .u64 (cnt : Int), .slice A5 es.length c5] : Array Value).size) := Lib.hid (by rw [show (#[.int .u64 (cnt : Int), .slice A5 es.length c5] : Array Value).size = 2 from rfl]; kernel_rfl)
        have HBFX : Hid (Below w.heap.size w ((v6.setCell ⟨w.heap.size + 1, 0, none⟩ (.int .u64 (cnt : Int))).setCell ⟨w.heap.size + 1, 1, none⟩ (.slice A5 es.length c5))) := Lib.hid (((HB0.out.trans (((HBF.out.trans (HC6.out.mono HBF.out.size))).mono HB0.out.size)).setCell (p := ⟨w.heap.size + 1, 0, none⟩) (by show w.heap.size ≤ w.heap.size + 1; omega) _).setCell (p := ⟨w.heap.size + 1, 1, none⟩) (by show w.heap.size ≤ w.heap.size + 1; omega) _)
        have HF : Hid (ParseTo w p t t Ls (.returned (.tuple #[.agg #[.int .u64 (cnt : Int), .slice A5 es.length c5], .int .i64 0])) ((v6.setCell ⟨w.heap.size + 1, 0, none⟩ (.int .u64 (cnt : Int))).setCell ⟨w.heap.size + 1, 1, none⟩ (.slice A5 es.length c5))) := Lib.hid (by
            have hk : ∀ k, k ≠ w.heap.size + 1 → ((v6.setCell ⟨w.heap.size + 1, 0, none⟩ (.int .u64 (cnt : Int))).setCell ⟨w.heap.size + 1, 1, none⟩ (.slice A5 es.length c5)).heap[k]? = v6.heap[k]? := fun k hk => (Below.heap_setCell _ _ _ k hk).trans (Below.heap_setCell _ _ _ k hk)
            have hq := (HQF.out.below HC6.out).box (x := 0) HRX.out hk (by rw [size_set, size_set])
            exact ⟨cnt, es, A5, es.length, c5, 0, rfl, HBFX.out, hq.v, hq.z, .inl ⟨(by rw [HEE.out]; exact hM), (by rw [HCC.out, HEE.out]; exact HSB.out.mp rfl), HCC.out.symm, HEE.out.symm, rfl⟩⟩)
        clear hR
        go_wp2
        exact bodyPost_ret (v := .tuple #[.agg #[.int .u64 (cnt : Int), .slice A5 es.length c5], .int .i64 0]) (results_row_num rfl _ _ _ 35 _ (0, 0) _ _ rfl rfl HFX.out Try.underlying35 rfl HIL.out) rfl HF.out
end Go.Proofs.Ytnalebocfbbpdaa
