/-
  Package logf: May of a log that may not be, Encode of it.
-/
import Derived.Test.YtnalebocfbbpdaaLgK
namespace Go.Proofs.Ytnalebocfbbpdaa
open Go.RowKit Go
set_option linter.unusedVariables false
set_option linter.unusedSimpArgs false
set_option maxHeartbeats 1000000 in
theorem lindex_yes (b o c gl gs se m : Nat) (es : List (Int × List Nat)) (w0 w : World) (hE : EsB w0 b o es) (hb0 : Below w0.heap.size w0 w) (hl : One w gl 3 (-1)) (hs : One w gs 3 (se : Int)) (hgl : w0.heap.size ≤ gl) (hne : gl ≠ gs) (hn : es.length ≤ 1000) (hm : m < es.length) (hmis : MisAt es se m) (hok : ∀ i, i < m → ¬ MisAt es se i) :
    Calls Try.prog 36 #[.slice (some ⟨b, o, none⟩) es.length c, .func (Fn.func 38) #[] #[.pointer (some ⟨gl, 0, none⟩), .pointer (some ⟨gs, 0, none⟩)]] w (fun e w' => e = .returned (.int .i64 (m : Int)) ∧ Below w0.heap.size w0 w') := by
  have HE := Lib.hid hE
  have HOK := Lib.hid hok
  have HMI := Lib.hid hmis
  have HR : Hid (LxR w0 es gl gs se 0 w) := Lib.hid ⟨hb0, hl, hs⟩
  clear hE hok hl hs hb0 hmis
  go_enter Try.func36, Try.ntmps36
  go_wp2
  go_loopw [8] (fun i wr => ∃ k : Nat, i = .int .i64 (k : Int) ∧ k ≤ m ∧ LxR w0 es gl gs se k wr) (fun i _ => (es.length - intOf i).toNat)
  case atStart => exact ⟨0, rfl, by omega, HR.out⟩
  case round =>
    clear HR
    obtain ⟨k, rfl, hk, hx⟩ := hrel
    have hlt : k < es.length := by omega
    have HX := Lib.hid hx
    clear hx
    obtain ⟨A, c1, q1, q2, _⟩ := HE.out.2 k hlt
    have p1 : wr.cell? ⟨b, o + k * 2, none⟩ = some (.int .i64 (kAt es k)) := (HX.out.1.cell (p := ⟨b, o + k * 2, none⟩) HE.out.1).trans q1
    have p2 : wr.cell? ⟨b, o + k * 2 + 1, none⟩ = some (.slice A (dAt es k).length c1) := (HX.out.1.cell (p := ⟨b, o + k * 2 + 1, none⟩) HE.out.1).trans q2
    by_cases hkm : k < m
    · have hno := HOK.out k hkm
      have hd : (dAt es k).length = 256 ∧ prevK es k < kAt es k ∧ kAt es k < (se : Int) := by unfold MisAt Mis at hno; omega
      rw [hd.1] at p2
      have HC := Lib.hid (mis_no (kAt es k) (prevK es k) se c1 gl gs A wr HX.out.2.1 HX.out.2.2 hne hd.2.1 hd.2.2)
      have HN := Lib.hid (fun w1 => lx_next (w1 := w1) hgl hne HX.out)
      generalize kAt es k = K at *
      clear q1 q2 hno hd
      go_wp2_with fail
      refine HC.out.mono ?_
      rintro e w1 ⟨rfl, hg1, ho1⟩
      have HN1 := Lib.hid (HN.out w1 hg1 ho1)
      clear hg1 ho1 p1 p2
      go_wp2
      go_roundw
      case rel => exact ⟨k + 1, rfl, by omega, HN1.out⟩
      case measure => simp [intOf]; omega
    · obtain rfl : k = m := by omega
      have HC := Lib.hid (mis_yes (kAt es k) (prevK es k) se (dAt es k).length c1 gl gs A wr HX.out.2.1 HX.out.2.2 hne HMI.out)
      have HN := Lib.hid (fun w1 (hg : wr.grownBy w1 (some gl)) => below_only HX.out.1 hgl HX.out.1.size hg)
      generalize kAt es k = K at *
      generalize (dAt es k).length = L at *
      clear q1 q2
      go_wp2_with fail
      refine HC.out.mono ?_
      rintro e w1 ⟨rfl, hg1, ho1⟩
      have HN1 := Lib.hid (HN.out w1 hg1)
      clear hg1 ho1 p1 p2
      go_wp2
      go_ret
      exact ⟨rfl, HN1.out⟩
theorem first_mis {P : Nat → Prop} : ∀ {n : Nat}, (∃ i, i < n ∧ P i) → ∃ m, m < n ∧ P m ∧ ∀ i, i < m → ¬ P i
  | 0, ⟨i, h, _⟩ => by omega
  | n + 1, h => by
    by_cases hq : ∃ i, i < n ∧ P i
    · obtain ⟨m, h1, h2, h3⟩ := first_mis hq
      exact ⟨m, by omega, h2, h3⟩
    · obtain ⟨i, h1, h2⟩ := h
      have hi : i = n := by
        rcases Nat.lt_or_ge i n with h' | h'
        · exact absurd ⟨i, h', h2⟩ hq
        · omega
      subst hi
      exact ⟨i, by omega, h2, fun j hj hP => hq ⟨j, hj, hP⟩⟩
theorem lcontains_yes (b o c gl gs se : Nat) (es : List (Int × List Nat)) (w0 w : World) (hE : EsB w0 b o es) (hb0 : Below w0.heap.size w0 w) (hl : One w gl 3 (-1)) (hs : One w gs 3 (se : Int)) (hgl : w0.heap.size ≤ gl) (hne : gl ≠ gs) (hn : es.length ≤ 1000) (hmis : ∃ i, i < es.length ∧ MisAt es se i) :
    Calls Try.prog 23 #[.slice (some ⟨b, o, none⟩) es.length c, .func (Fn.func 38) #[] #[.pointer (some ⟨gl, 0, none⟩), .pointer (some ⟨gs, 0, none⟩)]] w (fun e w' => e = .returned (.bool true) ∧ Below w0.heap.size w0 w') := by
  obtain ⟨m, hm, h1, h2⟩ := first_mis hmis
  have HI := Lib.hid (lindex_yes b o c gl gs se m es w0 w hE hb0 hl hs hgl hne hn hm h1 h2)
  have hge : ((m : Int) ≥ 0) := by omega
  clear hE hb0 hl hs h1 h2 hmis
  go_enter Try.func23, Try.ntmps23
  go_wp2_with fail
  refine HI.out.mono ?_
  rintro e w' ⟨rfl, hb⟩
  go_wp2
  go_ret
  first | exact ⟨rfl, hb⟩ | exact ⟨ret_bool (decide_eq_true hge), hb⟩
set_option maxRecDepth 100000 in
set_option maxHeartbeats 2000000 in
theorem lmay_far (p t cnt b o c : Nat) (es : List (Int × List Nat)) (h : Geo.May p t) (hl1 : 1 ≤ es.length) (hl2 : es.length ≤ t) (hmis : ∃ i, i < es.length ∧ MisAt es (Geo.se p) i) (w : World) (hE : EsB w b o es) :
    Calls Try.prog 8 #[.agg #[.int .i64 (p : Int), .int .i64 (t : Int)], .agg #[.int .u64 (cnt : Int), .slice (some ⟨b, o, none⟩) es.length c]] w fun e w' => e = .returned (.bool false) ∧ Below w.heap.size w w' := by
  have hp : p ≤ 64 := by unfold Geo.May at h; omega
  have ht24 : t ≤ 24 := by unfold Geo.May at h; omega
  have hl9 : es.length ≤ 24 := by omega
  have hb : Below w.heap.size w (w.alloc (.cells #[.int .i64 (p : Int), .int .i64 (t : Int)] 23)) := (Below.refl _ _).alloc (Nat.le_refl _) _
  have e1 : (w.alloc (.cells #[.int .i64 (p : Int), .int .i64 (t : Int)] 23)).heap.size = w.heap.size + 1 := by simp
  have hg := LgB.new (w.alloc (.cells #[.int .i64 (p : Int), .int .i64 (t : Int)] 23)) 35 cnt (.slice (some ⟨b, o, none⟩) es.length c)
  rw [e1] at hg
  have ht := (Two.new w 23 (p : Int) (t : Int)).after (Below.alloc (Below.refl _ _) (Nat.le_refl _) (.cells #[.int .u64 (cnt : Int), .slice (some ⟨b, o, none⟩) es.length c] 35))
  have hb2 := hb.alloc (by rw [e1]; omega) (.cells #[.int .u64 (cnt : Int), .slice (some ⟨b, o, none⟩) es.length c] 35)
  have HB := Lib.hid hb2
  have HT := Lib.hid ht
  have HG := Lib.hid hg
  have HM := Lib.hid h
  have HE := Lib.hid hE
  have HI : Hid ((Try.prog.info? 23).map (·.size) = some (#[Value.int .i64 (p : Int), Value.int .i64 (t : Int)] : Array Value).size) := Lib.hid (info_geo2 p t)
  have HMP := Lib.hid (fun W => misplaced_any p t h W)
  have HCN := Lib.hid (fun gl gs (w0 w : World) hE hb0 hl hs hgl hne => lcontains_yes b o c gl gs (Geo.se p) es w0 w hE hb0 hl hs hgl hne (by omega) hmis)
  generalize Geo.se p = se at *
  generalize es.length = n at *
  clear hb hb2 hg ht h hE hmis e1
  go_enter Try.func8, Try.ntmps8
  go_wp2_with fail
  generalize (w.alloc (.cells #[.int .i64 (p : Int), .int .i64 (t : Int)] 23)).alloc (.cells #[.int .u64 (cnt : Int), .slice (some ⟨b, o, none⟩) n c] 35) = W0 at *
  refine (check_yes p t HM.out _).mono ?_
  rintro e w1 ⟨rfl, hb1⟩
  have HB1 := Lib.hid (HB.out.trans (hb1.mono HB.out.size))
  have HA1 := Lib.hid (show After W0 w1 from hb1)
  have HE0 := Lib.hid (HE.out.below HB.out)
  have HT1 := Lib.hid (HT.out.after hb1)
  have HG1 := Lib.hid (HG.out.after hb1)
  clear hb1
  have c0 := HT1.out.fst
  have c1 := HT1.out.snd
  have d0 := HG1.out.fst
  have d1 := HG1.out.snd
  go_wp2_with fail
  have KS : Hid (∀ w', After W0 w' → w'.cell? ⟨w.heap.size, 0, none⟩ = some (.int .i64 (p : Int)) ∧ w'.cell? ⟨w.heap.size, 1, none⟩ = some (.int .i64 (t : Int)) ∧ w'.cell? ⟨w.heap.size + 1, 1, none⟩ = some (.slice (some ⟨b, o, none⟩) n c) ∧ After W0 w') := Lib.hid fun w' hw => ⟨(HT.out.after hw).fst, (HT.out.after hw).snd, (HG.out.after hw).snd, hw⟩
  refine wp_region_F (S := (fun w' => w'.cell? ⟨w.heap.size, 0, none⟩ = some (.int .i64 (p : Int)) ∧ w'.cell? ⟨w.heap.size, 1, none⟩ = some (.int .i64 (t : Int)) ∧ w'.cell? ⟨w.heap.size + 1, 1, none⟩ = some (.slice (some ⟨b, o, none⟩) n c) ∧ After W0 w')) [] (by kernel_rfl) (KS.out _ (HA1.out.next (After.drew w1))) (fun hHeld => ?_)
  refine wpAnyF_take (i := 0) (oi := _) (v := ?_) rfl (by kernel_rfl) (by kernel_rfl) (by kernel_rfl) (by kernel_rfl) (fun _ _ _ h => h) (Or.inl ⟨by rfl, ?_⟩) (by assumption) ?_
  rotate_left 1
  · intro w hSw
    (try dsimp only at hSw)
    (first | (go_simp; done) | (go_simp; with_reducible rfl))
  (try simp only [Act.put, List.getElem_toArray, List.getElem_cons_succ, List.getElem_cons_zero, List.setIfInBounds_toArray, List.set_cons_zero, List.set_cons_succ])
  refine wpAnyF_take (i := 1) (oi := _) (v := ?_) rfl (by kernel_rfl) (by kernel_rfl) (by kernel_rfl) (by kernel_rfl) (fun _ _ _ h => h) (Or.inl ⟨by rfl, ?_⟩) (by assumption) ?_
  rotate_left 1
  · intro w hSw
    (try dsimp only at hSw)
    (first | (go_simp; done) | (go_simp; with_reducible rfl))
  (try simp only [Act.put, List.getElem_toArray, List.getElem_cons_succ, List.getElem_cons_zero, List.setIfInBounds_toArray, List.set_cons_zero, List.set_cons_succ])
  refine wpAnyF_take (i := 2) (oi := _) (v := ?_) rfl (by kernel_rfl) (by kernel_rfl) (by kernel_rfl) (by kernel_rfl) (fun _ _ _ h => h) (Or.inl ⟨by rfl, ?_⟩) (by assumption) ?_
  rotate_left 1
  · intro w hSw
    (try dsimp only at hSw)
    (first | (go_simp; done) | (go_simp; with_reducible rfl))
  (try simp only [Act.put, List.getElem_toArray, List.getElem_cons_succ, List.getElem_cons_zero, List.setIfInBounds_toArray, List.set_cons_zero, List.set_cons_succ])
  refine wpAnyF_ready (rs := [3]) (by kernel_rfl) (by simp) ?_
  refine AllReadyF.cons (o := _) rfl (fun K hK => ?_) AllReadyF.nil
  go_simp
  (go_at_call 24)
  refine (HMP.out _).mono ?_
  rintro e w2 ⟨gl, gs, rfl, hgl, hne, hgs, hb2, hl, hs⟩
  have HA2 := Lib.hid ((HA1.out.next (After.drew w1)).next hb2)
  have hgl2 : W0.heap.size ≤ gl := Nat.le_trans (Below.size HA1.out) hgl
  have HC := Lib.hid (HCN.out gl gs W0 w2 HE0.out HA2.out hl hs hgl2 hne)
  clear hl hs hgl hgs hb2 hne
  refine hK.out _ _ (KS.out _ HA2.out) (fun hHeld3 => ?_)
  clear hK K
  (try simp only [Act.put, List.getElem_toArray, List.getElem_cons_succ, List.getElem_cons_zero, List.setIfInBounds_toArray, List.set_cons_zero, List.set_cons_succ])
  refine wpAnyF_ready (rs := [4]) (by kernel_rfl) (by simp) ?_
  refine AllReadyF.cons (o := _) rfl (fun K hK => ?_) AllReadyF.nil
  go_simp
  (go_at_call 23)
  refine HC.out.mono ?_
  rintro e w3 ⟨rfl, hb3⟩
  have HB3 := Lib.hid (HB.out.trans (hb3.mono HB.out.size))
  refine hK.out _ _ (KS.out _ hb3) (fun hHeld4 => ?_)
  clear hK K
  (try simp only [Act.put, List.getElem_toArray, List.getElem_cons_succ, List.getElem_cons_zero, List.setIfInBounds_toArray, List.set_cons_zero, List.set_cons_succ])
  refine wpAnyF_ready (rs := [5]) (by kernel_rfl) (by simp) ?_
  refine AllReadyF.cons (o := _) rfl (fun K hK => ?_) AllReadyF.nil
  go_simp
  refine hK.out _ _ (by assumption) (fun hHeld5 => ?_)
  clear hK K
  (try simp only [Act.put, List.getElem_toArray, List.getElem_cons_succ, List.getElem_cons_zero, List.setIfInBounds_toArray, List.set_cons_zero, List.set_cons_succ])
  refine wpAnyF_ready (rs := [6]) (by kernel_rfl) (by simp) ?_
  refine AllReadyF.cons (o := _) rfl (fun K hK => ?_) AllReadyF.nil
  go_simp
  refine hK.out _ _ (by assumption) (fun hHeld6 => ?_)
  clear hK K
  (try simp only [Act.put, List.getElem_toArray, List.getElem_cons_succ, List.getElem_cons_zero, List.setIfInBounds_toArray, List.set_cons_zero, List.set_cons_succ])
  refine wpAnyF_done (by kernel_rfl) ?_ _
  clear hHeld hHeld3 hHeld4 hHeld5 hHeld6 hb3
  go_wp2
  go_ret
  exact ⟨rfl, HB3.out⟩
theorem lmay_geo (p t : Int) (cnt n c : Nat) (A : Option Addr) (h : ¬ Geo.May p t) (w : World) :
    Calls Try.prog 8 #[.agg #[.int .i64 p, .int .i64 t], .agg #[.int .u64 (cnt : Int), .slice A n c]] w fun e w' => e = .returned (.bool false) ∧ Below w.heap.size w w' := by
  have hb : Below w.heap.size w ((w.alloc (.cells #[.int .i64 p, .int .i64 t] 23)).alloc (.cells #[.int .u64 (cnt : Int), .slice A n c] 35)) := ((Below.refl _ _).alloc (Nat.le_refl _) _).alloc (by simp) _
  have HB := Lib.hid hb
  have HI : Hid ((Try.prog.info? 23).map (·.size) = some (#[Value.int .i64 p, Value.int .i64 t] : Array Value).size) := Lib.hid (info_geo2 p t)
  clear hb
  go_enter Try.func8, Try.ntmps8
  go_wp2_with fail
  generalize (w.alloc (.cells #[.int .i64 p, .int .i64 t] 23)).alloc (.cells #[.int .u64 (cnt : Int), .slice A n c] 35) = W0 at *
  refine (check_no p t h _).mono ?_
  rintro e w1 ⟨rfl, hb1⟩
  have HB1 := Lib.hid (HB.out.trans (hb1.mono HB.out.size))
  clear hb1
  go_wp2
  go_ret
  exact ⟨rfl, HB1.out⟩
set_option maxHeartbeats 1000000 in
theorem lmay_len (p t cnt n c : Nat) (A : Option Addr) (h : Geo.May p t) (hn : n ≤ 1000) (hl : ¬ (1 ≤ n ∧ n ≤ t)) (w : World) :
    Calls Try.prog 8 #[.agg #[.int .i64 (p : Int), .int .i64 (t : Int)], .agg #[.int .u64 (cnt : Int), .slice A n c]] w fun e w' => e = .returned (.bool false) ∧ Below w.heap.size w w' := by
  have ht24 : t ≤ 24 := by unfold Geo.May at h; omega
  obtain ⟨W0, hW⟩ : ∃ W0, W0 = (w.alloc (.cells #[.int .i64 (p : Int), .int .i64 (t : Int)] 23)).alloc (.cells #[.int .u64 (cnt : Int), .slice A n c] 35) := ⟨_, rfl⟩
  have hb0 : Below w.heap.size w W0 := by rw [hW]; exact ((Below.refl _ _).alloc (Nat.le_refl _) _).alloc (by simp) _
  have hx0 : W0.heap[w.heap.size]? = some (.cells #[.int .i64 (p : Int), .int .i64 (t : Int)] 23 (0, 0)) := by rw [hW]; exact blk_alloc (heap_alloc_new w _) _
  have hx1 : W0.heap[w.heap.size + 1]? = some (.cells #[.int .u64 (cnt : Int), .slice A n c] 35 (0, 0)) := by
    have := heap_alloc_new (w.alloc (.cells #[.int .i64 (p : Int), .int .i64 (t : Int)] 23)) (.cells #[.int .u64 (cnt : Int), .slice A n c] 35)
    rw [show (w.alloc (.cells #[.int .i64 (p : Int), .int .i64 (t : Int)] 23)).heap.size = w.heap.size + 1 by simp, ← hW] at this
    exact this
  have HI : Hid ((Try.prog.info? 23).map (·.size) = some (#[Value.int .i64 (p : Int), Value.int .i64 (t : Int)] : Array Value).size) := Lib.hid (info_geo2 p t)
  have HB0 := Lib.hid hb0
  have HX0 := Lib.hid hx0
  have HX1 := Lib.hid hx1
  have HW := Lib.hid hW
  have HM := Lib.hid h
  clear hb0 hx0 hx1 hW h
  rcases (by omega : n = 0 ∨ (1 ≤ n ∧ t < n)) with rfl | ⟨h1, h2⟩
  all_goals
    go_enter Try.func8, Try.ntmps8
    go_wp2_with fail
    rw [← HW.out]
    refine (check_yes p t HM.out _).mono ?_
    rintro e w1 ⟨rfl, hb1⟩
    have HB1 := Lib.hid (HB0.out.trans (hb1.mono HB0.out.size))
    have y0 := (hb1.block _ (blk_lt HX0.out)).trans HX0.out
    have y1 := (hb1.block _ (blk_lt HX1.out)).trans HX1.out
    have c0 : w1.cell? ⟨w.heap.size, 0, none⟩ = some (.int .i64 (p : Int)) := blk_cell y0 0
    have c1 : w1.cell? ⟨w.heap.size, 1, none⟩ = some (.int .i64 (t : Int)) := blk_cell y0 1
    have d0 : w1.cell? ⟨w.heap.size + 1, 0, none⟩ = some (.int .u64 (cnt : Int)) := blk_cell y1 0
    have d1 := blk_cell y1 1
    simp only [List.getElem?_toArray, List.getElem?_cons_succ, List.getElem?_cons_zero] at d1
    clear hb1 y0 y1
    go_wp2
    go_ret
    exact ⟨rfl, HB1.out⟩
/-- may there be such a log, of any two integers as a geometry? -/
def MayG (p t : Int) (es : List (Int × List Nat)) : Prop := Geo.May p t ∧ MayL t.toNat (Geo.se p.toNat) es
theorem lmay_no (p t : Int) (cnt n c : Nat) (A : Option Addr) (es : List (Int × List Nat)) (h : ¬ MayG p t es) (hn : n ≤ 1000) (w : World) (hE : EsV w A n es) :
    Calls Try.prog 8 #[.agg #[.int .i64 p, .int .i64 t], .agg #[.int .u64 (cnt : Int), .slice A n c]] w fun e w' => e = .returned (.bool false) ∧ Below w.heap.size w w' := by
  by_cases hg : Geo.May p t
  · obtain ⟨p', rfl⟩ : ∃ q : Nat, p = q := ⟨p.toNat, by unfold Geo.May at hg; omega⟩
    obtain ⟨t', rfl⟩ : ∃ q : Nat, t = q := ⟨t.toNat, by unfold Geo.May at hg; omega⟩
    have hl := hE.1
    by_cases hlen : 1 ≤ n ∧ n ≤ t'
    · obtain ⟨b, o, rfl, hEB⟩ := hE.2 (by omega)
      subst hl
      refine lmay_far p' t' cnt b o c es hg hlen.1 hlen.2 ?_ w hEB
      refine Classical.byContradiction fun hcon => ?_
      exact h ⟨hg, hlen.1, by simpa using hlen.2, fun i hi hm => hcon ⟨i, hi, hm⟩⟩
    · exact lmay_len p' t' cnt n c A hg hn hlen w
  · exact lmay_geo p t cnt n c A hg w
theorem encode_no (p t : Int) (cnt n c : Nat) (A : Option Addr) (es : List (Int × List Nat)) (h : ¬ MayG p t es) (hn : n ≤ 1000) (w : World) (hE : EsV w A n es) :
    Calls Try.prog 6 #[.agg #[.int .i64 p, .int .i64 t], .agg #[.int .u64 (cnt : Int), .slice A n c]] w fun e w' => e = .returned (.tuple #[.slice none 0 0, .int .i64 1]) ∧ Below w.heap.size w w' := by
  obtain ⟨W0, hW⟩ : ∃ W0, W0 = (w.alloc (.cells #[.int .i64 p, .int .i64 t] 23)).alloc (.cells #[.int .u64 (cnt : Int), .slice A n c] 35) := ⟨_, rfl⟩
  have hb0 : Below w.heap.size w W0 := by rw [hW]; exact ((Below.refl _ _).alloc (Nat.le_refl _) _).alloc (by simp) _
  have HMAY := Lib.hid (lmay_no p t cnt n c A es h hn W0 (hE.below hb0))
  have HB0 := Lib.hid hb0
  have HI : Hid ((Try.prog.info? 23).map (·.size) = some (#[Value.int .i64 p, Value.int .i64 t] : Array Value).size) := Lib.hid (info_geo2 p t)
  have HW := Lib.hid hW
  clear hb0 hW hE h
  go_enter Try.func6, Try.ntmps6
  go_wp2_with fail
  rw [← HW.out]
  refine HMAY.out.mono ?_
  rintro e w1 ⟨rfl, hb1⟩
  have HB1 := Lib.hid (HB0.out.trans (hb1.mono HB0.out.size))
  clear hb1
  go_wp2
  go_ret2
  exact ⟨rfl, HB1.out⟩
end Go.Proofs.Ytnalebocfbbpdaa
