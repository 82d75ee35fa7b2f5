/-
  Package logf: May of a log that may be; Size.
-/
import Derived.Test.YtnalebocfbbpdaaLgA
import Derived.Deep.RegionWith
import Derived.Test.YtnalebocfbbpdaaHeldF
import Derived.Great.Ranges
import Derived.Deep.RegionHeld3
namespace Go.Proofs.Ytnalebocfbbpdaa
open Go.RowKit Go
set_option linter.unusedVariables false
set_option linter.unusedSimpArgs false
theorem lcontains_no (b o c gl gs se : Nat) (es : List (Int × List Nat)) (w0 w : World) (hE : EsB w0 b o es) (hb0 : Below w0.heap.size w0 w) (hl : One w gl 3 (-1)) (hs : One w gs 3 (se : Int)) (hgl : w0.heap.size ≤ gl) (hne : gl ≠ gs) (hn : es.length ≤ 1000) (hok : ∀ i, i < es.length → ¬ MisAt es se i) :
    Calls Try.prog 23 #[.slice (some ⟨b, o, none⟩) es.length c, .func (Fn.func 38) #[] #[.pointer (some ⟨gl, 0, none⟩), .pointer (some ⟨gs, 0, none⟩)]] w (fun e w' => e = .returned (.bool false) ∧ Below w0.heap.size w0 w') := by
  have HI := Lib.hid (lindex_no b o c gl gs se es w0 w hE hb0 hl hs hgl hne hn hok)
  clear hE hb0 hl hs hok
  go_enter Try.func23, Try.ntmps23
  go_wp2_with fail
  refine HI.out.mono ?_
  rintro e w' ⟨rfl, hb⟩
  go_wp2
  go_ret
  exact ⟨rfl, hb⟩
/-- block g has a log: its count, the slice of its entries -/
def LgB (w : World) (g : Nat) (t : TypeId) (cnt : Nat) (v : Value) : Prop := w.heap[g]? = some (.cells #[.int .u64 (cnt : Int), v] t (0, 0))
theorem LgB.new (w : World) (t : TypeId) (cnt : Nat) (v : Value) : LgB (w.alloc (.cells #[.int .u64 (cnt : Int), v] t)) w.heap.size t cnt v := heap_alloc_new w _
theorem LgB.lt {w : World} {g : Nat} {t : TypeId} {cnt : Nat} {v : Value} (h : LgB w g t cnt v) : g < w.heap.size := blk_lt h
theorem LgB.after {W w : World} {g : Nat} {t : TypeId} {cnt : Nat} {v : Value} (h : LgB W g t cnt v) (hw : After W w) : LgB w g t cnt v := (Below.block hw g h.lt).trans h
theorem LgB.fst {w : World} {g : Nat} {t : TypeId} {cnt : Nat} {v : Value} (h : LgB w g t cnt v) : w.cell? ⟨g, 0, none⟩ = some (.int .u64 (cnt : Int)) := blk_cell h 0
theorem LgB.snd {w : World} {g : Nat} {t : TypeId} {cnt : Nat} {v : Value} (h : LgB w g t cnt v) : w.cell? ⟨g, 1, none⟩ = some v := blk_cell h 1
theorem info_log2 (x : Int) (v : Value) : (Try.prog.info? 35).map (·.size) = some [Value.int .u64 x, v].length := by rw [show [Value.int .u64 x, v].length = 2 from rfl]; kernel_rfl
def MayL (t : Nat) (se : Nat) (es : List (Int × List Nat)) : Prop := 1 ≤ es.length ∧ es.length ≤ t ∧ ∀ i, i < es.length → ¬ MisAt es se i
set_option maxRecDepth 100000 in
set_option maxHeartbeats 2000000 in
theorem lmay_yes (p t cnt b o c : Nat) (es : List (Int × List Nat)) (h : Geo.May p t) (hm : MayL t (Geo.se p) es) (w : World) (hE : EsB w b o es) :
    Calls Try.prog 8 #[.agg #[.int .i64 (p : Int), .int .i64 (t : Int)], .agg #[.int .u64 (cnt : Int), .slice (some ⟨b, o, none⟩) es.length c]] w fun e w' => e = .returned (.bool true) ∧ Below w.heap.size w w' := by
  have hp : p ≤ 64 := by unfold Geo.May at h; omega
  have ht24 : t ≤ 24 := by unfold Geo.May at h; omega
  obtain ⟨hl1, hl2, hok⟩ := hm
  have hl9 : es.length ≤ 24 := by omega
  have hb : Below w.heap.size w (w.alloc (.cells #[.int .i64 (p : Int), .int .i64 (t : Int)] 23)) := (Below.refl _ _).alloc (Nat.le_refl _) _
  have e1 : (w.alloc (.cells #[.int .i64 (p : Int), .int .i64 (t : Int)] 23)).heap.size = w.heap.size + 1 := by simp
  have hg := LgB.new (w.alloc (.cells #[.int .i64 (p : Int), .int .i64 (t : Int)] 23)) 35 cnt (.slice (some ⟨b, o, none⟩) es.length c)
  rw [e1] at hg
  have ht := (Two.new w 23 (p : Int) (t : Int)).after (Below.alloc (Below.refl _ _) (Nat.le_refl _) (.cells #[.int .u64 (cnt : Int), .slice (some ⟨b, o, none⟩) es.length c] 35))
  have hb2 := hb.alloc (by rw [e1]; omega) (.cells #[.int .u64 (cnt : Int), .slice (some ⟨b, o, none⟩) es.length c] 35)
  have HB := Lib.hid hb2
  have HT := Lib.hid ht
  have HG := Lib.hid hg
  have HM := Lib.hid h
  have HE := Lib.hid hE
  have HI : Hid ((Try.prog.info? 23).map (·.size) = some (#[Value.int .i64 (p : Int), Value.int .i64 (t : Int)] : Array Value).size) := Lib.hid (info_geo2 p t)
  have HMP := Lib.hid (fun W => misplaced_any p t h W)
  have HCN := Lib.hid (fun gl gs (w0 w : World) hE hb0 hl hs hgl hne => lcontains_no b o c gl gs (Geo.se p) es w0 w hE hb0 hl hs hgl hne (by omega) hok)
  generalize Geo.se p = se at *
  generalize es.length = n at *
  clear hb hb2 hg ht h hE hok e1
  go_enter Try.func8, Try.ntmps8
  go_wp2_with fail
  generalize (w.alloc (.cells #[.int .i64 (p : Int), .int .i64 (t : Int)] 23)).alloc (.cells #[.int .u64 (cnt : Int), .slice (some ⟨b, o, none⟩) n c] 35) = W0 at *
  refine (check_yes p t HM.out _).mono ?_
  rintro e w1 ⟨rfl, hb1⟩
  have HB1 := Lib.hid (HB.out.trans (hb1.mono HB.out.size))
  have HA1 := Lib.hid (show After W0 w1 from hb1)
  have HE0 := Lib.hid (HE.out.below HB.out)
  have HT1 := Lib.hid (HT.out.after hb1)
  have HG1 := Lib.hid (HG.out.after hb1)
  clear hb1
  have c0 := HT1.out.fst
  have c1 := HT1.out.snd
  have d0 := HG1.out.fst
  have d1 := HG1.out.snd
  go_wp2_with fail
  have KS : Hid (∀ w', After W0 w' → w'.cell? ⟨w.heap.size, 0, none⟩ = some (.int .i64 (p : Int)) ∧ w'.cell? ⟨w.heap.size, 1, none⟩ = some (.int .i64 (t : Int)) ∧ w'.cell? ⟨w.heap.size + 1, 1, none⟩ = some (.slice (some ⟨b, o, none⟩) n c) ∧ After W0 w') := Lib.hid fun w' hw => ⟨(HT.out.after hw).fst, (HT.out.after hw).snd, (HG.out.after hw).snd, hw⟩
  refine wp_region_F (S := (fun w' => w'.cell? ⟨w.heap.size, 0, none⟩ = some (.int .i64 (p : Int)) ∧ w'.cell? ⟨w.heap.size, 1, none⟩ = some (.int .i64 (t : Int)) ∧ w'.cell? ⟨w.heap.size + 1, 1, none⟩ = some (.slice (some ⟨b, o, none⟩) n c) ∧ After W0 w')) [] (by kernel_rfl) (KS.out _ (HA1.out.next (After.drew w1))) (fun hHeld => ?_)
  refine wpAnyF_take (i := 0) (oi := _) (v := ?_) rfl (by kernel_rfl) (by kernel_rfl) (by kernel_rfl) (by kernel_rfl) (fun _ _ _ h => h) (Or.inl ⟨by rfl, ?_⟩) (by assumption) ?_
  rotate_left 1
  · intro w hSw
    (try dsimp only at hSw)
    (first | (go_simp; done) | (go_simp; with_reducible rfl))
  (try simp only [Act.put, List.getElem_toArray, List.getElem_cons_succ, List.getElem_cons_zero, List.setIfInBounds_toArray, List.set_cons_zero, List.set_cons_succ])
  refine wpAnyF_take (i := 1) (oi := _) (v := ?_) rfl (by kernel_rfl) (by kernel_rfl) (by kernel_rfl) (by kernel_rfl) (fun _ _ _ h => h) (Or.inl ⟨by rfl, ?_⟩) (by assumption) ?_
  rotate_left 1
  · intro w hSw
    (try dsimp only at hSw)
    (first | (go_simp; done) | (go_simp; with_reducible rfl))
  (try simp only [Act.put, List.getElem_toArray, List.getElem_cons_succ, List.getElem_cons_zero, List.setIfInBounds_toArray, List.set_cons_zero, List.set_cons_succ])
  refine wpAnyF_take (i := 2) (oi := _) (v := ?_) rfl (by kernel_rfl) (by kernel_rfl) (by kernel_rfl) (by kernel_rfl) (fun _ _ _ h => h) (Or.inl ⟨by rfl, ?_⟩) (by assumption) ?_
  rotate_left 1
  · intro w hSw
    (try dsimp only at hSw)
    (first | (go_simp; done) | (go_simp; with_reducible rfl))
  (try simp only [Act.put, List.getElem_toArray, List.getElem_cons_succ, List.getElem_cons_zero, List.setIfInBounds_toArray, List.set_cons_zero, List.set_cons_succ])
  refine wpAnyF_ready (rs := [3]) (by kernel_rfl) (by simp) ?_
  refine AllReadyF.cons (o := _) rfl (fun K hK => ?_) AllReadyF.nil
  go_simp
  (go_at_call 24)
  refine (HMP.out _).mono ?_
  rintro e w2 ⟨gl, gs, rfl, hgl, hne, hgs, hb2, hl, hs⟩
  have HA2 := Lib.hid ((HA1.out.next (After.drew w1)).next hb2)
  have hgl2 : W0.heap.size ≤ gl := Nat.le_trans (Below.size HA1.out) hgl
  have HC := Lib.hid (HCN.out gl gs W0 w2 HE0.out HA2.out hl hs hgl2 hne)
  clear hl hs hgl hgs hb2 hne
  refine hK.out _ _ (KS.out _ HA2.out) (fun hHeld3 => ?_)
  clear hK K
  (try simp only [Act.put, List.getElem_toArray, List.getElem_cons_succ, List.getElem_cons_zero, List.setIfInBounds_toArray, List.set_cons_zero, List.set_cons_succ])
  refine wpAnyF_ready (rs := [4]) (by kernel_rfl) (by simp) ?_
  refine AllReadyF.cons (o := _) rfl (fun K hK => ?_) AllReadyF.nil
  go_simp
  (go_at_call 23)
  refine HC.out.mono ?_
  rintro e w3 ⟨rfl, hb3⟩
  have HB3 := Lib.hid (HB.out.trans (hb3.mono HB.out.size))
  refine hK.out _ _ (KS.out _ hb3) (fun hHeld4 => ?_)
  clear hK K
  (try simp only [Act.put, List.getElem_toArray, List.getElem_cons_succ, List.getElem_cons_zero, List.setIfInBounds_toArray, List.set_cons_zero, List.set_cons_succ])
  refine wpAnyF_ready (rs := [5]) (by kernel_rfl) (by simp) ?_
  refine AllReadyF.cons (o := _) rfl (fun K hK => ?_) AllReadyF.nil
  go_simp
  refine hK.out _ _ (by assumption) (fun hHeld5 => ?_)
  clear hK K
  (try simp only [Act.put, List.getElem_toArray, List.getElem_cons_succ, List.getElem_cons_zero, List.setIfInBounds_toArray, List.set_cons_zero, List.set_cons_succ])
  refine wpAnyF_ready (rs := [6]) (by kernel_rfl) (by simp) ?_
  refine AllReadyF.cons (o := _) rfl (fun K hK => ?_) AllReadyF.nil
  go_simp
  refine hK.out _ _ (by assumption) (fun hHeld6 => ?_)
  clear hK K
  (try simp only [Act.put, List.getElem_toArray, List.getElem_cons_succ, List.getElem_cons_zero, List.setIfInBounds_toArray, List.set_cons_zero, List.set_cons_succ])
  refine wpAnyF_done (by kernel_rfl) ?_ _
  clear hHeld hHeld3 hHeld4 hHeld5 hHeld6 hb3
  go_wp2
  go_ret
  exact ⟨rfl, HB3.out⟩
theorem lsize_any (cnt n c : Nat) (A : Option Addr) (hn : n ≤ 1000) (w : World) : Calls Try.prog 10 #[.agg #[.int .u64 (cnt : Int), .slice A n c]] w fun e w' => e = .returned (.int .i64 ((n + 1 : Nat) : Int)) ∧ Below w.heap.size w w' := by
  have hg := LgB.new w 35 cnt (.slice A n c)
  have d0 := hg.fst
  have d1 := hg.snd
  have hb : Below w.heap.size w (w.alloc (.cells #[.int .u64 (cnt : Int), .slice A n c] 35)) := (Below.refl _ _).alloc (Nat.le_refl _) _
  have HB := Lib.hid hb
  clear hg hb
  go_enter Try.func10, Try.ntmps10
  go_wp2
  go_ret
  exact ⟨ret_int (by omega), HB.out⟩
end Go.Proofs.Ytnalebocfbbpdaa
