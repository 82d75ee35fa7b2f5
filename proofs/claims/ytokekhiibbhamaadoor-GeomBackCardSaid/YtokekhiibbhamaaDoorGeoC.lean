/-
  Geometries: the document's answers.
-/
import Derived.Test.YtokekhiibbhamaaDoorGeoB
import Derived.OwnWalk
import Derived.Laws.AppendOwnNone
namespace Go.Proofs.YtokekhiibbhamaaDoor
open Go.RowKit Go
set_option linter.unusedVariables false
set_option linter.unusedSimpArgs false
theorem rmay_yes (p t : Int) (h : Geo.May p t) (w : World) : Calls Tryd.prog 5 #[.agg #[.int .i64 p, .int .i64 t]] w fun e w' => e = .returned (.bool true) ∧ Below w.heap.size w w' := by
  obtain ⟨h1, h2, h3, h4⟩ := h
  have hb : Below w.heap.size w (w.alloc (.cells #[.int .i64 p, .int .i64 t] 23)) := (Below.refl _ _).alloc (Nat.le_refl _) _
  have HB := Lib.hid hb
  clear hb
  go_enter Tryd.func5, Tryd.ntmps5
  go_wp2
  go_ret
  exact ⟨rfl, HB.out⟩
theorem rmay_no (p t : Int) (h : ¬ Geo.May p t) (w : World) : Calls Tryd.prog 5 #[.agg #[.int .i64 p, .int .i64 t]] w fun e w' => e = .returned (.bool false) ∧ Below w.heap.size w w' := by
  unfold Geo.May at h
  have hb : Below w.heap.size w (w.alloc (.cells #[.int .i64 p, .int .i64 t] 23)) := (Below.refl _ _).alloc (Nat.le_refl _) _
  have HB := Lib.hid hb
  have HH := Lib.hid h
  clear hb h
  rcases (by have := HH.out; omega : p < 1 ∨ (1 ≤ p ∧ 64 < p) ∨ (1 ≤ p ∧ p ≤ 64 ∧ t < 4) ∨ (1 ≤ p ∧ p ≤ 64 ∧ 4 ≤ t ∧ 24 < t)) with h1 | ⟨h1, h2⟩ | ⟨h1, h2, h3⟩ | ⟨h1, h2, h3, h4⟩
  all_goals
    go_enter Tryd.func5, Tryd.ntmps5
    go_wp2
    go_ret
    first | exact ⟨rfl, HB.out⟩ | exact ⟨ret_bool (decide_eq_false (by omega)), HB.out⟩
set_option maxHeartbeats 400000 in
theorem rmaps (p : Nat) (t : Int) (hp : p ≤ 64) (w : World) : Calls Tryd.prog 6 #[.agg #[.int .i64 (p : Int), .int .i64 t]] w fun e w' => e = .returned (.int .i64 ((Geo.mp p : Nat) : Int)) ∧ Below w.heap.size w w' := by
  have hb : Below w.heap.size w (w.alloc (.cells #[.int .i64 (p : Int), .int .i64 t] 23)) := (Below.refl _ _).alloc (Nat.le_refl _) _
  have HB := Lib.hid hb
  have ht := Two.new w 23 (p : Int) t
  have HM : Hid (Geo.mp p = (p + 15) / 16) := Lib.hid rfl
  generalize Geo.mp p = m at *
  clear hb
  go_enter Tryd.func6, Tryd.ntmps6
  go_wp2
  generalize w.alloc (.cells #[.int .i64 (p : Int), .int .i64 t] 23) = W0 at *
  have c0 := ht.fst
  clear ht
  go_loop [3] (fun v => ∃ n : Nat, v = .int .i64 (n : Int) ∧ n ≤ m) (fun v => (m - intOf v).toNat)
  case atStart => exact ⟨0, rfl, by omega⟩
  case round =>
    obtain ⟨n, rfl, hn⟩ := hrel
    by_cases hlt : 16 * n < p
    · have hlt' : 16 * (n : Int) < (p : Int) := by omega
      have hm := HM.out
      have hnm : n < m := by omega
      clear hm
      go_wp2
      go_round
      case rel => exact ⟨n + 1, by go_num, by omega⟩
      case measure => simp [intOf]; omega
    · have hlt' : ¬ 16 * (n : Int) < (p : Int) := by omega
      have hm := HM.out
      have hnm : m = n := by omega
      have hmb : (m : Int) ≤ 1000 := by omega
      clear hm
      subst hnm
      go_wp2
      go_ret
      exact ⟨rfl, HB.out⟩
theorem rsealed (p : Nat) (t : Int) (hp : p ≤ 64) (w : World) : Calls Tryd.prog 27 #[.agg #[.int .i64 (p : Int), .int .i64 t]] w fun e w' => e = .returned (.int .i64 ((Geo.se p : Nat) : Int)) ∧ Below w.heap.size w w' := by
  have hb : Below w.heap.size w (w.alloc (.cells #[.int .i64 (p : Int), .int .i64 t] 23)) := (Below.refl _ _).alloc (Nat.le_refl _) _
  have ht := Two.new w 23 (p : Int) t
  have HB := Lib.hid hb
  have HI := Lib.hid (info_geo2 (p : Int) t)
  have hm : Geo.mp p ≤ 5 := by unfold Geo.mp; omega
  have hse : Geo.se p = 1 + Geo.mp p + p := rfl
  have HM := Lib.hid (fun W => rmaps p t hp W)
  generalize Geo.mp p = m at *
  generalize Geo.se p = s at *
  have q1 : (0 : Int) ≤ (m : Int) := by omega
  have q2 : (m : Int) ≤ 5 := by omega
  have q3 : (0 : Int) ≤ (p : Int) := by omega
  have q4 : (p : Int) ≤ 64 := by omega
  have HSE := Lib.hid hse
  clear hse hm
  clear hb
  go_enter Tryd.func27, Tryd.ntmps27
  go_wp2_with fail
  generalize w.alloc (.cells #[.int .i64 (p : Int), .int .i64 t] 23) = W0 at *
  have HT := Lib.hid ht
  clear ht
  refine wp_region_class (After W0) (by kernel_rfl) (by kernel_rfl) (After.drew W0) ?_
  repeat (first
    | go_big_quiet_skip
    | (go_big_quiet_want; first
      | (with_reducible refine quiet_load 23 (.tmp 1) rfl _ _ rfl [.int .i64 (p : Int), .int .i64 t] _ (fun w h => (HT.out.after h).range) Tryd.underlying23 rfl HI.out ?_; (simp only [Act.put, List.setIfInBounds_toArray, List.set_cons_zero, List.set_cons_succ]); go_big_quiet_on)
      | (with_reducible refine quiet_load1 3 (.tmp 6) rfl _ rfl .i64 Tryd.underlying3 _ (fun w h => (HT.out.after h).fst) ?_; (simp only [Act.put, List.setIfInBounds_toArray, List.set_cons_zero, List.set_cons_succ]); go_big_quiet_on)
      | (go_big_quiet_op; first
        | go_big_quiet_on
        | ((with_reducible refine ⟨_, fun _ _ => rfl, ?_⟩); go_big_quiet_on)
        | ((with_reducible refine ⟨_, fun _ _ => ⟨rfl, rfl⟩, ?_⟩); go_big_quiet_on)
        | ((with_reducible refine ⟨_, fun W hW => calls_after hW (HM.out W), ?_⟩); go_big_quiet_on))))
  refine wpQuiet_nil ?_
  intro W4 hW4
  go_wp2
  go_ret
  exact ⟨ret_int (by rw [HSE.out]; omega), HB.out.trans (hW4.mono HB.out.size)⟩
set_option maxHeartbeats 400000 in
theorem repochs (p : Nat) (t : Int) (hp : p ≤ 64) (w : World) : Calls Tryd.prog 26 #[.agg #[.int .i64 (p : Int), .int .i64 t]] w fun e w' => e = .returned (.int .i64 ((Geo.ep p : Nat) : Int)) ∧ Below w.heap.size w w' := by
  have hb : Below w.heap.size w (w.alloc (.cells #[.int .i64 (p : Int), .int .i64 t] 23)) := (Below.refl _ _).alloc (Nat.le_refl _) _
  have HB := Lib.hid hb
  have ht := Two.new w 23 (p : Int) t
  have hs : Geo.se p ≤ 1000 := by unfold Geo.se Geo.mp; omega
  have HE : Hid (Geo.ep p = (Geo.se p + 31) / 32) := Lib.hid rfl
  have HS := Lib.hid (fun W => rsealed p t hp W)
  generalize Geo.se p = s at *
  generalize Geo.ep p = m at *
  clear hb
  go_enter Tryd.func26, Tryd.ntmps26
  go_wp2
  generalize w.alloc (.cells #[.int .i64 (p : Int), .int .i64 t] 23) = W0 at *
  have HT := Lib.hid ht
  clear ht
  go_loopw [3] (fun v wr => ∃ n : Nat, v = .int .i64 (n : Int) ∧ n ≤ m ∧ After W0 wr) (fun v _ => (m - intOf v).toNat)
  case atStart => exact ⟨0, rfl, by omega, After.refl _⟩
  case round =>
    obtain ⟨n, rfl, hn, ha⟩ := hrel
    have HA := Lib.hid ha
    have c0 := (HT.out.after ha).fst
    have c1 := (HT.out.after ha).snd
    have hm := HE.out
    clear ha
    by_cases hlt : 32 * n < s
    · have hlt' : 32 * (n : Int) < (s : Int) := by omega
      have hnm : n < m := by omega
      clear hm
      go_wp2_with fail
      refine (HS.out _).mono ?_
      rintro e w1 ⟨rfl, hb1⟩
      have HA1 := Lib.hid (HA.out.next hb1)
      clear hb1 c0 c1
      go_wp2
      go_roundw
      case rel => exact ⟨n + 1, by go_num, by omega, HA1.out⟩
      case measure => simp [intOf]; omega
    · have hlt' : ¬ 32 * (n : Int) < (s : Int) := by omega
      have hnm : m = n := by omega
      have hmb : (m : Int) ≤ 1000 := by omega
      clear hm
      subst hnm
      go_wp2_with fail
      refine (HS.out _).mono ?_
      rintro e w1 ⟨rfl, hb1⟩
      have HA1 := Lib.hid (HA.out.next hb1)
      clear hb1 c0 c1
      go_wp2
      go_ret
      exact ⟨rfl, HB.out.trans (Below.mono HA1.out HB.out.size)⟩
/-! the list of all blocks -/
def pvals (l : List (Nat × Nat)) : List Value := l.flatMap fun q => [.int .i64 (q.1 : Int), .int .i64 (q.2 : Int)]
theorem pvals_len (l : List (Nat × Nat)) : (pvals l).length = l.length * 2 := by
  induction l with
  | nil => rfl
  | cons x l ih => unfold pvals at *; rw [List.flatMap_cons, List.length_append, ih]; simp; omega
theorem pvals_app (l m : List (Nat × Nat)) : pvals (l ++ m) = pvals l ++ pvals m := by simp [pvals]
theorem pvals_at : ∀ (l : List (Nat × Nat)) (i : Nat) (x : Nat × Nat), l[i]? = some x → (pvals l)[i * 2]? = some (.int .i64 (x.1 : Int)) ∧ (pvals l)[i * 2 + 1]? = some (.int .i64 (x.2 : Int)) := by
  intro l
  induction l with
  | nil => intro i x h; cases h
  | cons y l ih =>
    intro i x h
    have e : pvals (y :: l) = .int .i64 (y.1 : Int) :: .int .i64 (y.2 : Int) :: pvals l := rfl
    rw [e]
    cases i with
    | zero => injection h with h; subst h; exact ⟨rfl, rfl⟩
    | succ i =>
      have := ih i x h
      rw [show (i + 1) * 2 = i * 2 + 2 by omega]
      exact this
def OwnP (w : World) (B : Nat) (v : Value) (l : List (Nat × Nat)) : Prop := w.ownsRow B 36 2 v l.length (pvals l)
theorem OwnP.lt {w : World} {B : Nat} {v : Value} {l : List (Nat × Nat)} (h : OwnP w B v l) {g : Nat} (hg : v.ownBlock = some g) : B ≤ g ∧ g < w.heap.size := World.ownsRow.lt h g hg
theorem OwnP.below {w w' : World} {B : Nat} {v : Value} {l : List (Nat × Nat)} (h : OwnP w B v l) (hb : Below w.heap.size w w') : OwnP w' B v l := by
  have hk : ∀ g, v.ownBlock = some g → w'.heap[g]? = w.heap[g]? := fun g hg => hb.block g (h.lt hg).2
  obtain ⟨h1, h2⟩ := h
  refine ⟨h1, ?_⟩
  rcases h2 with h2 | ⟨g, cap, cur, hv, hg, hh, hr⟩
  · exact .inl h2
  · exact .inr ⟨g, cap, cur, hv, hg, (hk g (by rw [hv]; rfl)).trans hh, hr⟩
theorem info_part : (Tryd.prog.info? 36).map (fun i => (i.zero, i.size, i.bytes)) = some (some (.agg #[.int .i64 0, .int .i64 0]), 2, 16) := by kernel_rfl
theorem wp_app_p {ops : Array Oper} {rest : List Oper} {o : Oper} {a : Act} {Q : Exit → Act → World → Prop} (W : World) (hgd : o.guard = none) (s x : Operand)
    (ho : o.op = .call { callee := .builtin .append, args := #[s, x], argTypes := #[34, 34] })
    (B : Nat) (v : Value) (l : List (Nat × Nat)) (c d : Nat) (z y : Int) (hs : a.eval s = v) (hown : OwnP W B v l)
    (hx : a.eval x = .slice (some ⟨W.heap.size, 0, none⟩) 1 1) (hz : z = (c : Int)) (hy : y = (d : Int)) (hn : l.length < 100000) (hB : B ≤ W.heap.size)
    (h : ∀ v' w', OwnP w' B v' (l ++ [(c, d)]) → Below B W w' → wpList Tryd.prog ops Q rest (a.put o.dst v') w') :
    wpList Tryd.prog ops Q (o :: rest) a (W.alloc (.cells #[.int .i64 z, .int .i64 y] 36)) := by
  obtain ⟨i0, hi, hz0, hz1, hz2⟩ := info_parts info_part
  subst hz hy
  refine wpList_append_own _ hgd s x 34 ho B 36 i0 (.agg #[.int .i64 0, .int .i64 0]) 2 16 Tryd.underlying34 hi hz0 hz1 hz2 rfl (by decide) v l.length (pvals l) hs (World.ownsRow.alloc hown _) ⟨W.heap.size, 0, none⟩ 1 1
    [.int .i64 (c : Int), .int .i64 (d : Int)] hx rfl ?_ ?_ (by unfold maxLen; omega) (by omega) (by simp; omega) ?_
  · intro j u hj
    match j, hj with
    | 0, hj => simp at hj; subst hj; simp [Addr.add]
    | 1, hj => simp at hj; subst hj; simp [Addr.add]
  · intro u hu
    simp at hu
    rcases hu with rfl | rfl <;> rfl
  · intro v' w1 hown' hg _
    refine h v' w1 ?_ ?_
    · have e : pvals (l ++ [(c, d)]) = pvals l ++ [.int .i64 (c : Int), .int .i64 (d : Int)] := by rw [pvals_app]; rfl
      unfold OwnP
      rw [e, List.length_append]
      exact hown'
    · exact ((Below.refl B W).alloc hB _).grown hg (by simp; omega) (fun k hk => (World.ownsRow.lt hown k hk).1)
/-- block g begins with these parts -/
def PRow (w : World) (g : Nat) (l : List (Nat × Nat)) : Prop := g < w.heap.size ∧ ∀ i x, l[i]? = some x → w.cell? ⟨g, i * 2, none⟩ = some (.int .i64 (x.1 : Int)) ∧ w.cell? ⟨g, i * 2 + 1, none⟩ = some (.int .i64 (x.2 : Int))
theorem PRow.below {w w' : World} {g : Nat} {l : List (Nat × Nat)} (h : PRow w g l) (hb : Below w.heap.size w w') : PRow w' g l :=
  ⟨Nat.lt_of_lt_of_le h.1 hb.size, fun i x hx => ⟨(hb.cell (p := ⟨g, i * 2, none⟩) h.1).trans (h.2 i x hx).1, (hb.cell (p := ⟨g, i * 2 + 1, none⟩) h.1).trans (h.2 i x hx).2⟩⟩
theorem OwnP.prow {w : World} {B : Nat} {v : Value} {l : List (Nat × Nat)} (h : OwnP w B v l) (hl : 0 < l.length) : ∃ g c, v = .slice (some ⟨g, 0, none⟩) l.length c ∧ B ≤ g ∧ PRow w g l := by
  obtain ⟨h1, h2⟩ := h
  rcases h2 with ⟨_, h0⟩ | ⟨g, cap, cur, hv, hg, hh, hnc, hm, hs, ht⟩
  · omega
  · refine ⟨g, cap, hv, hg, blk_lt hh, fun i x hx => ?_⟩
    obtain ⟨q1, q2⟩ := pvals_at l i x hx
    have hi : i < l.length := (List.getElem?_eq_some_iff.mp hx).1
    rw [← ht, List.getElem?_take_of_lt (by omega)] at q1 q2
    exact ⟨(blk_cell hh _).trans (by simpa using q1), (blk_cell hh _).trans (by simpa using q2)⟩
namespace Geo
def kinds (k n : Nat) : List (Nat × Nat) := (List.range n).map fun i => (k, i)
theorem kinds_succ (k n : Nat) : kinds k (n + 1) = kinds k n ++ [(k, n)] := by unfold kinds; rw [List.range_succ, List.map_append]; rfl
theorem kinds_len (k n : Nat) : (kinds k n).length = n := by simp [kinds]
def all (p t : Nat) : List (Nat × Nat) := (1, 0) :: (kinds 2 (ep p) ++ (kinds 3 (se p) ++ kinds 4 (t + 1)))
theorem all_len (p t : Nat) : (all p t).length = tot p t := by unfold all tot lv; simp only [List.length_cons, List.length_append, kinds_len]; omega
def cnt (l : List (Nat × Nat)) (k : Nat) : Nat := (l.filter fun q => q.1 == k).length
theorem cnt_app (l m : List (Nat × Nat)) (k : Nat) : cnt (l ++ m) k = cnt l k + cnt m k := by unfold cnt; rw [List.filter_append, List.length_append]
theorem cnt_kinds (k n j : Nat) : cnt (kinds k n) j = if k = j then n else 0 := by
  induction n with
  | zero => unfold kinds cnt; simp
  | succ n ih =>
    rw [kinds_succ, cnt_app, ih]
    unfold cnt
    by_cases h : k = j
    · simp [h]
    · simp [h]
theorem cnt_le (l : List (Nat × Nat)) (k : Nat) : cnt l k ≤ l.length := List.length_filter_le _ _
theorem cnt_all (p t : Nat) : cnt (all p t) 3 = se p ∧ cnt (all p t) 2 = ep p ∧ cnt (all p t) 4 = t + 1 := by
  have e : all p t = [(1, 0)] ++ (kinds 2 (ep p) ++ (kinds 3 (se p) ++ kinds 4 (t + 1))) := rfl
  rw [e]
  simp only [cnt_app, cnt_kinds]
  refine ⟨?_, ?_, ?_⟩ <;> simp [cnt]
end Geo
def AllPost (n : Nat) (l : List (Nat × Nat)) (w : World) (e : Ending) (w' : World) : Prop := ∃ g c, e = .returned (.slice (some ⟨g, 0, none⟩) n c) ∧ Below w.heap.size w w' ∧ PRow w' g l
set_option maxHeartbeats 1000000 in
set_option maxRecDepth 100000 in
theorem rall_yes (p t : Nat) (hp : p ≤ 64) (ht24 : t ≤ 24) (h : Geo.May p t) (w : World) : Calls Tryd.prog 15 #[.agg #[.int .i64 (p : Int), .int .i64 (t : Int)]] w fun e w' => AllPost (Geo.tot p t) (Geo.all p t) w e w' := by
  have hb : Below w.heap.size w (w.alloc (.cells #[.int .i64 (p : Int), .int .i64 (t : Int)] 23)) := (Below.refl _ _).alloc (Nat.le_refl _) _
  have ht := Two.new w 23 (p : Int) (t : Int)
  have HB := Lib.hid hb
  have HM := Lib.hid h
  have HE := Lib.hid (fun W => repochs p (t : Int) hp W)
  have HS := Lib.hid (fun W => rsealed p (t : Int) hp W)
  have HL := Lib.hid (Geo.all_len p t)
  have hs : Geo.se p ≤ 1000 := by unfold Geo.se Geo.mp; omega
  have hee : Geo.ep p ≤ 1000 := by unfold Geo.ep; omega
  have HAL : Hid (Geo.all p t = [(1, 0)] ++ Geo.kinds 2 (Geo.ep p) ++ Geo.kinds 3 (Geo.se p) ++ Geo.kinds 4 (t + 1)) := Lib.hid (by unfold Geo.all; simp)
  generalize Geo.all p t = al at *
  generalize Geo.tot p t = tt at *
  generalize Geo.ep p = ee at *
  generalize Geo.se p = s at *
  generalize ht1 : t + 1 = t1 at *
  clear hb h
  go_enter Tryd.func15, Tryd.ntmps15
  have ht1' : t1 ≤ 25 ∧ t < t1 ∧ t1 ≤ t + 1 := by omega
  obtain ⟨ht1a, ht1b, ht1c⟩ := ht1'
  clear ht1
  go_wp2_with fail
  generalize w.alloc (.cells #[.int .i64 (p : Int), .int .i64 (t : Int)] 23) = W0 at *
  have HT := Lib.hid ht
  clear ht
  refine (rmay_yes _ _ HM.out _).mono ?_
  rintro e w1 ⟨rfl, hb1⟩
  have HA0 : Hid (After W0 (w1.alloc (.cells #[.int .i64 1, .int .i64 0] 36))) := Lib.hid ((After.next (After.refl W0) hb1).next ((Below.refl _ _).alloc (Nat.le_refl _) _))
  have HO0 : Hid (OwnP (w1.alloc (.cells #[.int .i64 1, .int .i64 0] 36)) W0.heap.size (.slice (some ⟨w1.heap.size, 0, none⟩) 1 1) [(1, 0)]) := Lib.hid ⟨rfl, .inr ⟨w1.heap.size, 1, #[.int .i64 1, .int .i64 0], rfl, hb1.size, heap_alloc_new w1 _, by decide, by decide, rfl, rfl⟩⟩
  clear hb1
  go_wp2
  generalize w1.alloc (.cells #[.int .i64 1, .int .i64 0] 36) = W1 at *
  go_loopw [3, 4] (fun v3 v wr => ∃ n : Nat, v = .int .i64 (n : Int) ∧ n ≤ ee ∧ After W0 wr ∧ OwnP wr W0.heap.size v3 ([(1, 0)] ++ Geo.kinds 2 n)) (fun _ v _ => (ee - intOf v).toNat)
  case atStart => exact ⟨0, rfl, by omega, HA0.out, by rw [show Geo.kinds 2 0 = [] from rfl, List.append_nil]; exact HO0.out⟩
  case round =>
    obtain ⟨n, rfl, hn, ha, ho⟩ := hrel
    have HA := Lib.hid ha
    have HO := Lib.hid ho
    have c0 := (HT.out.after ha).fst
    have c1 := (HT.out.after ha).snd
    have hsz := ha.size
    clear ha ho HA0 HO0
    by_cases hlt : n < ee
    · have hlt' : (n : Int) < (ee : Int) := by omega
      go_wp2_with fail
      refine (HE.out _).mono ?_
      rintro e w1 ⟨rfl, hb1⟩
      have HA1 := Lib.hid (HA.out.next hb1)
      have HO1 := Lib.hid (HO.out.below hb1)
      have hs1 := Nat.le_trans hsz hb1.size
      clear hb1 c0 c1 HA HO hsz
      go_wp2_with (at_builtin; refine wp_app_p w1 rfl (.tmp 18) (.tmp 21) rfl W0.heap.size _ _ 2 n _ _ rfl HO1.out rfl rfl rfl (by simp only [List.length_append, List.length_cons, List.length_nil, Geo.kinds_len]; omega) hs1 ?_; intro v' w2 hown2 hb2)
      go_roundw
      case rel => exact ⟨n + 1, by go_num, by omega, HA1.out.trans hb2, by rw [Geo.kinds_succ, ← List.append_assoc]; exact hown2⟩
      case measure => simp [intOf]; omega
    · have hlt' : ¬ (n : Int) < (ee : Int) := by omega
      have hnn : ee = n := by omega
      subst hnn
      go_wp2_with fail
      refine (HE.out _).mono ?_
      rintro e w1 ⟨rfl, hb1⟩
      have HA1 := Lib.hid (HA.out.next hb1)
      have HO1 := Lib.hid (HO.out.below hb1)
      have hs1 := Nat.le_trans hsz hb1.size
      clear hb1 c0 c1 HA HO hsz
      have HA0 := HA1
      have HO0 := HO1
      clear HA1 HO1 hs1 hlt hlt' hn
      go_wp2
      go_loopw [3, 5] (fun v3 v wr => ∃ n : Nat, v = .int .i64 (n : Int) ∧ n ≤ s ∧ After W0 wr ∧ OwnP wr W0.heap.size v3 ([(1, 0)] ++ Geo.kinds 2 ee ++ Geo.kinds 3 n)) (fun _ v _ => (s - intOf v).toNat)
      case atStart => exact ⟨0, rfl, by omega, HA0.out, by rw [show Geo.kinds 3 0 = [] from rfl, List.append_nil]; exact HO0.out⟩
      case round =>
        obtain ⟨n, rfl, hn, ha, ho⟩ := hrel
        have HA := Lib.hid ha
        have HO := Lib.hid ho
        have c0 := (HT.out.after ha).fst
        have c1 := (HT.out.after ha).snd
        have hsz := ha.size
        clear ha ho HA0 HO0
        by_cases hlt : n < s
        · have hlt' : (n : Int) < (s : Int) := by omega
          go_wp2_with fail
          refine (HS.out _).mono ?_
          rintro e w1 ⟨rfl, hb1⟩
          have HA1 := Lib.hid (HA.out.next hb1)
          have HO1 := Lib.hid (HO.out.below hb1)
          have hs1 := Nat.le_trans hsz hb1.size
          clear hb1 c0 c1 HA HO hsz
          go_wp2_with (at_builtin; refine wp_app_p w1 rfl (.tmp 29) (.tmp 32) rfl W0.heap.size _ _ 3 n _ _ rfl HO1.out rfl rfl rfl (by simp only [List.length_append, List.length_cons, List.length_nil, Geo.kinds_len]; omega) hs1 ?_; intro v' w2 hown2 hb2)
          go_roundw
          case rel => exact ⟨n + 1, by go_num, by omega, HA1.out.trans hb2, by rw [Geo.kinds_succ, ← List.append_assoc]; exact hown2⟩
          case measure => simp [intOf]; omega
        · have hlt' : ¬ (n : Int) < (s : Int) := by omega
          have hnn : s = n := by omega
          subst hnn
          go_wp2_with fail
          refine (HS.out _).mono ?_
          rintro e w1 ⟨rfl, hb1⟩
          have HA1 := Lib.hid (HA.out.next hb1)
          have HO1 := Lib.hid (HO.out.below hb1)
          have hs1 := Nat.le_trans hsz hb1.size
          clear hb1 c0 c1 HA HO hsz
          have HA0 := HA1
          have HO0 := HO1
          clear HA1 HO1 hs1 hlt hlt' hn
          go_wp2
          go_loopw [3, 6] (fun v3 v wr => ∃ n : Nat, v = .int .i64 (n : Int) ∧ n ≤ t1 ∧ After W0 wr ∧ OwnP wr W0.heap.size v3 ([(1, 0)] ++ Geo.kinds 2 ee ++ Geo.kinds 3 s ++ Geo.kinds 4 n)) (fun _ v _ => (t1 - intOf v).toNat)
          case atStart => exact ⟨0, rfl, by omega, HA0.out, by rw [show Geo.kinds 4 0 = [] from rfl, List.append_nil]; exact HO0.out⟩
          case round =>
            obtain ⟨n, rfl, hn, ha, ho⟩ := hrel
            have HA := Lib.hid ha
            have HO := Lib.hid ho
            have c0 := (HT.out.after ha).fst
            have c1 := (HT.out.after ha).snd
            have hsz := ha.size
            clear ha ho HA0 HO0
            by_cases hlt : n < t1
            · have hlt' : (n : Int) ≤ (t : Int) := by omega
              have HA1 := HA
              have HO1 := HO
              have hs1 := hsz
              clear HA HO hsz
              go_wp2_with (at_builtin; refine wp_app_p wr rfl (.tmp 40) (.tmp 43) rfl W0.heap.size _ _ 4 n _ _ rfl HO1.out rfl rfl rfl (by simp only [List.length_append, List.length_cons, List.length_nil, Geo.kinds_len]; omega) hs1 ?_; intro v' w2 hown2 hb2)
              go_roundw
              case rel => exact ⟨n + 1, by go_num, by omega, HA1.out.trans hb2, by rw [Geo.kinds_succ, ← List.append_assoc]; exact hown2⟩
              case measure => simp [intOf]; omega
            · have hlt' : ¬ (n : Int) ≤ (t : Int) := by omega
              have hnn : t1 = n := by omega
              subst hnn
              have HA1 := HA
              have HO1 := HO
              have hs1 := hsz
              clear HA HO hsz
              go_wp2
              go_ret
              obtain ⟨g, c, rfl, _, hpr⟩ := OwnP.prow HO1.out (by simp)
              rw [← HAL.out] at hpr ⊢
              exact ⟨g, c, by rw [← HL.out]; rfl, HB.out.trans (Below.mono HA1.out HB.out.size), hpr⟩
theorem rall_no (p t : Int) (h : ¬ Geo.May p t) (w : World) : Calls Tryd.prog 15 #[.agg #[.int .i64 p, .int .i64 t]] w fun e w' => e = .returned (.slice none 0 0) ∧ Below w.heap.size w w' := by
  have hb : Below w.heap.size w (w.alloc (.cells #[.int .i64 p, .int .i64 t] 23)) := (Below.refl _ _).alloc (Nat.le_refl _) _
  have HB := Lib.hid hb
  have HM := Lib.hid h
  clear hb h
  go_enter Tryd.func15, Tryd.ntmps15
  go_wp2_with fail
  refine (rmay_no p t HM.out _).mono ?_
  rintro e w1 ⟨rfl, hb1⟩
  have HB1 := Lib.hid (HB.out.trans (hb1.mono HB.out.size))
  clear hb1
  go_wp2
  go_ret
  exact ⟨rfl, HB1.out⟩
def CntRel (W0 : World) (l : List (Nat × Nat)) (kind : Nat) (v5 v : Value) (wr : World) : Prop :=
  ∃ k : Nat, v = .int .i64 (k : Int) ∧ k ≤ l.length ∧ v5 = .int .i64 ((Geo.cnt (l.take k) kind : Nat) : Int) ∧ After W0 wr
theorem cnt_step {l : List (Nat × Nat)} {k kind : Nat} {x : Nat × Nat} (h : l[k]? = some x) : Geo.cnt (l.take (k + 1)) kind = Geo.cnt (l.take k) kind + if x.1 = kind then 1 else 0 := by
  have hk : k < l.length := (List.getElem?_eq_some_iff.mp h).1
  have hx : l[k] = x := (List.getElem?_eq_some_iff.mp h).2
  rw [List.take_succ_eq_append_getElem hk, Geo.cnt_app, hx]
  congr 1
  unfold Geo.cnt
  by_cases e : x.1 = kind
  · simp [e]
  · simp [e]
end Go.Proofs.YtokekhiibbhamaaDoor
