/-
  Geometries: the document's answers.
-/
import Derived.Test.YtnalebocfbbpdaaGeoB
import Derived.OwnWalk
import Derived.Laws.AppendOwnNone
namespace Go.Proofs.Ytnalebocfbbpdaa
open Go.RowKit Go
set_option linter.unusedVariables false
set_option linter.unusedSimpArgs false
theorem rmay_yes (p t : Int) (h : Geo.May p t) (w : World) : Calls Try.prog 17 #[.agg #[.int .i64 p, .int .i64 t]] w fun e w' => e = .returned (.bool true) ∧ Below w.heap.size w w' := by
  obtain ⟨h1, h2, h3, h4⟩ := h
  have hb : Below w.heap.size w (w.alloc (.cells #[.int .i64 p, .int .i64 t] 23)) := (Below.refl _ _).alloc (Nat.le_refl _) _
  have HB := Lib.hid hb
  clear hb
  go_enter Try.func17, Try.ntmps17
  go_wp2
  go_ret
  exact ⟨rfl, HB.out⟩
theorem rmay_no (p t : Int) (h : ¬ Geo.May p t) (w : World) : Calls Try.prog 17 #[.agg #[.int .i64 p, .int .i64 t]] w fun e w' => e = .returned (.bool false) ∧ Below w.heap.size w w' := by
  unfold Geo.May at h
  have hb : Below w.heap.size w (w.alloc (.cells #[.int .i64 p, .int .i64 t] 23)) := (Below.refl _ _).alloc (Nat.le_refl _) _
  have HB := Lib.hid hb
  have HH := Lib.hid h
  clear hb h
  rcases (by have := HH.out; omega : p < 1 ∨ (1 ≤ p ∧ 64 < p) ∨ (1 ≤ p ∧ p ≤ 64 ∧ t < 4) ∨ (1 ≤ p ∧ p ≤ 64 ∧ 4 ≤ t ∧ 24 < t)) with h1 | ⟨h1, h2⟩ | ⟨h1, h2, h3⟩ | ⟨h1, h2, h3, h4⟩
  all_goals
    go_enter Try.func17, Try.ntmps17
    go_wp2
    go_ret
    first | exact ⟨rfl, HB.out⟩ | exact ⟨ret_bool (decide_eq_false (by omega)), HB.out⟩
set_option maxHeartbeats 400000 in
theorem rmaps (p : Nat) (t : Int) (hp : p ≤ 64) (w : World) : Calls Try.prog 39 #[.agg #[.int .i64 (p : Int), .int .i64 t]] w fun e w' => e = .returned (.int .i64 ((Geo.mp p : Nat) : Int)) ∧ Below w.heap.size w w' := by
  have hb : Below w.heap.size w (w.alloc (.cells #[.int .i64 (p : Int), .int .i64 t] 23)) := (Below.refl _ _).alloc (Nat.le_refl _) _
  have HB := Lib.hid hb
  have ht := Two.new w 23 (p : Int) t
  have HM : Hid (Geo.mp p = (p + 15) / 16) := Lib.hid rfl
  generalize Geo.mp p = m at *
  clear hb
  go_enter Try.func39, Try.ntmps39
  go_wp2
  generalize w.alloc (.cells #[.int .i64 (p : Int), .int .i64 t] 23) = W0 at *
  have c0 := ht.fst
  clear ht
  go_loop [3] (fun v => ∃ n : Nat, v = .int .i64 (n : Int) ∧ n ≤ m) (fun v => (m - intOf v).toNat)
  case atStart => exact ⟨0, rfl, by omega⟩
  case round =>
    obtain ⟨n, rfl, hn⟩ := hrel
    by_cases hlt : 16 * n < p
    · have hlt' : 16 * (n : Int) < (p : Int) := by omega
      have hm := HM.out
      have hnm : n < m := by omega
      clear hm
      go_wp2
      go_round
      case rel => exact ⟨n + 1, by go_num, by omega⟩
      case measure => simp [intOf]; omega
    · have hlt' : ¬ 16 * (n : Int) < (p : Int) := by omega
      have hm := HM.out
      have hnm : m = n := by omega
      have hmb : (m : Int) ≤ 1000 := by omega
      clear hm
      subst hnm
      go_wp2
      go_ret
      exact ⟨rfl, HB.out⟩
theorem rsealed (p : Nat) (t : Int) (hp : p ≤ 64) (w : World) : Calls Try.prog 25 #[.agg #[.int .i64 (p : Int), .int .i64 t]] w fun e w' => e = .returned (.int .i64 ((Geo.se p : Nat) : Int)) ∧ Below w.heap.size w w' := by
  have hb : Below w.heap.size w (w.alloc (.cells #[.int .i64 (p : Int), .int .i64 t] 23)) := (Below.refl _ _).alloc (Nat.le_refl _) _
  have ht := Two.new w 23 (p : Int) t
  have HB := Lib.hid hb
  have HI := Lib.hid (info_geo2 (p : Int) t)
  have hm : Geo.mp p ≤ 5 := by unfold Geo.mp; omega
  have hse : Geo.se p = 1 + Geo.mp p + p := rfl
  have HM := Lib.hid (fun W => rmaps p t hp W)
  generalize Geo.mp p = m at *
  generalize Geo.se p = s at *
  have q1 : (0 : Int) ≤ (m : Int) := by omega
  have q2 : (m : Int) ≤ 5 := by omega
  have q3 : (0 : Int) ≤ (p : Int) := by omega
  have q4 : (p : Int) ≤ 64 := by omega
  have HSE := Lib.hid hse
  clear hse hm
  clear hb
  go_enter Try.func25, Try.ntmps25
  go_wp2_with fail
  generalize w.alloc (.cells #[.int .i64 (p : Int), .int .i64 t] 23) = W0 at *
  have HT := Lib.hid ht
  clear ht
  refine wp_region_class (After W0) (by kernel_rfl) (by kernel_rfl) (After.drew W0) ?_
  repeat (first
    | go_big_quiet_skip
    | (go_big_quiet_want; first
      | (with_reducible refine quiet_load 23 (.tmp 1) rfl _ _ rfl [.int .i64 (p : Int), .int .i64 t] _ (fun w h => (HT.out.after h).range) Try.underlying23 rfl HI.out ?_; (simp only [Act.put, List.setIfInBounds_toArray, List.set_cons_zero, List.set_cons_succ]); go_big_quiet_on)
      | (with_reducible refine quiet_load1 3 (.tmp 6) rfl _ rfl .i64 Try.underlying3 _ (fun w h => (HT.out.after h).fst) ?_; (simp only [Act.put, List.setIfInBounds_toArray, List.set_cons_zero, List.set_cons_succ]); go_big_quiet_on)
      | (go_big_quiet_op; first
        | go_big_quiet_on
        | ((with_reducible refine ⟨_, fun _ _ => rfl, ?_⟩); go_big_quiet_on)
        | ((with_reducible refine ⟨_, fun _ _ => ⟨rfl, rfl⟩, ?_⟩); go_big_quiet_on)
        | ((with_reducible refine ⟨_, fun W hW => calls_after hW (HM.out W), ?_⟩); go_big_quiet_on))))
  refine wpQuiet_nil ?_
  intro W4 hW4
  go_wp2
  go_ret
  exact ⟨ret_int (by rw [HSE.out]; omega), HB.out.trans (hW4.mono HB.out.size)⟩
/-! the list of all blocks -/
def pvals (l : List (Nat × Nat)) : List Value := l.flatMap fun q => [.int .i64 (q.1 : Int), .int .i64 (q.2 : Int)]
theorem pvals_len (l : List (Nat × Nat)) : (pvals l).length = l.length * 2 := by
  induction l with
  | nil => rfl
  | cons x l ih => unfold pvals at *; rw [List.flatMap_cons, List.length_append, ih]; simp; omega
theorem pvals_app (l m : List (Nat × Nat)) : pvals (l ++ m) = pvals l ++ pvals m := by simp [pvals]
theorem pvals_at : ∀ (l : List (Nat × Nat)) (i : Nat) (x : Nat × Nat), l[i]? = some x → (pvals l)[i * 2]? = some (.int .i64 (x.1 : Int)) ∧ (pvals l)[i * 2 + 1]? = some (.int .i64 (x.2 : Int)) := by
  intro l
  induction l with
  | nil => intro i x h; cases h
  | cons y l ih =>
    intro i x h
    have e : pvals (y :: l) = .int .i64 (y.1 : Int) :: .int .i64 (y.2 : Int) :: pvals l := rfl
    rw [e]
    cases i with
    | zero => injection h with h; subst h; exact ⟨rfl, rfl⟩
    | succ i =>
      have := ih i x h
      rw [show (i + 1) * 2 = i * 2 + 2 by omega]
      exact this
/-- block g begins with these parts -/
def PRow (w : World) (g : Nat) (l : List (Nat × Nat)) : Prop := g < w.heap.size ∧ ∀ i x, l[i]? = some x → w.cell? ⟨g, i * 2, none⟩ = some (.int .i64 (x.1 : Int)) ∧ w.cell? ⟨g, i * 2 + 1, none⟩ = some (.int .i64 (x.2 : Int))
theorem PRow.below {w w' : World} {g : Nat} {l : List (Nat × Nat)} (h : PRow w g l) (hb : Below w.heap.size w w') : PRow w' g l :=
  ⟨Nat.lt_of_lt_of_le h.1 hb.size, fun i x hx => ⟨(hb.cell (p := ⟨g, i * 2, none⟩) h.1).trans (h.2 i x hx).1, (hb.cell (p := ⟨g, i * 2 + 1, none⟩) h.1).trans (h.2 i x hx).2⟩⟩
namespace Geo
def kinds (k n : Nat) : List (Nat × Nat) := (List.range n).map fun i => (k, i)
theorem kinds_succ (k n : Nat) : kinds k (n + 1) = kinds k n ++ [(k, n)] := by unfold kinds; rw [List.range_succ, List.map_append]; rfl
theorem kinds_len (k n : Nat) : (kinds k n).length = n := by simp [kinds]
def all (p t : Nat) : List (Nat × Nat) := (1, 0) :: (kinds 2 (ep p) ++ (kinds 3 (se p) ++ kinds 4 (t + 1)))
theorem all_len (p t : Nat) : (all p t).length = tot p t := by unfold all tot lv; simp only [List.length_cons, List.length_append, kinds_len]; omega
def cnt (l : List (Nat × Nat)) (k : Nat) : Nat := (l.filter fun q => q.1 == k).length
theorem cnt_app (l m : List (Nat × Nat)) (k : Nat) : cnt (l ++ m) k = cnt l k + cnt m k := by unfold cnt; rw [List.filter_append, List.length_append]
theorem cnt_kinds (k n j : Nat) : cnt (kinds k n) j = if k = j then n else 0 := by
  induction n with
  | zero => unfold kinds cnt; simp
  | succ n ih =>
    rw [kinds_succ, cnt_app, ih]
    unfold cnt
    by_cases h : k = j
    · simp [h]
    · simp [h]
theorem cnt_le (l : List (Nat × Nat)) (k : Nat) : cnt l k ≤ l.length := List.length_filter_le _ _
theorem cnt_all (p t : Nat) : cnt (all p t) 3 = se p ∧ cnt (all p t) 2 = ep p ∧ cnt (all p t) 4 = t + 1 := by
  have e : all p t = [(1, 0)] ++ (kinds 2 (ep p) ++ (kinds 3 (se p) ++ kinds 4 (t + 1))) := rfl
  rw [e]
  simp only [cnt_app, cnt_kinds]
  refine ⟨?_, ?_, ?_⟩ <;> simp [cnt]
end Geo
def AllPost (n : Nat) (l : List (Nat × Nat)) (w : World) (e : Ending) (w' : World) : Prop := ∃ g c, e = .returned (.slice (some ⟨g, 0, none⟩) n c) ∧ Below w.heap.size w w' ∧ PRow w' g l
def CntRel (W0 : World) (l : List (Nat × Nat)) (kind : Nat) (v5 v : Value) (wr : World) : Prop :=
  ∃ k : Nat, v = .int .i64 (k : Int) ∧ k ≤ l.length ∧ v5 = .int .i64 ((Geo.cnt (l.take k) kind : Nat) : Int) ∧ After W0 wr
theorem cnt_step {l : List (Nat × Nat)} {k kind : Nat} {x : Nat × Nat} (h : l[k]? = some x) : Geo.cnt (l.take (k + 1)) kind = Geo.cnt (l.take k) kind + if x.1 = kind then 1 else 0 := by
  have hk : k < l.length := (List.getElem?_eq_some_iff.mp h).1
  have hx : l[k] = x := (List.getElem?_eq_some_iff.mp h).2
  rw [List.take_succ_eq_append_getElem hk, Geo.cnt_app, hx]
  congr 1
  unfold Geo.cnt
  by_cases e : x.1 = kind
  · simp [e]
  · simp [e]
end Go.Proofs.Ytnalebocfbbpdaa
