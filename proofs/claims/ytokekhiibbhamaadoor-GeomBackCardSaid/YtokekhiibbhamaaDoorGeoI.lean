/-
  What stands in a block: Where.
-/
import Derived.Test.YtokekhiibbhamaaDoorGeoG
namespace Go.Proofs.YtokekhiibbhamaaDoor
open Go.RowKit Go.Shelf Go
set_option linter.unusedVariables false
set_option linter.unusedSimpArgs false
attribute [local go_sem] Oper.semAt_some
def NotYet (n : Int) (l : List (Nat × Nat)) (pre : List (IxP l)) : Prop := ∀ x ∈ pre, (x.1 : Int) ≠ n
def There (n : Int) (l : List (Nat × Nat)) (pre : List (IxP l)) : Prop := ∃ pr x, pre = pr ++ [x] ∧ (x.1 : Int) = n
theorem NotYet.snoc {n : Int} {l : List (Nat × Nat)} {pre : List (IxP l)} {x : IxP l} (h : NotYet n l pre) (hx : (x.1 : Int) ≠ n) : NotYet n l (pre ++ [x]) := fun y hy =>
  (List.mem_append.1 hy).elim (h y) (fun e => by rw [List.mem_singleton.mp e]; exact hx)
/-- what stands in block n of a list: nothing, if there is no such block -/
def partAt (l : List (Nat × Nat)) (n : Int) : Nat × Nat := if 0 ≤ n then l.getD n.toNat (0, 0) else (0, 0)
theorem partAt_in (l : List (Nat × Nat)) (n : Nat) : partAt l (n : Int) = l.getD n (0, 0) := by unfold partAt; rw [if_pos (by omega)]; rfl
theorem NotYet.part {n : Int} {l : List (Nat × Nat)} {pre : List (IxP l)} (h : NotYet n l pre) (hall : pre.map (·.1) = upto l.length) : partAt l n = (0, 0) := by
  by_cases hn : 0 ≤ n
  · obtain ⟨k, rfl⟩ : ∃ k : Nat, n = (k : Int) := ⟨n.toNat, by omega⟩
    rw [partAt_in]
    by_cases hk : k < l.length
    · have hm : k ∈ pre.map (·.1) := by rw [hall]; unfold upto; exact List.mem_range.mpr hk
      obtain ⟨x, hx, rfl⟩ := List.mem_map.mp hm
      exact absurd rfl (h x hx)
    · rw [List.getD_eq_getElem?_getD, List.getElem?_eq_none (by omega)]; rfl
  · unfold partAt; rw [if_neg hn]
theorem There.part {n : Int} {l : List (Nat × Nat)} {pre : List (IxP l)} (h : There n l pre) : n = lastN pre ∧ 0 ≤ n := by
  obtain ⟨pr, x, rfl, rfl⟩ := h
  rw [lastN_snoc]
  exact ⟨rfl, by omega⟩
abbrev pv (q : Nat × Nat) : Value := .agg #[.int .i64 (q.1 : Int), .int .i64 (q.2 : Int)]
theorem setCell_blk {W : World} {g : Nat} {cs : Array Value} {t : TypeId} {m : Nat × Nat} (h : W.heap[g]? = some (.cells cs t m)) (off : Nat) (v : Value) : (W.setCell ⟨g, off, none⟩ v).heap[g]? = some (.cells (cs.setIfInBounds off v) t m) := by
  obtain ⟨hlt, hk⟩ := Array.getElem?_eq_some_iff.1 h
  show (W.heap.modify g _)[g]? = _
  rw [Array.getElem?_eq_getElem (by rw [Array.size_modify]; exact hlt), Array.getElem_modify_self, hk]
  rfl
theorem Two.set2 {W : World} {g : Nat} {t : TypeId} {x y : Int} (h : Two W g t x y) (u v : Int) : Two ((W.setCell ⟨g, 0, none⟩ (.int .i64 u)).setCell ⟨g, 1, none⟩ (.int .i64 v)) g t u v :=
  setCell_blk (setCell_blk h 0 _) 1 _
theorem info_gpart (x y : Int) : (Tryd.prog.info? 32).map (·.size) = some (#[Value.int .i64 x, Value.int .i64 y] : Array Value).size := by rw [show (#[Value.int .i64 x, Value.int .i64 y] : Array Value).size = 2 from rfl]; kernel_rfl
set_option maxRecDepth 100000 in
set_option maxHeartbeats 2000000 in
theorem where_any (p t n : Int) (c1 c2 c3 c4 : Nat) (hgo : GeoOK p t c1 c2 c3 c4) (w : World) (hK : KindsIs w) :
    Calls Tryd.prog 14 #[.agg #[.int .i64 p, .int .i64 t], .int .i64 n] w fun e w' => e = .returned (pv (partAt (Geo.lst c1 c2 c3 c4) n)) ∧ Below w.heap.size w w' := by
  refine (callsIn_wide (n := 6)).1 ?_
  have f1 : Fence.wide.fn 25 := trivial
  refine callsIn_of_wp_marks Tryd.func14 rfl trivial ?_ rfl
  simp only [Tryd.ntmps14, List.size_toArray, List.length_cons, List.length_nil, Nat.reduceAdd, Nat.reduceSub, Array.replicate_succ, Array.replicate_zero, List.push_toArray, List.append_toArray, List.nil_append, List.cons_append]
  have hw0 : ∃ W0, W0 = ((((w.alloc (.cells #[.int .i64 p, .int .i64 t] 23)).alloc (.cells #[.int .i64 n] 3)).alloc (.cells #[.int .i64 0, .int .i64 0] 32)).alloc (.cells #[.int .i64 p, .int .i64 t] 23)) := ⟨_, rfl⟩
  obtain ⟨W0, hW0⟩ := hw0
  have hbw : Below w.heap.size w W0 := by
    rw [hW0]
    exact ((((Below.refl _ _).alloc (Nat.le_refl _) _).alloc (by simp) _).alloc (by simp; omega) _).alloc (by simp; omega) _
  have hgeo : Two W0 (w.heap.size + 1 + 1 + 1) 23 p t := by
    rw [hW0]
    have h := Two.new (((w.alloc (.cells #[.int .i64 p, .int .i64 t] 23)).alloc (.cells #[.int .i64 n] 3)).alloc (.cells #[.int .i64 0, .int .i64 0] 32)) 23 p t
    simpa using h
  have hwant : Boxed W0 (w.heap.size + 1) 3 (.int .i64 n) := by
    rw [hW0]
    have h := Boxed.new (w.alloc (.cells #[.int .i64 p, .int .i64 t] 23)) 3 (.int .i64 n)
    simp only [World.size_alloc] at h
    exact (h.alloc _).alloc _
  have hres : Two W0 (w.heap.size + 1 + 1) 32 0 0 := by
    rw [hW0]
    have h := Two.new ((w.alloc (.cells #[.int .i64 p, .int .i64 t] 23)).alloc (.cells #[.int .i64 n] 3)) 32 0 0
    simp only [World.size_alloc] at h
    exact blk_alloc h _
  have hK0 := hK.ck (CK.below hbw)
  have hsz : W0.heap.size = w.heap.size + 4 := by rw [hW0]; simp
  gi_wp2_with (gi_at_call 25; refine (callsIn_wide.2 (walk_make _ _ _)).mono ?_; rintro en w1 ⟨rfl, rfl⟩)
  rw [← hW0]
  clear hW0
  generalize hobg : w.heap.size = ob at *
  have hst := walk1_stops 5 (by omega) (ob + 1 + 1 + 1) p t c1 c2 c3 c4 hgo W0 hK0 hgeo
  generalize hal : Geo.lst c1 c2 c3 c4 = al at *
  refine wpIn_rangeFunc_ownH rfl (by omega) (gf := 33) (lb := #[.pointer (some ⟨ob + 1 + 1 + 1, 0, none⟩)]) rfl trivial (enters_of Tryd.func33 (by kernel_rfl) rfl)
    hst (fun h k => h.trans k) (fun W l o o' _ hl hc _ => ck_put W l o o' hl hc) (Below.refl _ _) (fun _ => rfl)
    (fun pre W => ((NotYet n al pre ∧ Boxed W (ob + 1) 3 (.int .i64 n)) ∧ Two W (ob + 1 + 1) 32 0 0) ∧ Below ob w W)
    (fun c pre W => ((c = .ret ∧ There n al pre) ∧ Two W (ob + 1 + 1) 32 ((al.getD n.toNat (0, 0)).1 : Int) ((al.getD n.toNat (0, 0)).2 : Int)) ∧ Below ob w W)
    (OwnFrom.and (OwnFrom.and (OwnFrom.and (ownFrom_pure _ _) (Own.from (boxed_own _ _ _) _)) (Own.from (blk_own _ _ _ _) _)) (ownFrom_below (by omega) (by omega)))
    (fun c => OwnFrom.and (OwnFrom.and (ownFrom_pure _ _) (Own.from (blk_own _ _ _ _) _)) (ownFrom_below (by omega) (by omega)))
    ⟨⟨⟨(fun x hx => by cases hx), hwant⟩, hres⟩, hbw⟩
    (fun x a' W => ∃ Bx, Two W Bx 32 ((al.getD x.1 (0, 0)).1 : Int) ((al.getD x.1 (0, 0)).2 : Int) ∧ a' = { tmps := #[.agg #[.int .i64 p, .int .i64 t], .int .i64 n, .pointer (some ⟨ob, 0, none⟩), .pointer (some ⟨ob + 1, 0, none⟩), .pointer (some ⟨ob + 1 + 1, 0, none⟩), .int .i64 (x.1 : Int), .pointer (some ⟨Bx, 0, none⟩), .agg #[.int .i64 p, .int .i64 t], .func (Fn.func 33) #[] #[.pointer (some ⟨ob + 1 + 1 + 1, 0, none⟩)], .int .i64 (x.1 : Int), .agg #[.int .i64 ((al.getD x.1 (0, 0)).1 : Int), .int .i64 ((al.getD x.1 (0, 0)).2 : Int)], undef, undef, undef, undef, undef], defers := [] })
    (fun x a' _ X Y row hs hg hr => by obtain ⟨Bx, h2, h3⟩ := hs; exact ⟨Bx, blk_own (β := Unit) Bx _ _ _ () X Y row h2 hg (fun r e => (hr r e).2), h3⟩)
    ?assign ?body ?done ?stop
  case assign =>
    rintro l pre x W K ⟨⟨⟨hmi, hbR⟩, hbW⟩, hBW⟩ hK
    gi_wp2
    have hsW := hBW.size
    exact hK _ _ ((KeepsOthers.alloc _ _).from _) (CK.below ((Below.refl _ _).alloc (Nat.le_refl _) _)) ⟨⟨⟨hmi, hbR.alloc _⟩, blk_alloc hbW _⟩, hBW.alloc (by omega) _⟩ ⟨W.heap.size, Two.new W _ _ _, rfl⟩
  case body =>
    rintro l pre x a' W hl ⟨r, hr⟩ ⟨⟨⟨hmi, hbR⟩, hbW⟩, hBW⟩ ⟨Bx, hbX, rfl⟩ hlt
    have cR := hbR.cell
    have w0 := hbW.fst
    have w1 := hbW.snd
    have w2 : W.frozen? ⟨ob + 1 + 1, 0, none⟩ = false := by simp [World.frozen?, show W.heap[ob + 1 + 1]? = _ from hbW]
    have w3 : W.frozen? ⟨ob + 1 + 1, 1, none⟩ = false := by simp [World.frozen?, show W.heap[ob + 1 + 1]? = _ from hbW]
    obtain ⟨q, hq⟩ : ∃ q, q = al.getD x.1 (0, 0) := ⟨_, rfl⟩
    rw [← hq] at hbX ⊢
    have x0 := hbX.fst
    have x1 := hbX.snd
    have HQ := Lib.hid hq
    have HMI := Lib.hid hmi
    have HBR := Lib.hid hbR
    have HBW := Lib.hid hbW
    have HBB := Lib.hid hBW
    have hsW := hBW.size
    have HSZ : Hid (ob ≤ W.heap.size) := Lib.hid (by omega)
    obtain ⟨q1, q2⟩ := q
    by_cases hh : (x.1 : Int) = n
    · have hcmp : ((x.1 : Int) == n) = true := beq_iff_eq.mpr hh
      have HH := Lib.hid hh
      have HN : Hid (al.getD n.toNat (0, 0) = (q1, q2)) := Lib.hid (by rw [hq, ← hh]; rfl)
      clear hq hmi hbR hbW hBW hbX hl hr hh hlt hsW
      gi_wp2
      exact ⟨((KeepsOthers.setCell _ _ _).trans (KeepsOthers.setCell _ _ _)).from _, ⟨⟨rfl, pre, x, rfl, HH.out⟩, by have e : al[n.toNat]?.getD (0, 0) = (q1, q2) := HN.out; first | (rw [e]; exact HBW.out.set2 _ _) | (rw [HN.out]; exact HBW.out.set2 _ _)⟩, (HBB.out.setCell (p := ⟨ob + 1 + 1, 0, none⟩) (by simp; omega) _).setCell (p := ⟨ob + 1 + 1, 1, none⟩) (by simp; omega) _⟩
    · have hcmp : ((x.1 : Int) == n) = false := beq_eq_false_iff_ne.mpr hh
      have HH := Lib.hid hh
      clear hq hmi hbR hbW hBW hbX hl hr hh hlt hsW
      gi_wp2
      exact ⟨KeepsFrom.refl _ _, CK.refl _, ⟨⟨HMI.out.snoc HH.out, HBR.out⟩, HBW.out⟩, HBB.out⟩
  case done =>
    rintro D xs W hD hS ⟨⟨⟨hmi, hbR⟩, hbW⟩, hBW⟩ hK
    have w0 := hbW.fst
    have w1 := hbW.snd
    have w2 : W.frozen? ⟨ob + 1 + 1, 0, none⟩ = false := by simp [World.frozen?, show W.heap[ob + 1 + 1]? = _ from hbW]
    have w3 : W.frozen? ⟨ob + 1 + 1, 1, none⟩ = false := by simp [World.frozen?, show W.heap[ob + 1 + 1]? = _ from hbW]
    have hres := hmi.part hS
    have hsW := hBW.size
    have HR := Lib.hid hres
    clear hres
    gi_wp2
    have hK' := ((KeepsOthers.setCell W ⟨ob + 1 + 1, 0, none⟩ (.int .i64 0)).trans (KeepsOthers.setCell _ ⟨ob + 1 + 1, 1, none⟩ (.int .i64 0))).same D _ hK rfl
    refine ⟨by simp, .inl ⟨_, _, rfl, run_takeDeferred hK', ?_⟩⟩
    have hne : ob + 1 + 1 ≠ D := by omega
    have hb5 := (World.putObj_heap_other (o := Obj.deferred none) (w := (W.setCell ⟨ob + 1 + 1, 0, none⟩ (.int .i64 0)).setCell ⟨ob + 1 + 1, 1, none⟩ (.int .i64 0)) hne).trans (hbW.set2 0 0)
    refine ⟨pv (0, 0), results_cell_row rfl _ _ _ 32 _ (0, 0) _ rfl hb5 Tryd.underlying32 rfl (info_gpart 0 0), by first | rw [HR.out] | rw [hal, HR.out], ((hBW.setCell (p := ⟨ob + 1 + 1, 0, none⟩) (by simp; omega) _).setCell (p := ⟨ob + 1 + 1, 1, none⟩) (by simp; omega) _).trans ((Below.refl ob _).grown (grownBy_putObj' _ D _) (by simp; omega) (fun k e => by injection e with e; omega))⟩
  case stop =>
    rintro D c pre W hD ⟨k, hk, hpre⟩ ⟨⟨⟨rfl, hhit⟩, hbW⟩, hBW⟩ hK
    have h2 := hhit.part.2
    have hsW := hBW.size
    have HR : Hid (partAt al n = al.getD n.toNat (0, 0)) := Lib.hid (by unfold partAt; rw [if_pos h2])
    gi_wp2
    refine ⟨by simp, .inl ⟨_, _, rfl, run_takeDeferred hK, ?_⟩⟩
    have hne : ob + 1 + 1 ≠ D := by omega
    have hb5 : Two (W.putObj D (.deferred none)) (ob + 1 + 1) 32 ((al.getD n.toNat (0, 0)).1 : Int) ((al.getD n.toNat (0, 0)).2 : Int) := (World.putObj_heap_other hne).trans hbW
    exact ⟨pv (al.getD n.toNat (0, 0)), results_cell_row rfl _ _ _ 32 _ (0, 0) _ rfl hb5 Tryd.underlying32 rfl (info_gpart _ _), (by first | rw [HR.out] | rw [hal, HR.out]), hBW.trans ((Below.refl ob W).grown (grownBy_putObj' W D _) (by omega) (fun k e => by injection e with e; omega))⟩
end Go.Proofs.YtokekhiibbhamaaDoor
