/-
  Where a part stands: find.
-/
import Derived.Test.YtokekhiibbhamaaDoorGeoF
namespace Go.Proofs.YtokekhiibbhamaaDoor
open Go.RowKit Go.Shelf Go
set_option linter.unusedVariables false
set_option linter.unusedSimpArgs false
attribute [local go_sem] Oper.semAt_some
theorem blk_own {β : Type} (g : Nat) (cs : Array Value) (t : TypeId) (m : Nat × Nat) : Own (fun (_ : β) W => W.heap[g]? = some (.cells cs t m)) := fun s X Y row hs hg hrow =>
  (hg.block g (Array.getElem?_eq_some_iff.1 hs).1 (fun e' => by obtain ⟨o, ho, hc⟩ := hrow g e'.symm; rw [hs] at ho; injection ho with ho; subst ho; cases hc)).trans hs
abbrev IxP (l : List (Nat × Nat)) := { i : Nat // i < l.length }
/-- what a geometry has of each kind, as the program counts -/
structure GeoOK (p t : Int) (c1 c2 c3 c4 : Nat) : Prop where
  l1 : c1 ≤ 100
  l2 : c2 ≤ 100
  l3 : c3 ≤ 100
  l4 : c4 ≤ 100
  n1 : CountsTo p t 36 c1
  n2 : CountsTo p t 30 c2
  n3 : CountsTo p t 29 c3
  n4 : CountsTo p t 37 c4
theorem geo_yes (p t : Nat) (hp : p ≤ 64) (ht24 : t ≤ 24) (h : Geo.May p t) : GeoOK p t 1 (Geo.ep p) (Geo.se p) (1 + t) := by
  have e1 : Geo.se p ≤ 100 := by unfold Geo.se Geo.mp; omega
  have e2 : Geo.ep p ≤ 100 := by unfold Geo.ep; omega
  exact ⟨by omega, e2, e1, by omega,
    fun W => count_yes _ _ _ _ (enters_of Tryd.func36 (by kernel_rfl) rfl) (fun W => plan_supers _ _ W) h W,
    fun W => count_yes _ _ _ _ (enters_of Tryd.func30 (by kernel_rfl) rfl) (fun W => plan_epochs p _ hp W) h W,
    fun W => count_yes _ _ _ _ (enters_of Tryd.func29 (by kernel_rfl) rfl) (fun W => plan_sealed p _ hp W) h W,
    fun W => count_yes _ _ _ _ (enters_of Tryd.func37 (by kernel_rfl) rfl) (fun W => plan_logs _ t ht24 W) h W⟩
theorem geo_no (p t : Int) (h : ¬ Geo.May p t) : GeoOK p t 0 0 0 0 :=
  ⟨by omega, by omega, by omega, by omega, fun W => count_no _ _ _ h W, fun W => count_no _ _ _ h W, fun W => count_no _ _ _ h W, fun W => count_no _ _ _ h W⟩
theorem Geo.lst_all (p t : Nat) : Geo.lst 1 (Geo.ep p) (Geo.se p) (1 + t) = Geo.all p t := by
  unfold Geo.lst Geo.all; rw [Nat.add_comm 1 t]; rfl
theorem walk1_stops (n0 : Nat) (hn0 : 1 ≤ n0) (bg : Nat) (p t : Int) (c1 c2 c3 c4 : Nat) (h : GeoOK p t c1 c2 c3 c4) (w : World) (hK : KindsIs w) (hG : Two w bg 23 p t) :
    SeqStopsK Fence.wide n0 Tryd.prog 33 #[.pointer (some ⟨bg, 0, none⟩)] (fun x : IxP (Geo.lst c1 c2 c3 c4) => encP (Geo.lst c1 c2 c3 c4) x.1) CK
      (fun xs => xs.map (·.1) = upto (Geo.lst c1 c2 c3 c4).length) (fun pre => ∃ k, k ≤ (Geo.lst c1 c2 c3 c4).length ∧ pre.map (·.1) = upto k) (Geo.lst c1 c2 c3 c4).length w := fun l J Jx W hW hJ hJx hY h0 => by
  refine (walk1_in n0 hn0 l bg p t c1 c2 c3 c4 h.l1 h.l2 h.l3 h.l4 h.n1 h.n2 h.n3 h.n4 (fun pre W => ∃ q : List (IxP (Geo.lst c1 c2 c3 c4)), q.map (·.1) = pre ∧ J q W) (fun pre W => ∃ q : List (IxP (Geo.lst c1 c2 c3 c4)), q.map (·.1) = pre ∧ Jx q W)
    (fun pre x W1 hx ⟨q, hq, hj⟩ hlt => ?_) W ?_ (hK.ck (CK.below hW)) (hG.ck (CK.below hW)) ⟨[], rfl, h0⟩).mono ?_
  · obtain ⟨fn, tmps, assign, body, hy, hR⟩ := hY q ⟨x, hx⟩ W1 hj (by rw [← hq] at hlt; simpa using hlt)
    refine ⟨fn, tmps, assign, body, hy, hR.mono fun en W' h => ?_⟩
    rcases h with ⟨he, h2, h3⟩ | ⟨he, h2⟩
    · exact .inl ⟨he, ⟨q ++ [⟨x, hx⟩], by rw [List.map_append, hq]; rfl, h2⟩, h3⟩
    · exact .inr ⟨he, ⟨q ++ [⟨x, hx⟩], by rw [List.map_append, hq]; rfl, h2⟩⟩
  · rintro s A C row ⟨q, hq, hj⟩ hg hr
    exact ⟨q, hq, hJ q A C row hj hg hr⟩
  · rintro en W' ⟨hv, ⟨ys, hys, q, hq, hj⟩ | ⟨pre, ⟨k, hk, hpre⟩, q, hq, hj⟩⟩
    · exact ⟨hv, .inl ⟨q, by show q.map _ = _; rw [hq, hys], hj⟩⟩
    · exact ⟨hv, .inr ⟨q, ⟨k, hk, by rw [hq, hpre]⟩, hj⟩⟩
/-- the number of the last one -/
def lastN {l : List (Nat × Nat)} (pre : List (IxP l)) : Int := match pre.getLast? with | some x => (x.1 : Int) | none => 0
theorem lastN_snoc {l : List (Nat × Nat)} (pre : List (IxP l)) (x : IxP l) : lastN (pre ++ [x]) = (x.1 : Int) := by unfold lastN; rw [List.getLast?_concat]
theorem upto_snoc {l : List (Nat × Nat)} {pre : List (IxP l)} {x : IxP l} {k : Nat} (h : (pre ++ [x]).map (·.1) = upto k) : pre.map (·.1) = upto x.1 ∧ k = x.1 + 1 := by
  cases k with
  | zero => exfalso; have := congrArg List.length h; simp [upto] at this
  | succ k =>
    rw [upto_succ, List.map_append] at h
    obtain ⟨h1, h2⟩ := List.append_inj' h rfl
    have h3 : x.1 = k := by simpa using h2
    rw [h3]; exact ⟨h1, rfl⟩
def Missed (a b : Int) (l : List (Nat × Nat)) (pre : List (IxP l)) : Prop := ∀ x ∈ pre, ¬ Geo.hit a b (l.getD x.1 (0, 0))
def HitLast (a b : Int) (l : List (Nat × Nat)) (pre : List (IxP l)) : Prop := ∃ pr x, pre = pr ++ [x] ∧ Missed a b l pr ∧ Geo.hit a b (l.getD x.1 (0, 0))
theorem Missed.snoc {a b : Int} {l : List (Nat × Nat)} {pre : List (IxP l)} {x : IxP l} (h : Missed a b l pre) (hx : ¬ Geo.hit a b (l.getD x.1 (0, 0))) : Missed a b l (pre ++ [x]) := fun y hy =>
  (List.mem_append.1 hy).elim (h y) (fun e => by rw [List.mem_singleton.mp e]; exact hx)
theorem Missed.at0 {a b : Int} {l : List (Nat × Nat)} {pre : List (IxP l)} (h : Missed a b l pre) (hall : pre.map (·.1) = upto l.length) : Geo.at0 l a b = -1 := Geo.at0_none fun i hi => by
  have hm : i ∈ pre.map (·.1) := by rw [hall]; unfold upto; exact List.mem_range.mpr hi
  obtain ⟨x, hx, rfl⟩ := List.mem_map.mp hm
  exact h x hx
theorem HitLast.at0 {a b : Int} {l : List (Nat × Nat)} {pre : List (IxP l)} (h : HitLast a b l pre) {k : Nat} (hall : pre.map (·.1) = upto k) : Geo.at0 l a b = lastN pre := by
  obtain ⟨pr, x, rfl, h1, h2⟩ := h
  obtain ⟨h3, h4⟩ := upto_snoc hall
  rw [lastN_snoc]
  refine Geo.at0_first x.2 h2 fun i hi => ?_
  have hm : i ∈ pr.map (·.1) := by rw [h3]; unfold upto; exact List.mem_range.mpr hi
  obtain ⟨y, hy, rfl⟩ := List.mem_map.mp hm
  exact h1 y hy
set_option maxRecDepth 100000 in
set_option maxHeartbeats 2000000 in
theorem find_any (p t a b : Int) (c1 c2 c3 c4 : Nat) (hgo : GeoOK p t c1 c2 c3 c4) (w : World) (hK : KindsIs w) :
    Calls Tryd.prog 16 #[.agg #[.int .i64 p, .int .i64 t], .agg #[.int .i64 a, .int .i64 b]] w fun e w' => e = .returned (.int .i64 (Geo.at0 (Geo.lst c1 c2 c3 c4) a b)) ∧ Below w.heap.size w w' := by
  refine (callsIn_wide (n := 6)).1 ?_
  have f1 : Fence.wide.fn 25 := trivial
  refine callsIn_of_wp_marks Tryd.func16 rfl trivial ?_ rfl
  simp only [Tryd.ntmps16, List.size_toArray, List.length_cons, List.length_nil, Nat.reduceAdd, Nat.reduceSub, Array.replicate_succ, Array.replicate_zero, List.push_toArray, List.append_toArray, List.nil_append, List.cons_append]
  have hw0 : ∃ W0, W0 = ((((w.alloc (.cells #[.int .i64 p, .int .i64 t] 23)).alloc (.cells #[.int .i64 a, .int .i64 b] 32)).alloc (.cells #[.int .i64 0] 3)).alloc (.cells #[.int .i64 p, .int .i64 t] 23)) := ⟨_, rfl⟩
  obtain ⟨W0, hW0⟩ := hw0
  have hbw : Below w.heap.size w W0 := by
    rw [hW0]
    exact ((((Below.refl _ _).alloc (Nat.le_refl _) _).alloc (by simp) _).alloc (by simp; omega) _).alloc (by simp; omega) _
  have hgeo : Two W0 (w.heap.size + 1 + 1 + 1) 23 p t := by
    rw [hW0]
    have h := Two.new (((w.alloc (.cells #[.int .i64 p, .int .i64 t] 23)).alloc (.cells #[.int .i64 a, .int .i64 b] 32)).alloc (.cells #[.int .i64 0] 3)) 23 p t
    simpa using h
  have hwant : Two W0 (w.heap.size + 1) 32 a b := by
    rw [hW0]
    have h := Two.new (w.alloc (.cells #[.int .i64 p, .int .i64 t] 23)) 32 a b
    simp only [World.size_alloc] at h
    exact blk_alloc (blk_alloc h _) _
  have hres : Boxed W0 (w.heap.size + 1 + 1) 3 (.int .i64 0) := by
    rw [hW0]
    have h := Boxed.new ((w.alloc (.cells #[.int .i64 p, .int .i64 t] 23)).alloc (.cells #[.int .i64 a, .int .i64 b] 32)) 3 (.int .i64 0)
    simp only [World.size_alloc] at h
    exact h.alloc _
  have hK0 := hK.ck (CK.below hbw)
  have hsz : W0.heap.size = w.heap.size + 4 := by rw [hW0]; simp
  gi_wp2_with (gi_at_call 25; refine (callsIn_wide.2 (walk_make _ _ _)).mono ?_; rintro en w1 ⟨rfl, rfl⟩)
  rw [← hW0]
  clear hW0
  generalize hobg : w.heap.size = ob at *
  have hst := walk1_stops 5 (by omega) (ob + 1 + 1 + 1) p t c1 c2 c3 c4 hgo W0 hK0 hgeo
  generalize hal : Geo.lst c1 c2 c3 c4 = al at *
  refine wpIn_rangeFunc_ownH rfl (by omega) (gf := 33) (lb := #[.pointer (some ⟨ob + 1 + 1 + 1, 0, none⟩)]) rfl trivial (enters_of Tryd.func33 (by kernel_rfl) rfl)
    hst (fun h k => h.trans k) (fun W l o o' _ hl hc _ => ck_put W l o o' hl hc) (Below.refl _ _) (fun _ => rfl)
    (fun pre W => ((Missed a b al pre ∧ Boxed W (ob + 1 + 1) 3 (.int .i64 0)) ∧ Two W (ob + 1) 32 a b) ∧ Below ob w W)
    (fun c pre W => ((c = .ret ∧ HitLast a b al pre) ∧ Boxed W (ob + 1 + 1) 3 (.int .i64 (lastN pre))) ∧ Below ob w W)
    (OwnFrom.and (OwnFrom.and (OwnFrom.and (ownFrom_pure _ _) (Own.from (boxed_own _ _ _) _)) (Own.from (blk_own _ _ _ _) _)) (ownFrom_below (by omega) (by omega)))
    (fun c => OwnFrom.and (OwnFrom.and (ownFrom_pure _ _) (Own.from (boxed_own _ _ _) _)) (ownFrom_below (by omega) (by omega)))
    ⟨⟨⟨(fun x hx => by cases hx), hres⟩, hwant⟩, hbw⟩
    (fun x a' W => ∃ Bx, Two W Bx 32 ((al.getD x.1 (0, 0)).1 : Int) ((al.getD x.1 (0, 0)).2 : Int) ∧ a' = { tmps := #[.agg #[.int .i64 p, .int .i64 t], .agg #[.int .i64 a, .int .i64 b], .pointer (some ⟨ob, 0, none⟩), .pointer (some ⟨ob + 1, 0, none⟩), .pointer (some ⟨ob + 1 + 1, 0, none⟩), .int .i64 (x.1 : Int), .pointer (some ⟨Bx, 0, none⟩), .agg #[.int .i64 p, .int .i64 t], .func (Fn.func 33) #[] #[.pointer (some ⟨ob + 1 + 1 + 1, 0, none⟩)], .int .i64 (x.1 : Int), .agg #[.int .i64 ((al.getD x.1 (0, 0)).1 : Int), .int .i64 ((al.getD x.1 (0, 0)).2 : Int)], undef, undef, undef, undef], defers := [] })
    (fun x a' _ X Y row hs hg hr => by obtain ⟨Bx, h2, h3⟩ := hs; exact ⟨Bx, blk_own (β := Unit) Bx _ _ _ () X Y row h2 hg (fun r e => (hr r e).2), h3⟩)
    ?assign ?body ?done ?stop
  case assign =>
    rintro l pre x W K ⟨⟨⟨hmi, hbR⟩, hbW⟩, hBW⟩ hK
    gi_wp2
    have hsW := hBW.size
    exact hK _ _ ((KeepsOthers.alloc _ _).from _) (CK.below ((Below.refl _ _).alloc (Nat.le_refl _) _)) ⟨⟨⟨hmi, hbR.alloc _⟩, blk_alloc hbW _⟩, hBW.alloc (by omega) _⟩ ⟨W.heap.size, Two.new W _ _ _, rfl⟩
  case body =>
    rintro l pre x a' W hl ⟨r, hr⟩ ⟨⟨⟨hmi, hbR⟩, hbW⟩, hBW⟩ ⟨Bx, hbX, rfl⟩ hlt
    have cR := hbR.cell
    have fR := hbR.frozen
    have w0 := hbW.fst
    have w1 := hbW.snd
    obtain ⟨q, hq⟩ : ∃ q, q = al.getD x.1 (0, 0) := ⟨_, rfl⟩
    rw [← hq] at hbX ⊢
    have x0 := hbX.fst
    have x1 := hbX.snd
    have HQ := Lib.hid hq
    have HMI := Lib.hid hmi
    have HBR := Lib.hid hbR
    have HBW := Lib.hid hbW
    have HBB := Lib.hid hBW
    have hsW := hBW.size
    have HSZ : Hid (ob ≤ W.heap.size) := Lib.hid (by omega)
    obtain ⟨q1, q2⟩ := q
    by_cases hh : Geo.hit a b (q1, q2)
    · have hcmp : ∀ w, (binOp .eql 32 (.agg #[.int .i64 (q1 : Int), .int .i64 (q2 : Int)]) (.agg #[.int .i64 a, .int .i64 b])).run Tryd.prog w = .ok (.bool true) w := fun w => by
        obtain ⟨e1, e2⟩ := hh
        rw [gpart_eq, show ((q1 : Int) == a) = true from beq_iff_eq.mpr e1, show ((q2 : Int) == b) = true from beq_iff_eq.mpr e2]; rfl
      have HH := Lib.hid hh
      clear hq hmi hbR hbW hBW hbX hl hr hh hlt hsW
      gi_wp2
      exact ⟨(KeepsOthers.setCell _ _ _).from _, ⟨⟨rfl, pre, x, rfl, HMI.out, by rw [← HQ.out]; exact HH.out⟩, by rw [lastN_snoc]; exact HBR.out.set _⟩, HBB.out.setCell (p := ⟨ob + 1 + 1, 0, none⟩) (by simp; omega) _⟩
    · have hcmp : ∀ w, (binOp .eql 32 (.agg #[.int .i64 (q1 : Int), .int .i64 (q2 : Int)]) (.agg #[.int .i64 a, .int .i64 b])).run Tryd.prog w = .ok (.bool false) w := fun w => by
        rw [gpart_eq]
        congr 2
        rw [Bool.and_eq_false_iff]
        by_cases e : (q1 : Int) = a
        · exact .inr (beq_eq_false_iff_ne.mpr fun e2 => hh ⟨e, e2⟩)
        · exact .inl (beq_eq_false_iff_ne.mpr e)
      have HH := Lib.hid hh
      clear hq hmi hbR hbW hBW hbX hl hr hh hlt hsW
      gi_wp2
      exact ⟨KeepsFrom.refl _ _, CK.refl _, ⟨⟨HMI.out.snoc (by rw [← HQ.out]; exact HH.out), HBR.out⟩, HBW.out⟩, HBB.out⟩
  case done =>
    rintro D xs W hD hS ⟨⟨⟨hmi, hbR⟩, hbW⟩, hBW⟩ hK
    have cR := hbR.cell
    have fR := hbR.frozen
    have hres := hmi.at0 hS
    have hsW := hBW.size
    gi_wp2
    have hK' := (KeepsOthers.setCell W ⟨ob + 1 + 1, 0, none⟩ (.int .i64 (-1))).same D _ hK rfl
    refine ⟨by simp, .inl ⟨_, _, rfl, run_takeDeferred hK', ?_⟩⟩
    have hc5 := cell_kept (hbR.set (.int .i64 (-1))).cell (grownBy_putObj' _ D (.deferred none)) (fun r e => by cases e; exact ⟨_, hK', rfl⟩)
    refine ⟨.int .i64 (-1), ?_, (by first | rfl | rw [hal, hres]), (hBW.setCell (p := ⟨ob + 1 + 1, 0, none⟩) (by simp; omega) _).trans ((Below.refl ob _).grown (grownBy_putObj' _ D _) (by simp; omega) (fun k e => by injection e with e; omega))⟩
    simp [results, Tryd.f16, go_sem, hc5]
  case stop =>
    rintro D c pre W hD ⟨k, hk, hpre⟩ ⟨⟨⟨rfl, hhit⟩, hbR⟩, hBW⟩ hK
    have hres := hhit.at0 hpre
    have hsW := hBW.size
    gi_wp2
    refine ⟨by simp, .inl ⟨_, _, rfl, run_takeDeferred hK, ?_⟩⟩
    have hc5 := cell_kept hbR.cell (grownBy_putObj' _ D (.deferred none)) (fun r e => by cases e; exact ⟨_, hK, rfl⟩)
    refine ⟨.int .i64 (lastN pre), ?_, (by first | rfl | rw [hal, hres]), hBW.trans ((Below.refl ob W).grown (grownBy_putObj' W D _) (by omega) (fun k e => by injection e with e; omega))⟩
    simp [results, Tryd.f16, go_sem, hc5]
end Go.Proofs.YtokekhiibbhamaaDoor
