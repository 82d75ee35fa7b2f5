/-
  What came in; PagesPlays, PagesChecks.
-/
import Derived.Test.YtooahpfeamobcaaDoorPgP
import Derived.Test.YtooahpfeamobcaaDoorOpenF
namespace Go.Proofs.YtooahpfeamobcaaDoor
open Go.RowKit Go Go.WideShapes Go.ChangeShapes Go.Deep
set_option linter.unusedVariables false
set_option linter.unusedSimpArgs false
set_option maxRecDepth 100000
/-- rows whose second and third numbers fit 64 bits -/
def Fit (l : List Pg) (n : Nat) : Prop := ∀ i, i < n → (pg l i).c ≤ 9223372036854775807 ∧ -9223372036854775808 ≤ (pg l i).r ∧ (pg l i).r ≤ 9223372036854775807
section
variable {H : Type} {enc : TypeId × Value → H} {w : World}
theorem rows5 {A : Option Addr} {n c : Nat} {fs : Array Field} (h1 : FieldsAt enc Tryd.prog w A n fs) (h2 : n ≤ c) (h3 : c ≤ maxLen) (h4 : A = none → c = 0) (hs : fs.size = 5)
    (f0 : (fs[0]?).map (·.type) = some 3) (f1 : (fs[1]?).map (·.type) = some 3) (f2 : (fs[2]?).map (·.type) = some 3) (f3 : (fs[3]?).map (·.type) = some 3) (f4 : (fs[4]?).map (·.type) = some 25) : ∃ l, PS w A n c l ∧ Fit l n := by
  obtain ⟨g0, e0, t0⟩ := Option.map_eq_some_iff.1 f0
  obtain ⟨g1, e1, t1⟩ := Option.map_eq_some_iff.1 f1
  obtain ⟨g2, e2, t2⟩ := Option.map_eq_some_iff.1 f2
  obtain ⟨g3, e3, t3⟩ := Option.map_eq_some_iff.1 f3
  obtain ⟨g4, e4, t4⟩ := Option.map_eq_some_iff.1 f4
  by_cases hn : 0 < n
  · obtain ⟨b, o, hA, hb, hf⟩ := h1 hn
    have key : ∀ i, ∃ q : Pg, i < n → PAt w b (o + i * 5) q ∧ q.c ≤ 9223372036854775807 ∧ -9223372036854775808 ≤ q.r ∧ q.r ≤ 9223372036854775807 := fun i => by
      by_cases hi : i < n
      · obtain ⟨v0, _, y0, c0, u0⟩ := hf i hi 0 _ e0
        obtain ⟨v1, _, y1, c1, u1⟩ := hf i hi 1 _ e1
        obtain ⟨v2, _, y2, c2, u2⟩ := hf i hi 2 _ e2
        obtain ⟨v3, _, y3, c3, u3⟩ := hf i hi 3 _ e3
        obtain ⟨v4, _, y4, c4, u4⟩ := hf i hi 4 _ e4
        rw [t0] at u0; rw [t1] at u1; rw [t2] at u2; rw [t3] at u3; rw [t4] at u4
        rw [hs] at c0 c1 c2 c3 c4
        obtain ⟨z0, q0, _, w0⟩ := DataW.trod_int Tryd.underlying3 u0
        obtain ⟨z1, q1, _, w1⟩ := DataW.trod_int Tryd.underlying3 u1
        obtain ⟨z2, q2, _, w2⟩ := DataW.trod_int Tryd.underlying3 u2
        obtain ⟨z3, q3, _, w3⟩ := DataW.trod_int Tryd.underlying3 u3
        obtain ⟨z4, q4, _, w4⟩ := DataW.trod_int Tryd.underlying25 u4
        injection q0 with q0; injection q1 with q1; injection q2 with q2; injection q3 with q3; injection q4 with q4
        subst q0 q1 q2 q3 q4
        exact ⟨⟨z0, z1, z2, z3, z4⟩, fun _ => ⟨⟨by simpa using c0, by rw [Nat.add_assoc]; exact c1, by rw [Nat.add_assoc]; exact c2, by rw [Nat.add_assoc]; exact c3, by rw [Nat.add_assoc]; exact c4⟩, (bounds_i64 w1).2, (bounds_i64 w2).1, (bounds_i64 w2).2⟩⟩
      · exact ⟨pz, fun q => absurd q hi⟩
    obtain ⟨f, hf⟩ := Classical.skolem.1 key
    have e : ∀ i, i < n → pg ((List.range n).map f) i = f i := fun i hi => by
      show ((List.range n).map f).getD i pz = f i
      rw [List.getD_eq_getElem?_getD, List.getElem?_map, List.getElem?_range hi]; rfl
    exact ⟨(List.range n).map f, ⟨by simp, h2, by unfold maxLen at h3; omega, h4, fun _ => ⟨b, o, hA, hb, fun i hi => by rw [e i hi]; exact (hf i hi).1⟩⟩, fun i hi => by rw [e i hi]; exact (hf i hi).2⟩
  · obtain rfl : n = 0 := by omega
    exact ⟨[], ⟨rfl, h2, by unfold maxLen at h3; omega, h4, fun q => absurd q hn⟩, fun i hi => absurd hi (Nat.not_lt_zero i)⟩
theorem pages_open {A : Option Addr} {n c : Nat} {d : DataW H} {p : List MemPlace} (h : DataW.Trod enc Tryd.prog w 0 (fun _ => true) true 22 (.slice A n c) d p) : ∃ l, PS w A n c l := by
  obtain ⟨h1, h2, h3, h4⟩ := fields_open Tryd.underlying22 Tryd.underlying27 (by kernel_rfl) (by kernel_rfl) (by decide) h
  obtain ⟨l, hl, _⟩ := rows5 h1 h2 h3 h4 rfl rfl rfl rfl rfl rfl
  exact ⟨l, hl⟩
end
theorem made_flat (n : Nat) : madeCells (Pg.val pz).cells (n * 5) = zrow n := by
  apply Array.toList_inj.mp
  unfold zrow
  rw [List.toList_toArray, ← rep_flat n]
  rfl
theorem make_row {E SL : TypeId} (kd : Kd E SL) (n : Nat) (hn : n ≤ 1000) (w : World) : (Instr.makeSlice SL (.int .i64 (n : Int)) (.int .i64 (n : Int))).run Tryd.prog w = .ok (.slice (some ⟨w.heap.size, 0, none⟩) n n) (w.alloc (.cells (zrow n) E)) := by
  obtain ⟨i, h0, h1, h2, h3⟩ := info_parts kd.info
  have hr := run_make (P := Tryd.prog) w SL E i _ kd.under h0 h1 .i64 .i64 n n (by omega) (Int.le_refl _) (by rw [h3]; omega) (by omega)
  rw [hr, h2, Int.toNat_natCast, made_flat]
theorem may_zeros (n : Nat) (hn : n ≤ 64) : mayL (List.replicate n pz) = true := by
  rw [mayL_iff]
  refine ⟨by rw [List.length_replicate]; exact hn, ?_, fitS_zeros n⟩
  rw [List.all_eq_true]
  intro x hx
  rw [(List.mem_replicate.1 hx).2]; rfl
/-- where the statement's pages stand: a slice that may be -/
def AtW (w : World) (B : Nat) (v b : Value) (W : World) : Prop := ∃ (l : List Pg) (A : Option Addr) (c : Nat), v = .slice A l.length c ∧ b = .bool true ∧ PS W A l.length c l ∧ mayL l = true ∧ Below B w W
end Go.Proofs.YtooahpfeamobcaaDoor
