/-
  Geometries: where a part stands; the document's At; the steps and the maker of a walk; PageAt, Bytes; two parts compared.
-/
import Derived.Test.YtokekhiibbhamaaDoorGeoD
import Derived.Test.YtokekhiibbhamaaDoorVal
import Derived.ChangeKeysEq
import Derived.Laws.StructEq
import Derived.Laws.CopyOwn
import Derived.Laws.Tables
namespace Go.Proofs.YtokekhiibbhamaaDoor
open Go.RowKit Go
set_option linter.unusedVariables false
set_option linter.unusedSimpArgs false
namespace Geo
/-- the part (a, b) is this one -/
def hit (a b : Int) (x : Nat × Nat) : Prop := (x.1 : Int) = a ∧ (x.2 : Int) = b
instance (a b : Int) (x : Nat × Nat) : Decidable (hit a b x) := by unfold hit; infer_instance
/-- where the part (a, b) stands in a list, counted from i: -1, if it does not -/
def atF (a b : Int) : List (Nat × Nat) → Nat → Int
  | [], _ => -1
  | x :: r, i => if hit a b x then (i : Int) else atF a b r (i + 1)
def at0 (l : List (Nat × Nat)) (a b : Int) : Int := atF a b l 0
theorem drop_at {l : List (Nat × Nat)} {k : Nat} {x : Nat × Nat} (h : l[k]? = some x) : l.drop k = x :: l.drop (k + 1) := by
  obtain ⟨hk, hx⟩ := List.getElem?_eq_some_iff.mp h
  rw [List.drop_eq_getElem_cons hk, hx]
theorem atF_hit {l : List (Nat × Nat)} {a b : Int} {k : Nat} {x : Nat × Nat} (h : l[k]? = some x) (hx : hit a b x) : atF a b (l.drop k) k = (k : Int) := by
  rw [drop_at h]; unfold atF; rw [if_pos hx]
theorem atF_miss {l : List (Nat × Nat)} {a b : Int} {k : Nat} {x : Nat × Nat} (h : l[k]? = some x) (hx : ¬ hit a b x) : atF a b (l.drop k) k = atF a b (l.drop (k + 1)) (k + 1) := by
  rw [drop_at h]; conv => lhs; unfold atF
  rw [if_neg hx]
theorem atF_end {l : List (Nat × Nat)} {a b : Int} {k i : Nat} (h : l.length ≤ k) : atF a b (l.drop k) i = -1 := by
  rw [List.drop_eq_nil_of_le h]; rfl
theorem at0_upto {l : List (Nat × Nat)} {a b : Int} : ∀ k, k ≤ l.length → (∀ i, i < k → ¬ hit a b (l.getD i (0, 0))) → at0 l a b = atF a b (l.drop k) k := by
  intro k
  induction k with
  | zero => intro _ _; rw [List.drop_zero]; rfl
  | succ k ih =>
    intro hk h
    have hx : l[k]? = some (l.getD k (0, 0)) := by rw [List.getD_eq_getElem?_getD, List.getElem?_eq_getElem (by omega)]; rfl
    rw [ih (by omega) (fun i hi => h i (by omega)), atF_miss hx (h k (by omega))]
theorem at0_none {l : List (Nat × Nat)} {a b : Int} (h : ∀ i, i < l.length → ¬ hit a b (l.getD i (0, 0))) : at0 l a b = -1 := by
  rw [at0_upto l.length (Nat.le_refl _) h, atF_end (Nat.le_refl _)]
theorem at0_first {l : List (Nat × Nat)} {a b : Int} {k : Nat} (hk : k < l.length) (hx : hit a b (l.getD k (0, 0))) (h : ∀ i, i < k → ¬ hit a b (l.getD i (0, 0))) : at0 l a b = (k : Int) := by
  rw [at0_upto k (by omega) h]
  exact atF_hit (by rw [List.getD_eq_getElem?_getD, List.getElem?_eq_getElem hk]; rfl) hx
end Geo
def AtRel (W0 : World) (l : List (Nat × Nat)) (a b : Int) (v : Value) (wr : World) : Prop :=
  ∃ k : Nat, v = .int .i64 (k : Int) ∧ k ≤ l.length ∧ Geo.at0 l a b = Geo.atF a b (l.drop k) k ∧ After W0 wr
set_option maxHeartbeats 1000000 in
set_option maxRecDepth 100000 in
theorem rat_yes (p t : Nat) (a b : Int) (hp : p ≤ 64) (ht24 : t ≤ 24) (h : Geo.May p t) (w : World) : Calls Tryd.prog 8 #[.agg #[.int .i64 (p : Int), .int .i64 (t : Int)], .int .i64 a, .int .i64 b] w fun e w' => e = .returned (.int .i64 (Geo.at0 (Geo.all p t) a b)) ∧ Below w.heap.size w w' := by
  have hb : Below w.heap.size w (w.alloc (.cells #[.int .i64 (p : Int), .int .i64 (t : Int)] 23)) := (Below.refl _ _).alloc (Nat.le_refl _) _
  have HB := Lib.hid hb
  have HR := Lib.hid (fun W => rall_yes p t hp ht24 h W)
  have hl := Geo.all_len p t
  have htot : Geo.tot p t ≤ 1000 := by unfold Geo.tot Geo.lv Geo.ep Geo.se Geo.mp; omega
  generalize Geo.all p t = l at *
  generalize Geo.tot p t = N at *
  have HL := Lib.hid hl
  clear hb h hl
  go_enter Tryd.func8, Tryd.ntmps8
  go_wp2_with fail
  generalize w.alloc (.cells #[.int .i64 (p : Int), .int .i64 (t : Int)] 23) = W0 at *
  refine (HR.out _).mono ?_
  rintro e w1 ⟨g, c, rfl, hb1, hpr⟩
  have HPR := Lib.hid hpr
  have HB1 := Lib.hid (HB.out.trans (hb1.mono HB.out.size))
  have HST : Hid (AtRel w1 l a b (.int .i64 0) w1) := Lib.hid ⟨0, rfl, Nat.zero_le _, rfl, After.refl _⟩
  clear hb1 hpr
  go_wp2
  go_loopw [12] (fun v wr => AtRel w1 l a b v wr) (fun v _ => (N - intOf v).toNat)
  case atStart => exact HST.out
  case round =>
    obtain ⟨k, rfl, hk, hat, ha⟩ := hrel
    have hln := HL.out
    by_cases hlt : k < l.length
    · obtain ⟨x, hx⟩ : ∃ x, l[k]? = some x := ⟨_, List.getElem?_eq_getElem hlt⟩
      have hpr := HPR.out.below ha
      have c0 := (hpr.2 k x hx).1
      have c1 := (hpr.2 k x hx).2
      have HA := Lib.hid ha
      have hkN : (k : Int) < (N : Int) := by omega
      have hN : (N : Int) ≤ 1000 := by omega
      have HX := Lib.hid hx
      have HAT := Lib.hid hat
      obtain ⟨xk, xn⟩ := x
      have HAN : ∀ (wx : World), Below wr.heap.size wr wx → After w1 wx := fun wx h => ha.next h
      have HAN' := Lib.hid HAN
      clear hpr ha HST hln hx hlt hk HAN hat
      by_cases hka : (xk : Int) = a
      · have hki : ((xk : Int) == a) = true := by rw [beq_iff_eq]; exact hka
        by_cases hkb : (xn : Int) = b
        · have hkj : ((xn : Int) == b) = true := by rw [beq_iff_eq]; exact hkb
          have HRES : Hid (Geo.at0 l a b = (k : Int)) := Lib.hid (by rw [HAT.out]; exact Geo.atF_hit HX.out ⟨hka, hkb⟩)
          clear hka hkb
          go_wp2
          go_ret
          exact ⟨by rw [HRES.out]; rfl, HB1.out.trans (Below.mono (HAN'.out _ ((Below.refl _ _).alloc (Nat.le_refl _) _)) HB1.out.size)⟩
        · have hkj : ((xn : Int) == b) = false := by rw [beq_eq_false_iff_ne]; exact hkb
          have HRES : Hid (Geo.at0 l a b = Geo.atF a b (l.drop (k + 1)) (k + 1)) := Lib.hid (by rw [HAT.out]; exact Geo.atF_miss HX.out (fun h => hkb h.2))
          clear hka hkb
          go_wp2
          go_roundw
          case rel => exact ⟨k + 1, by go_num, by have := HL.out; omega, HRES.out, HAN'.out _ ((Below.refl _ _).alloc (Nat.le_refl _) _)⟩
          case measure => simp [intOf]; omega
      · have hki : ((xk : Int) == a) = false := by rw [beq_eq_false_iff_ne]; exact hka
        have HRES : Hid (Geo.at0 l a b = Geo.atF a b (l.drop (k + 1)) (k + 1)) := Lib.hid (by rw [HAT.out]; exact Geo.atF_miss HX.out (fun h => hka h.1))
        clear hka
        go_wp2
        go_roundw
        case rel => exact ⟨k + 1, by go_num, by have := HL.out; omega, HRES.out, HAN'.out _ ((Below.refl _ _).alloc (Nat.le_refl _) _)⟩
        case measure => simp [intOf]; omega
    · have hkl : k = l.length := by omega
      have hkN : ¬ (k : Int) < (N : Int) := by omega
      have HA := Lib.hid ha
      have HRES : Hid (Geo.at0 l a b = -1) := Lib.hid (by rw [hat]; exact Geo.atF_end (by omega))
      clear ha hkl hlt HST hln hat
      go_wp2
      go_ret
      exact ⟨by rw [HRES.out]; rfl, HB1.out.trans (Below.mono HA.out HB1.out.size)⟩
theorem rat_no (p t a b : Int) (h : ¬ Geo.May p t) (w : World) : Calls Tryd.prog 8 #[.agg #[.int .i64 p, .int .i64 t], .int .i64 a, .int .i64 b] w fun e w' => e = .returned (.int .i64 (-1)) ∧ Below w.heap.size w w' := by
  have hb : Below w.heap.size w (w.alloc (.cells #[.int .i64 p, .int .i64 t] 23)) := (Below.refl _ _).alloc (Nat.le_refl _) _
  have HB := Lib.hid hb
  have HR := Lib.hid (fun W => rall_no p t h W)
  clear hb h
  go_enter Tryd.func8, Tryd.ntmps8
  go_wp2_with fail
  refine (HR.out _).mono ?_
  rintro e w1 ⟨rfl, hb1⟩
  have HB1 := Lib.hid (HB.out.trans (hb1.mono HB.out.size))
  clear hb1
  go_wp2
  go_loop [12] (fun v => v = .int .i64 0) (fun v => (0 - intOf v).toNat)
  case atStart => rfl
  case round =>
    obtain rfl := hrel
    go_wp2
    go_ret
    exact ⟨rfl, HB1.out⟩
/-! the program's -/
theorem walk_make (p t : Int) (w : World) : Calls Tryd.prog 25 #[.agg #[.int .i64 p, .int .i64 t]] w fun e w' =>
    e = .returned (.func (.func 33) #[] #[.pointer (some ⟨w.heap.size, 0, none⟩)]) ∧ w' = w.alloc (.cells #[.int .i64 p, .int .i64 t] 23) := by
  go_enter Tryd.func25, Tryd.ntmps25
  go_wp2
  go_ret
  exact ⟨rfl, rfl⟩
abbrev stepZ : Array Value := #[Value.nilFunc, Value.nilFunc, Value.nilFunc, Value.nilFunc, Value.nilFunc]
abbrev stepV : Array Value := #[Value.nilFunc, .func (Fn.func 36) #[] #[], .func (Fn.func 30) #[] #[], .func (Fn.func 29) #[] #[], .func (Fn.func 37) #[] #[]]
theorem info_steps : (Tryd.prog.info? 48).map (·.size) = some stepV.size := by rw [show stepV.size = 5 from rfl]; kernel_rfl
theorem steps_any (w : World) : Calls Tryd.prog 34 #[] w fun e w' => e = .returned (.agg stepV) ∧ Below w.heap.size w w' := by
  have hfx := setRow_heap (w.alloc (.cells stepZ 48)) w.heap.size stepZ stepV _ _ (heap_alloc_new w _)
  have hwb : Below w.heap.size w ((w.alloc (.cells stepZ 48)).setRow w.heap.size stepV) := below_setRow ((Below.refl _ _).alloc (Nat.le_refl _) _) (Nat.le_refl _) _
  have HFX := Lib.hid hfx
  have HWB := Lib.hid hwb
  have HI := Lib.hid info_steps
  have HZ : Hid (stepZ.size = stepV.size) := Lib.hid rfl
  have HO : Hid (stepV.all (·.oneCell') = true) := Lib.hid (by simp [Value.oneCell'])
  clear hfx hwb
  go_enter Tryd.func34, Tryd.ntmps34
  go_wp2_with (with_reducible refine wpList_store_row rfl 48 (.tmp 0) (.tmp 1) rfl w.heap.size stepV rfl rfl 48 stepZ (heap_alloc_new w _) HI.out HZ.out HO.out ?_)
  exact bodyPost_ret (v := .agg stepV) (results_cell_row rfl _ _ _ 48 _ (0, 0) _ rfl HFX.out Tryd.underlying48 rfl HI.out) rfl ⟨rfl, HWB.out⟩
theorem bytes_in (k : Int) (h : 0 ≤ k ∧ k < 65536) (w : World) : Calls Tryd.prog 12 #[.int .i64 k] w fun e w' => e = .returned (.int .i64 (256 * k)) ∧ w = w' := by
  obtain ⟨h1, h2⟩ := h
  have h3 : IntKind.i64.wrap (256 * k) = 256 * k := IntWalk.i64_in _ (by omega)
  go_enter Tryd.func12, Tryd.ntmps12
  go_wp2
  go_ret
  exact ⟨rfl, rfl⟩
theorem bytes_out (k : Int) (h : k < 0 ∨ 65536 ≤ k) (w : World) : Calls Tryd.prog 12 #[.int .i64 k] w fun e w' => e = .returned (.int .i64 0) ∧ w = w' := by
  rcases h with h | h
  · go_enter Tryd.func12, Tryd.ntmps12
    go_wp2
    go_ret
    exact ⟨rfl, rfl⟩
  · have h1 : ¬ k < 0 := by omega
    have h2 : 65535 < k := by omega
    go_enter Tryd.func12, Tryd.ntmps12
    go_wp2
    go_ret
    exact ⟨rfl, rfl⟩
/-! two parts -/
theorem fields_gpart : (Tryd.prog.fieldsOf 32).toList.map (fun f => (f.name, f.type, f.offset)) = [("Kind", 3, 0), ("K", 3, 1)] := by kernel_rfl
theorem gpart_eq (a b c d : Int) (w : World) : (binOp .eql 32 (.agg #[.int .i64 a, .int .i64 b]) (.agg #[.int .i64 c, .int .i64 d])).run Tryd.prog w = .ok (.bool (a == c && b == d)) w := by
  have hf := fields_gpart
  rw [run_eql_struct, show (10000 : Nat) = 9999 + 1 from rfl, run_equalIn_agg w 9999 32 _ _ (by kernel_rfl) (by kernel_rfl)]
  generalize hfs : (Tryd.prog.fieldsOf 32).toList = fs at *
  have e1 : ∀ x y : Int, (Op.equalIn 9999 3 (.int .i64 x) (.int .i64 y)).run Tryd.prog w = .ok (x == y) w := fun x y => by
    rw [show (9999 : Nat) = 9998 + 1 from rfl, run_equalIn_int w 9998 3 .i64 .i64 _ _ Tryd.underlying3]
  have p0 : ∀ x y : Int, (part 3 #[.int .i64 x, .int .i64 y] 0).run Tryd.prog w = .ok (.int .i64 x) w := fun x y => by kernel_rfl
  have p1 : ∀ x y : Int, (part 3 #[.int .i64 x, .int .i64 y] 1).run Tryd.prog w = .ok (.int .i64 y) w := fun x y => by kernel_rfl
  rcases fs with _ | ⟨f1, _ | ⟨f2, _ | ⟨f3, r⟩⟩⟩
  · simp at hf
  · simp at hf
  · simp only [List.map_cons, List.map_nil, List.cons.injEq, Prod.mk.injEq, and_true] at hf
    obtain ⟨⟨n1, t1, o1⟩, n2, t2, o2⟩ := hf
    have e2 := e1 a c
    have e3 := e1 b d
    have p2 := p0 a b
    have p3 := p0 c d
    have p4 := p1 a b
    have p5 := p1 c d
    cases hac : (a == c) <;> cases hbd : (b == d) <;> rw [hac] at e2 <;> rw [hbd] at e3 <;> simp [Op.eqFields, n1, n2, t1, t2, o1, o2, Sem.run_bind, p2, p3, p4, p5, e2, e3, Result.andThen]
  · simp at hf
end Go.Proofs.YtokekhiibbhamaaDoor
