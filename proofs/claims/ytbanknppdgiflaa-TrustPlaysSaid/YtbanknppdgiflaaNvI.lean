/-
  Do of a device of which no word is pending, whatever befalls its power.
-/
import Derived.Test.YtbanknppdgiflaaNvH
namespace Go.Proofs.Ytbanknppdgiflaa
open Go.RowKit Go
set_option linter.unusedVariables false
set_option linter.unusedSimpArgs false
set_option maxHeartbeats 400000 in
theorem doQ_off (g b L c k : Nat) (av : Value) (al : List Value) (u : Int) (fv : Value) (w : World) (h : DevQ w g b L c true av k al u (.slice none 0 0)) :
    Calls Try.prog 29 #[.pointer (some ⟨g, 0, none⟩), .agg #[.int .i64 4, .int .i64 0, .int .i64 0], fv] w fun e w' => e = .returned (.int .i64 8) ∧ Below w.heap.size w w' := by
  have HR := Lib.hid (fun W (hW : DevB W g (.slice (some ⟨b, 0, none⟩) L c) true av u (.slice none 0 0)) => refuses_any g L c (some ⟨b, 0, none⟩) true av (.slice none 0 0) u 0 0 W hW h.L1)
  have HD := Lib.hid (h.dev.dev.next ((Below.refl w.heap.size w).alloc (Nat.le_refl _) (.cells #[.int .i64 4, .int .i64 0, .int .i64 0] ActT)))
  have e8 : refS8 L true 0 0 = 8 := rfl
  rw [e8] at HR
  clear h e8
  go_enter Try.func29, Try.ntmps29
  go_wp2_with fail
  refine (HR.out _ HD.out).mono ?_
  rintro e w1 ⟨rfl, rfl⟩
  go_wp2
  go_ret
  exact ⟨rfl, (Below.refl _ _).alloc (Nat.le_refl _) _⟩
set_option maxHeartbeats 400000 in
theorem doQ_goes (g b L c k : Nat) (av : Value) (al : List Value) (fv : Value) (w : World) (h : DevQ w g b L c false av k al 1 (.slice none 0 0)) :
    Calls Try.prog 29 #[.pointer (some ⟨g, 0, none⟩), .agg #[.int .i64 4, .int .i64 0, .int .i64 0], fv] w fun e w' => e = .returned (.int .i64 8) ∧ DevQ w' g b L c true av k al 0 (.slice none 0 0) ∧ Turns (fun j => j = g) w w' := by
  have HR := Lib.hid (fun W (hW : DevB W g (.slice (some ⟨b, 0, none⟩) L c) false av 1 (.slice none 0 0)) => refuses_any g L c (some ⟨b, 0, none⟩) false av (.slice none 0 0) 1 0 0 W hW h.L1)
  have hb := (Below.refl w.heap.size w).alloc (Nat.le_refl _) (.cells #[.int .i64 4, .int .i64 0, .int .i64 0] ActT)
  have HD := Lib.hid (h.next hb)
  have HG := Lib.hid (goesU_one g b L c k av al _ (h.next hb))
  have HB := Lib.hid hb
  have e8 : refS8 L false 0 0 = 0 := by
    unfold refS8 hasB
    rw [if_neg (by decide), if_pos (decide_eq_true (by omega))]
  rw [e8] at HR
  clear h e8 hb
  go_enter Try.func29, Try.ntmps29
  go_wp2_with fail
  refine (HR.out _ HD.out.dev.dev).mono ?_
  rintro e w1 ⟨rfl, rfl⟩
  go_wp2_with fail
  refine HG.out.mono ?_
  rintro e w1 ⟨rfl, hd, ht⟩
  have HD1 := Lib.hid hd
  have HT1 := Lib.hid ht
  clear hd ht
  go_wp2
  go_ret
  exact ⟨rfl, HD1.out, (Turns.of_below (S := fun j => j = g) HB.out).trans (S' := fun j => j = g) HT1.out (fun _ _ q => q)⟩
/-- what a Do leaves: it is OK, or the power is off -/
def DoE (w : World) (g b L c k : Nat) (av : Value) (e : Ending) (w' : World) : Prop :=
  ∃ (r : Int) (off' : Bool) (av' : Value) (k' : Nat) (al' : List Value) (u' : Int), e = .returned (.int .i64 r) ∧ (r = 0 ∨ r = 8) ∧ DevQ w' g b L c off' av' k' al' u' (.slice none 0 0) ∧ k' ≤ k + 1 ∧ 0 ≤ u' ∧ u' ≤ 9223372036854775807 ∧
    Turns (fun j => j = g ∨ av.ownBlock = some j) w w' ∧ (av'.ownBlock = av.ownBlock ∨ ∃ j, w.heap.size ≤ j ∧ av'.ownBlock = some j)
set_option maxHeartbeats 1000000 in
theorem doQ_any (g b L c k : Nat) (off : Bool) (av : Value) (al : List Value) (u : Int) (w : World) (h : DevQ w g b L c off av k al u (.slice none 0 0)) (hk : k < 16384) (hu : 0 ≤ u) (hu2 : u ≤ 9223372036854775807) :
    Calls Try.prog 20 #[.pointer (some ⟨g, 0, none⟩)] w (DoE w g b L c k av) := by
  have key : Calls Try.prog 29 #[.pointer (some ⟨g, 0, none⟩), .agg #[.int .i64 4, .int .i64 0, .int .i64 0], .func (Fn.func 30) #[] #[]] w (DoE w g b L c k av) := by
    cases off
    · by_cases h1 : u = 1
      · subst h1
        refine (doQ_goes g b L c k av al _ w h).mono ?_
        rintro e w' ⟨he, hd, ht⟩
        exact ⟨8, true, av, k, al, 0, he, .inr rfl, hd, by omega, by omega, by omega, ht.mono (fun j _ q => .inl q), .inl rfl⟩
      · refine (doU_any g k L c (some ⟨b, 0, none⟩) av (.slice none 0 0) al u w h.dev h.L1 hk (by omega) hu2).mono ?_
        rintro e w' ⟨av', he, hd, ht, ho⟩
        have hbg := h.bg
        have hbb : w'.heap[b]? = w.heap[b]? := ht.block b (by have := h.dev.dev.lt; omega) (fun q => q.elim (fun e => by omega) (fun e => by have := (h.dev.own.lt b e).1; omega))
        have hl : 0 ≤ lessU u ∧ lessU u ≤ 9223372036854775807 := by unfold lessU; split <;> omega
        exact ⟨0, false, av', k + 1, _, lessU u, he, .inl rfl, h.of hd hbb, by omega, hl.1, hl.2, ht, ho⟩
    · refine (doQ_off g b L c k av al u _ w h).mono ?_
      rintro e w' ⟨he, hb⟩
      exact ⟨8, true, av, k, al, u, he, .inr rfl, h.next hb, by omega, hu, hu2, Turns.of_below hb, .inl rfl⟩
  have HK := Lib.hid key
  clear key h
  go_enter Try.func20, Try.ntmps20
  go_wp2_with fail
  refine HK.out.mono ?_
  rintro e w1 ⟨r, o1, o2, o3, o4, o5, rfl, hrest⟩
  have HR := Lib.hid (show DoE w g b L c k av (.returned (.int .i64 r)) w1 from ⟨r, o1, o2, o3, o4, o5, rfl, hrest⟩)
  clear hrest
  go_wp2
  go_ret
  exact HR.out
end Go.Proofs.Ytbanknppdgiflaa
