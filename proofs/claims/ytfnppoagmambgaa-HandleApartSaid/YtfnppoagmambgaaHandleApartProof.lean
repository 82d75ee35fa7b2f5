/-
  HandleApart answers true for every input, and each argument reads afterwards as it read before. No condition.
  The frame is turned from the one that the kit's program writes for laws over integers and slices; the walk is ours.
-/
import Derived.Test.YtfnppoagmambgaaRows
import Derived.WalkKit
import Derived.ProofKit
import Derived.OpenShut
import Derived.ShutString
import Derived.ChangeOld
import Derived.Below
import Derived.Lib.SmallJoins
import Derived.Test.YtfnppoagmambgaaOff
import Derived.Test.YtfnppoagmambgaaHnC
namespace Go.Proofs.Ytfnppoagmambgaa.handleApart
open Go.ChangeShapes Go.WideShapes Go.ChangeAt Go.RowKit
open Go.ChangeMaps (open_string shut_string)
set_option linter.unusedVariables false

theorem own : ownKnob Try.prog.godebug = none := by kernel_rfl
theorem laidOut : laidOutB Try.prog = true := by kernel_rfl

/-! ### the walk -/
theorem walk (z0 y0 : Int) (x0 : Nat) (hx0 : x0 < 2 ^ 64) (z1 y1 : Int) (x1 : Nat) (hx1 : x1 < 2 ^ 64) (w : World) :
    Calls Try.prog 7 #[.agg #[.int .i64 z0, .int .i64 y0, .int .u64 (x0 : Int)], .agg #[.int .i64 z1, .int .i64 y1, .int .u64 (x1 : Int)]] w fun e w' => e = .returned (.bool true) ∧ Below w.heap.size w w' := by
  exact handleApart_any z0 y0 x0 hx0 z1 y1 x1 hx1 w

/-! ### the row's step -/
set_option maxRecDepth 100000 in
theorem lifted (os : Os) (started : os.Started) (H : Type) (enc : TypeId × Value → H) :
    ReturnsInHanded {} Try.checked os 7 .any (Rows.handleApartSpec.pre6 enc Try.prog Try.f7 Rows.handleApartRow.domain false) (Rows.handleApartSpec.post enc Try.prog Try.f7 false true false false) := by
  refine returnsInHanded_of_change (C := Try.checked) own started (by kernel_rfl) Try.func7
    (ChangeSpec.witness6 (enc := enc) (C := Try.checked) false ⟨#[], #[.agg #[.int .i64 0, .int .i64 0, .int .u64 0], .agg #[.int .i64 0, .int .i64 0, .int .u64 0]], []⟩ 8 (by kernel_rfl) (by kernel_rfl) (by kernel_rfl) (by kernel_rfl)) ?_
  intro W base args ds gs before hval0 hW hcnd _
  have hval : ∀ (j : Nat) t v, Try.f7.params[j]? = some t → args[j]? = some v → Value.okWide Try.prog W .any base t v := hval0
  have hW' := hW
  obtain ⟨p, q, hA0, hV, rfl, hfz, hnd⟩ := hW
  have hA : DataW.TrodAll enc Try.prog W 0 (fun _ => true) true Try.f7.params.toList args.toList ds p := hA0
  rw [Try.params7] at hA hval
  obtain ⟨v0, vs0, d0, ds0, p0, q0, hargs, rfl, rfl, k0, r0⟩ := trodAll_cons hA
  obtain ⟨v1, vs1, d1, ds1, p1, q1, rfl, rfl, rfl, k1, r1⟩ := trodAll_cons r0
  obtain ⟨rfl, rfl, rfl⟩ := trodAll_nil r1
  obtain rfl : args = #[v0, v1] := by cases args; simp_all
  obtain ⟨rfl, rfl⟩ := trodVars_none hV
  have lt0 : ∀ x ∈ p0, x.block < W.heap.size := by obtain ⟨m, hm⟩ := k0; exact DataW.trod_lt m _ _ _ hm
  have lt1 : ∀ x ∈ p1, x.block < W.heap.size := by obtain ⟨m, hm⟩ := k1; exact DataW.trod_lt m _ _ _ hm
  obtain ⟨z0, y0, x0, hx0, rfl⟩ : ∃ (z y : Int) (x : Nat), x < 2 ^ 64 ∧ v0 = .agg #[.int .i64 z, .int .i64 y, .int .u64 (x : Int)] := by
    obtain ⟨c0, c1, c2, _, _, _, _, hv, _, _, t0, t1, t2⟩ := Go.Joins.open_agg3 Try.underlying24 (by kernel_rfl) (by kernel_rfl) (hval 0 24 v0 rfl rfl) k0
    obtain ⟨z, hz, _, _⟩ := DataW.trod_int Try.underlying3 t0
    obtain ⟨y, hy, _, _⟩ := DataW.trod_int Try.underlying3 t1
    obtain ⟨x, hx, _, hw⟩ := DataW.trod_int Try.underlying22 t2
    obtain ⟨n, hn, rfl⟩ := nat_u64 hw
    injection hz with hz
    injection hy with hy
    injection hx with hx
    exact ⟨z, y, n, hn, by rw [hv, hz, hy, hx]⟩
  obtain ⟨z1, y1, x1, hx1, rfl⟩ : ∃ (z y : Int) (x : Nat), x < 2 ^ 64 ∧ v1 = .agg #[.int .i64 z, .int .i64 y, .int .u64 (x : Int)] := by
    obtain ⟨c0, c1, c2, _, _, _, _, hv, _, _, t0, t1, t2⟩ := Go.Joins.open_agg3 Try.underlying24 (by kernel_rfl) (by kernel_rfl) (hval 1 24 v1 rfl rfl) k1
    obtain ⟨z, hz, _, _⟩ := DataW.trod_int Try.underlying3 t0
    obtain ⟨y, hy, _, _⟩ := DataW.trod_int Try.underlying3 t1
    obtain ⟨x, hx, _, hw⟩ := DataW.trod_int Try.underlying22 t2
    obtain ⟨n, hn, rfl⟩ := nat_u64 hw
    injection hz with hz
    injection hy with hy
    injection hx with hx
    exact ⟨z, y, n, hn, by rw [hv, hz, hy, hx]⟩
  clear hA0 hval0
  refine (walk z0 y0 x0 hx0 z1 y1 x1 hx1 W).mono fun e W' ⟨he, bel⟩ => ?_
  subst he
  exact ⟨_, rfl, _, _, _, [], _, [], hW', trodAll_mk1 (shut_bool Try.underlying4 _), (trodAll_cons_mk (Below.trod laidOut (by kernel_rfl) (of_decide_eq_true (by kernel_rfl)) k0 bel lt0) (trodAll_cons_mk (Below.trod laidOut (by kernel_rfl) (of_decide_eq_true (by kernel_rfl)) k1 bel lt1) trodAll_mk0)), rfl, bel.frame _, fun h => by cases h⟩

theorem over : Rows.handleApartRow.holds Try.pinned (OpenSpec.ofChange Rows.handleApartSpec) :=
  OpenClaim.holds_of_wide 7 Try.f7 rfl rfl rfl rfl rfl rfl rfl ⟨rfl, rfl, rfl, rfl, rfl⟩ rfl rfl rfl rfl rfl (by kernel_rfl) Try.func7 (by kernel_rfl)
    (of_decide_eq_true (by kernel_rfl)) (by unfold Func.isWrapper; first | (rw [if_pos (by decide +kernel)]; kernel_rfl) | (rw [if_neg (by decide +kernel)]; exact ⟨rfl, rfl⟩))
    (fun os started H enc _ => lifted os started H enc)

/-- ████ THE STATEMENT ████ -/
theorem proved : Rows.HandleApartSaid := over
#print axioms proved
end Go.Proofs.Ytfnppoagmambgaa.handleApart
