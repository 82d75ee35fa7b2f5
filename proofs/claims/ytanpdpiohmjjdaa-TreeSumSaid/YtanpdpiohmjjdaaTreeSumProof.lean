/-
  TreeSum answers true for every input, and each argument reads afterwards as it read before. No condition.
  The frame is turned from the one that the kit's program writes for laws over integers and slices; the walk is ours.
-/
import Derived.Test.YtanpdpiohmjjdaaRows
import Derived.WalkKit
import Derived.ProofKit
import Derived.OpenShut
import Derived.ShutString
import Derived.ChangeOld
import Derived.Below
import Derived.Lib.SmallJoins
import Derived.Test.YtanpdpiohmjjdaaOff
import Derived.Test.YtanpdpiohmjjdaaZTwS
import Derived.Test.YtanpdpiohmjjdaaOff
namespace Go.Proofs.Ytanpdpiohmjjdaa.treeSum
open Go.ChangeShapes Go.WideShapes Go.ChangeAt Go.RowKit
open Go.ChangeMaps (open_string shut_string)
set_option linter.unusedVariables false

theorem own : ownKnob Try.prog.godebug = none := by kernel_rfl
theorem laidOut : laidOutB Try.prog = true := by kernel_rfl

/-! ### the walk -/
theorem walk (z0 : Int) (w0 : (Lit.int .u32 z0).wf = true) (a1 : Option Addr) (n1 c1 : Nat) (l1 : List Nat) (w : World) (h1s : BS w w.heap.size a1 n1 c1 l1) (h1o : ∀ ad, a1 = some ad → ad.block < w.heap.size) (h1n : a1 = none → c1 = 0) :
    Calls Try.prog 7 #[.int .u32 z0, .slice a1 n1 c1] w fun e w' => e = .returned (.bool true) ∧ Below w.heap.size w w' := by
  obtain ⟨k, hk, rfl⟩ : ∃ n : Nat, n < 4294967296 ∧ z0 = (n : Int) := by
    have h := bounds_u32 w0
    exact ⟨z0.toNat, by omega, by omega⟩
  exact treeSum_any k n1 c1 a1 l1 w hk h1s h1n

/-! ### the row's step -/
set_option maxRecDepth 100000 in
theorem lifted (os : Os) (started : os.Started) (H : Type) (enc : TypeId × Value → H) :
    ReturnsInHanded {} Try.checked os 7 .any (Rows.treeSumSpec.pre6 enc Try.prog Try.f7 Rows.treeSumRow.domain false) (Rows.treeSumSpec.post enc Try.prog Try.f7 false true false false) := by
  refine returnsInHanded_of_change (C := Try.checked) own started (by kernel_rfl) Try.func7
    (ChangeSpec.witness6 (enc := enc) (C := Try.checked) false ⟨#[], #[.int .u32 0, .slice none 0 0], []⟩ 8 (by kernel_rfl) (by kernel_rfl) (by kernel_rfl) (by kernel_rfl)) ?_
  intro W base args ds gs before hval0 hW hcnd _
  have hval : ∀ (j : Nat) t v, Try.f7.params[j]? = some t → args[j]? = some v → Value.okWide Try.prog W .any base t v := hval0
  have hW' := hW
  obtain ⟨p, q, hA0, hV, rfl, hfz, hnd⟩ := hW
  have hA : DataW.TrodAll enc Try.prog W 0 (fun _ => true) true Try.f7.params.toList args.toList ds p := hA0
  rw [Try.params7] at hA hval
  obtain ⟨v0, vs0, d0, ds0, p0, q0, hargs, rfl, rfl, k0, r0⟩ := trodAll_cons hA
  obtain ⟨v1, vs1, d1, ds1, p1, q1, rfl, rfl, rfl, k1, r1⟩ := trodAll_cons r0
  obtain ⟨rfl, rfl, rfl⟩ := trodAll_nil r1
  obtain rfl : args = #[v0, v1] := by cases args; simp_all
  obtain ⟨rfl, rfl⟩ := trodVars_none hV
  have lt0 : ∀ x ∈ p0, x.block < W.heap.size := by obtain ⟨m, hm⟩ := k0; exact DataW.trod_lt m _ _ _ hm
  have lt1 : ∀ x ∈ p1, x.block < W.heap.size := by obtain ⟨m, hm⟩ := k1; exact DataW.trod_lt m _ _ _ hm
  obtain ⟨z0, rfl⟩ := okWide_int Try.underlying54 (hval 0 54 v0 rfl rfl)
  have w0 : (Lit.int .u32 z0).wf = true := by
    obtain ⟨m, hm⟩ := k0
    obtain ⟨z, hz, _, hw⟩ := DataW.trod_int Try.underlying54 hm
    simp [Value.cells] at hz
    rw [hz]
    exact hw
  obtain ⟨a1, n1, c1, rfl⟩ := okWide_slice Try.underlying49 (hval 1 49 v1 rfl rfl)
  obtain ⟨l1, h1s⟩ : ∃ l, BS W W.heap.size a1 n1 c1 l := by
    obtain ⟨fuel, hf⟩ := k1
    rcases open_ints Try.underlying49 Try.underlying5 (by kernel_rfl) hf with ⟨hcs, _⟩ | ⟨x, l, c, zs, hcs, _, hl, hm, hz, _, hcell, hwz⟩
    · simp [Value.cells] at hcs
      obtain ⟨rfl, rfl, rfl⟩ := hcs
      exact ⟨[], BS.nil _ _⟩
    · simp [Value.cells] at hcs
      obtain ⟨rfl, rfl, rfl⟩ := hcs
      exact BS.of_row (.inr ⟨_, rfl, hl, hm, by simpa using hz, hcell, hwz⟩)
  have h1o := off_of_ok Try.underlying49 (hval 1 49 _ rfl rfl)
  have h1n := nil_of_ok Try.underlying49 (hval 1 49 _ rfl rfl)
  clear hA0 hval0
  refine (walk z0 w0 a1 n1 c1 l1 W h1s h1o h1n).mono fun e W' ⟨he, bel⟩ => ?_
  subst he
  exact ⟨_, rfl, _, _, _, [], _, [], hW', trodAll_mk1 (shut_bool Try.underlying4 _), (trodAll_cons_mk (Below.trod laidOut (by kernel_rfl) (of_decide_eq_true (by kernel_rfl)) k0 bel lt0) (trodAll_cons_mk (Below.trod laidOut (by kernel_rfl) (of_decide_eq_true (by kernel_rfl)) k1 bel lt1) trodAll_mk0)), rfl, bel.frame _, fun h => by cases h⟩

theorem over : Rows.treeSumRow.holds Try.pinned (OpenSpec.ofChange Rows.treeSumSpec) :=
  OpenClaim.holds_of_wide 7 Try.f7 rfl rfl rfl rfl rfl rfl rfl ⟨rfl, rfl, rfl, rfl, rfl⟩ rfl rfl rfl rfl rfl (by kernel_rfl) Try.func7 (by kernel_rfl)
    (of_decide_eq_true (by kernel_rfl)) (by unfold Func.isWrapper; first | (rw [if_pos (by decide +kernel)]; kernel_rfl) | (rw [if_neg (by decide +kernel)]; exact ⟨rfl, rfl⟩))
    (fun os started H enc _ => lifted os started H enc)

/-- ████ THE STATEMENT ████ -/
theorem proved : Rows.TreeSumSaid := over
#print axioms proved
end Go.Proofs.Ytanpdpiohmjjdaa.treeSum
