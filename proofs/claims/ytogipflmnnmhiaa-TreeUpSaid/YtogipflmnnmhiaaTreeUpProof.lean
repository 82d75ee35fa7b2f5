/- TreeUp. -/
import Derived.Test.YtogipflmnnmhiaaRows
import Derived.WalkKit
import Derived.ProofKit
import Derived.OpenShut
import Derived.ShutString
import Derived.ChangeOld
import Derived.Below
import Derived.Lib.SmallJoins
import Derived.Test.YtogipflmnnmhiaaZUpA
import Derived.Test.YtogipflmnnmhiaaZUpB
import Derived.Test.YtogipflmnnmhiaaZUpC
namespace Go.Proofs.Ytogipflmnnmhiaa
open Go.RowKit Go
theorem treeUp_any (n0 c : Nat) (A : Option Addr) (n k : Int) (x : List Nat) (hl : x.length = 32) (hb : ∀ i, x.getD i 0 < 256) (w : World) (h : (∃ ls, DgS w A n0 ls) ∧ n0 ≤ c ∧ c ≤ 9223372036854775807) :
    Calls Try.prog 4 #[.int .i64 n, .int .i64 k, .agg (rowV (bF x) 32), .slice A n0 c] w fun e w' => e = .returned (.bool true) ∧ Below w.heap.size w w' := by
  obtain ⟨⟨ls, hds⟩, hc, hcm⟩ := h
  have hx : IsDig x := ⟨hl, hb⟩
  by_cases h12 : n0 ≤ 12
  · by_cases h1 : n < 1
    · exact treeUp_n1 _ _ _ _ _ _ _ _ hds h12 hc hx h1
    by_cases h2 : 1024 < n
    · exact treeUp_n2 _ _ _ _ _ _ _ _ hds h12 hc hx h1 h2
    by_cases h3 : k < 0
    · exact treeUp_n3 _ _ _ _ _ _ _ _ hds h12 hc hx h1 h2 h3
    by_cases h4 : n ≤ k
    · exact treeUp_n4 _ _ _ _ _ _ _ _ hds h12 hc hx h1 h2 h3 h4
    by_cases h5 : n0 = dpX n.toNat
    · obtain ⟨n', rfl⟩ : ∃ n' : Nat, n = (n' : Int) := ⟨n.toNat, by omega⟩
      obtain ⟨k', rfl⟩ : ∃ k' : Nat, k = (k' : Int) := ⟨k.toNat, by omega⟩
      exact treeUp_yes n' k' x A n0 c ls w hds h12 hc hx (by omega) (by omega) (by omega) (by rw [Int.toNat_natCast] at h5; exact h5)
    · exact treeUp_n5 _ _ _ _ _ _ _ _ hds h12 hc hx h1 h2 h3 h4 h5
  · obtain ⟨b, o, rfl, hbl, hr⟩ := hds.1 (by omega)
    have hd : DgS w (some ⟨b, o, none⟩) 12 ls := ⟨fun _ => ⟨b, o, rfl, hbl, fun j hj => hr j (by omega)⟩, hds.2⟩
    by_cases h1 : n < 1
    · exact treeUp_cn1 _ _ _ _ _ _ _ _ _ hd (by omega) hc hcm hx h1
    by_cases h2 : 1024 < n
    · exact treeUp_cn2 _ _ _ _ _ _ _ _ _ hd (by omega) hc hcm hx h1 h2
    by_cases h3 : k < 0
    · exact treeUp_cn3 _ _ _ _ _ _ _ _ _ hd (by omega) hc hcm hx h1 h2 h3
    by_cases h4 : n ≤ k
    · exact treeUp_cn4 _ _ _ _ _ _ _ _ _ hd (by omega) hc hcm hx h1 h2 h3 h4
    · exact treeUp_cn5 _ _ _ _ _ _ _ _ _ hd (by omega) hc hcm hx h1 h2 h3 h4
end Go.Proofs.Ytogipflmnnmhiaa
namespace Go.Proofs.Ytogipflmnnmhiaa.treeUp
open Go.ChangeShapes Go.WideShapes Go.ChangeAt Go.RowKit
open Go.ChangeMaps (open_string shut_string)
set_option linter.unusedVariables false
theorem own : ownKnob Try.prog.godebug = none := by kernel_rfl
theorem laidOut : laidOutB Try.prog = true := by kernel_rfl
theorem walk (z0 : Int) (w0 : (Lit.int .i64 z0).wf = true) (z1 : Int) (w1 : (Lit.int .i64 z1).wf = true) (l2 : List Nat) (h2l : l2.length = 32) (h2b : ∀ i, l2.getD i 0 < 256) (a3 : Option Addr) (n3 c3 : Nat) (w : World) (h3q : (∃ ls, DgS w a3 n3 ls) ∧ n3 ≤ c3 ∧ c3 ≤ 9223372036854775807) :
    Calls Try.prog 4 #[.int .i64 z0, .int .i64 z1, .agg (rowV (bF l2) 32), .slice a3 n3 c3] w fun e w' => e = .returned (.bool true) ∧ Below w.heap.size w w' := by
  exact treeUp_any n3 c3 a3 z0 z1 l2 h2l h2b w h3q
set_option maxRecDepth 100000 in
theorem lifted (os : Os) (started : os.Started) (H : Type) (enc : TypeId × Value → H) :
    ReturnsInHanded {} Try.checked os 4 .any (Rows.treeUpSpec.pre6 enc Try.prog Try.f4 Rows.treeUpRow.domain false) (Rows.treeUpSpec.post enc Try.prog Try.f4 false true false false) := by
  refine returnsInHanded_of_change (C := Try.checked) own started (by kernel_rfl) Try.func4
    (ChangeSpec.witness6 (enc := enc) (C := Try.checked) false ⟨#[], #[.int .i64 0, .int .i64 0, .agg #[.int .u8 0, .int .u8 0, .int .u8 0, .int .u8 0, .int .u8 0, .int .u8 0, .int .u8 0, .int .u8 0, .int .u8 0, .int .u8 0, .int .u8 0, .int .u8 0, .int .u8 0, .int .u8 0, .int .u8 0, .int .u8 0, .int .u8 0, .int .u8 0, .int .u8 0, .int .u8 0, .int .u8 0, .int .u8 0, .int .u8 0, .int .u8 0, .int .u8 0, .int .u8 0, .int .u8 0, .int .u8 0, .int .u8 0, .int .u8 0, .int .u8 0, .int .u8 0], .slice none 0 0], []⟩ 8 (by kernel_rfl) (by kernel_rfl) (by kernel_rfl) (by kernel_rfl)) ?_
  intro W base args ds gs before hval0 hW hcnd _
  have hval : ∀ (j : Nat) t v, Try.f4.params[j]? = some t → args[j]? = some v → Value.okWide Try.prog W .any base t v := hval0
  have hW' := hW
  obtain ⟨p, q, hA0, hV, rfl, hfz, hnd⟩ := hW
  have hA : DataW.TrodAll enc Try.prog W 0 (fun _ => true) true Try.f4.params.toList args.toList ds p := hA0
  rw [Try.params4] at hA hval
  obtain ⟨v0, vs0, d0, ds0, p0, q0, hargs, rfl, rfl, k0, r0⟩ := trodAll_cons hA
  obtain ⟨v1, vs1, d1, ds1, p1, q1, rfl, rfl, rfl, k1, r1⟩ := trodAll_cons r0
  obtain ⟨v2, vs2, d2, ds2, p2, q2, rfl, rfl, rfl, k2, r2⟩ := trodAll_cons r1
  obtain ⟨v3, vs3, d3, ds3, p3, q3, rfl, rfl, rfl, k3, r3⟩ := trodAll_cons r2
  obtain ⟨rfl, rfl, rfl⟩ := trodAll_nil r3
  obtain rfl : args = #[v0, v1, v2, v3] := by cases args; simp_all
  obtain ⟨rfl, rfl⟩ := trodVars_none hV
  have lt0 : ∀ x ∈ p0, x.block < W.heap.size := by obtain ⟨m, hm⟩ := k0; exact DataW.trod_lt m _ _ _ hm
  have lt1 : ∀ x ∈ p1, x.block < W.heap.size := by obtain ⟨m, hm⟩ := k1; exact DataW.trod_lt m _ _ _ hm
  have lt2 : ∀ x ∈ p2, x.block < W.heap.size := by obtain ⟨m, hm⟩ := k2; exact DataW.trod_lt m _ _ _ hm
  have lt3 : ∀ x ∈ p3, x.block < W.heap.size := by obtain ⟨m, hm⟩ := k3; exact DataW.trod_lt m _ _ _ hm
  obtain ⟨z0, rfl⟩ := okWide_int Try.underlying3 (hval 0 3 v0 rfl rfl)
  have w0 : (Lit.int .i64 z0).wf = true := by
    obtain ⟨m, hm⟩ := k0
    obtain ⟨z, hz, _, hw⟩ := DataW.trod_int Try.underlying3 hm
    simp [Value.cells] at hz
    rw [hz]
    exact hw
  obtain ⟨z1, rfl⟩ := okWide_int Try.underlying3 (hval 1 3 v1 rfl rfl)
  have w1 : (Lit.int .i64 z1).wf = true := by
    obtain ⟨m, hm⟩ := k1
    obtain ⟨z, hz, _, hw⟩ := DataW.trod_int Try.underlying3 hm
    simp [Value.cells] at hz
    rw [hz]
    exact hw
  obtain ⟨l2, h2l, h2b, rfl⟩ := open_bytes Try.underlying34 Try.underlying5 (by kernel_rfl) (by kernel_rfl) (hval 2 34 v2 rfl rfl) k2
  obtain ⟨a3, n3, c3, rfl⟩ := okWide_slice Try.underlying22 (hval 3 22 v3 rfl rfl)
  have h3q := d32s_open k3
  clear hA0 hval0
  refine (walk z0 w0 z1 w1 l2 h2l h2b a3 n3 c3 W h3q).mono fun e W' ⟨he, bel⟩ => ?_
  subst he
  exact ⟨_, rfl, _, _, _, [], _, [], hW', trodAll_mk1 (shut_bool Try.underlying4 _), (trodAll_cons_mk (Below.trod laidOut (by kernel_rfl) (of_decide_eq_true (by kernel_rfl)) k0 bel lt0) (trodAll_cons_mk (Below.trod laidOut (by kernel_rfl) (of_decide_eq_true (by kernel_rfl)) k1 bel lt1) (trodAll_cons_mk (Below.trod laidOut (by kernel_rfl) (of_decide_eq_true (by kernel_rfl)) k2 bel lt2) (trodAll_cons_mk (Below.trod laidOut (by kernel_rfl) (of_decide_eq_true (by kernel_rfl)) k3 bel lt3) trodAll_mk0)))), rfl, bel.frame _, fun h => by cases h⟩
theorem over : Rows.treeUpRow.holds Try.pinned (OpenSpec.ofChange Rows.treeUpSpec) :=
  OpenClaim.holds_of_wide 4 Try.f4 rfl rfl rfl rfl rfl rfl rfl ⟨rfl, rfl, rfl, rfl, rfl⟩ rfl rfl rfl rfl rfl (by kernel_rfl) Try.func4 (by kernel_rfl)
    (of_decide_eq_true (by kernel_rfl)) (by unfold Func.isWrapper; first | (rw [if_pos (by decide +kernel)]; kernel_rfl) | (rw [if_neg (by decide +kernel)]; exact ⟨rfl, rfl⟩))
    (fun os started H enc _ => lifted os started H enc)
theorem proved : Rows.TreeUpSaid := over
#print axioms proved
end Go.Proofs.Ytogipflmnnmhiaa.treeUp
