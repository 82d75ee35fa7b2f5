/-
  WordBack answers true for every input, and each argument reads afterwards as it read before. No condition.
  The frame of the proof is the kit's program's; the walk is ours.
-/
import Derived.Test.YtalbebcmihbnmaaRows
import Derived.WalkKit
import Derived.ProofKit
import Derived.OpenShut
import Derived.ShutString
import Derived.Test.YtalbebcmihbnmaaWordB
namespace Go.Proofs.Ytalbebcmihbnmaa.wordBack
open Go.ChangeShapes Go.WideShapes Go.ChangeAt Go.RowKit
open Go.ChangeMaps (open_string shut_string)
set_option linter.unusedVariables false      -- a walk need not use every 'w<i>' (that an integer argument fits its kind)

theorem own : ownKnob Try.prog.godebug = none := by kernel_rfl

theorem putI_in {m v : Nat} (h1 : 1 ≤ m) (h8 : m ≤ 8) : putI (m : Int) v = putL m v := by unfold putI; rw [if_pos (by omega)]; rfl
theorem putI_out {n : Int} (v : Nat) (h : n < 1 ∨ 8 < n) : putI n v = [] := by unfold putI; rw [if_neg (by omega)]
theorem back_eq {m v : Nat} (h8 : m ≤ 8) : num ((putL m v).take 8) = v % 256 ^ m := by
  rw [List.take_of_length_le (by rw [putL_len]; omega), num_putL]
theorem pow_bits {m : Nat} (h8 : m < 8) : (1 : Int) * 2 ^ (8 * m) ≤ 72057594037927936 ∧ (1 : Int) ≤ 1 * 2 ^ (8 * m) := by
  have h1 : 2 ^ (8 * m) ≤ 2 ^ 56 := Nat.pow_le_pow_right (by omega) (by omega)
  have h2 : 1 ≤ 2 ^ (8 * m) := Nat.one_le_two_pow
  have h3 : ((2 ^ (8 * m) : Nat) : Int) = 2 ^ (8 * m) := by simp
  rw [← h3]
  omega
theorem back_test {m v q : Nat} (h8 : m ≤ 8) (h : num ((putL m v).take 8) = q) : ((q : Int) == (v : Int) % 2 ^ (8 * m)) = true := by
  have h3 : ((v % 256 ^ m : Nat) : Int) = (v : Int) % 2 ^ (8 * m) := by rw [pow256, Int.natCast_emod]; simp
  rw [← h, back_eq h8, h3]
  simp
theorem back_test8 {v q : Nat} (hv : v < 2 ^ 64) (h : num ((putL 8 v).take 8) = q) : ((q : Int) == (v : Int)) = true := by
  rw [← h, back_eq (by omega)]
  have : v % 256 ^ 8 = v := Nat.mod_eq_of_lt (by omega)
  rw [this]
  simp

/-! ### STEP 1: THE WALK: the Go text returns true. 'Grown w w'': the world has at most new blocks (Derived/RowKit3.lean). Part the cases AHEAD of 'go_enter' where a test parts the walk; take each callee by a contract of your own. -/
theorem walk (a0 : Int) (a1 : Int) (w0 : (Lit.int .i64 a0).wf = true) (w1 : (Lit.int .u64 a1).wf = true) (w : World) :
    Calls Try.prog 5 #[.int .i64 a0, .int .u64 a1] w fun e w' => e = .returned (.bool true) ∧ Below w.heap.size w w' := by
  obtain ⟨v, hv, rfl⟩ := nat_u64 w1
  have hb0 := bounds_i64 w0
  have hv64 : v < 2 ^ 64 := hv
  by_cases hout : a0 < 1 ∨ 8 < a0
  · have HE := Lib.hid (putI_out v hout)
    rcases hout with h | h
    all_goals
      go_enter Try.func5, Try.ntmps5
      go_wp2_with fail
      refine (put_any _ v hv64 _).mono ?_
      rintro e w' hg
      rw [HE.out] at hg
      obtain ⟨A, c, rfl, hb1, _⟩ := hg
      go_wp2_with fail
      refine (awake1_any _).mono ?_
      rintro e w2 ⟨rfl, hb2⟩
      go_wp2
      go_ret
      exact ⟨rfl, hb1.trans (hb2.mono hb1.size)⟩
  · obtain ⟨m, rfl⟩ : ∃ m : Nat, a0 = (m : Int) := ⟨a0.toNat, by omega⟩
    have HE := Lib.hid (putI_in (v := v) (m := m) (by omega) (by omega))
    have h1 : 1 ≤ m := by omega
    have h8 : m ≤ 8 := by omega
    clear hout
    by_cases h : m < 8
    · obtain ⟨p1, p2⟩ := pow_bits h
      go_enter Try.func5, Try.ntmps5
      go_wp2_with fail
      refine (put_any _ v hv64 _).mono ?_
      rintro e w' hg
      rw [HE.out] at hg
      obtain ⟨A, c, rfl, hb1, hs⟩ := hg
      have ht := fun q => back_test (m := m) (v := v) (q := q) h8
      have HT := Lib.hid ht
      clear ht
      generalize putL m v = l at *
      go_wp2_with fail
      refine (get_any _ _ _ l _ hs).mono ?_
      rintro e w2 ⟨rfl, hb2⟩
      have ht := HT.out _ rfl
      generalize num (l.take 8) = q at ht
      have hb3 := hb1.trans (hb2.mono hb1.size)
      clear hs hb2 hb1
      go_wp2_with fail
      refine (awake1_any _).mono ?_
      rintro e w3 ⟨rfl, hb4⟩
      go_wp2
      go_ret
      exact ⟨rfl, hb3.trans (hb4.mono hb3.size)⟩
    · obtain rfl : m = 8 := by omega
      go_enter Try.func5, Try.ntmps5
      go_wp2_with fail
      refine (put_any _ v hv64 _).mono ?_
      rintro e w' hg
      rw [show putI 8 v = putL 8 v from HE.out] at hg
      obtain ⟨A, c, rfl, hb1, hs⟩ := hg
      have ht := fun q => back_test8 (v := v) (q := q) hv64
      have HT := Lib.hid ht
      clear ht
      generalize putL 8 v = l at *
      go_wp2_with fail
      refine (get_any _ _ _ l _ hs).mono ?_
      rintro e w2 ⟨rfl, hb2⟩
      have ht := HT.out _ rfl
      generalize num (l.take 8) = q at ht
      have hb3 := hb1.trans (hb2.mono hb1.size)
      clear hs hb2 hb1
      go_wp2_with fail
      refine (awake1_any _).mono ?_
      rintro e w3 ⟨rfl, hb4⟩
      go_wp2
      go_ret
      exact ⟨rfl, hb3.trans (hb4.mono hb3.size)⟩

/-! ### THE ROW's STEP: WRITTEN OUT: LEAVE IT -/
set_option maxRecDepth 100000 in
theorem lifted (os : Os) (started : os.Started) (H : Type) (enc : TypeId × Value → H) :
    ReturnsInHanded {} Try.checked os 5 .any (Rows.wordBackSpec.pre6 enc Try.prog Try.f5 Rows.wordBackRow.domain false) (Rows.wordBackSpec.post enc Try.prog Try.f5 false true false false) := by
  refine returnsInHanded_of_change (C := Try.checked) own started (by kernel_rfl) Try.func5
    (ChangeSpec.witness6 (enc := enc) (C := Try.checked) false ⟨#[], #[.int .i64 0, .int .u64 0], []⟩ 8 (by kernel_rfl) (by kernel_rfl) (by kernel_rfl) (by kernel_rfl)) ?_
  intro W base args ds gs before hval0 hW hcnd _
  have hval : ∀ (j : Nat) t v, Try.f5.params[j]? = some t → args[j]? = some v → Value.okWide Try.prog W .any base t v := hval0
  have hW' := hW
  obtain ⟨p, q, hA0, hV, rfl, hfz, hnd⟩ := hW
  have hA : DataW.TrodAll enc Try.prog W 0 (fun _ => true) true Try.f5.params.toList args.toList ds p := hA0
  rw [Try.params5] at hA hval
  obtain ⟨v0, vs0, d0, ds0, p0, q0, hargs, rfl, rfl, h0, r0⟩ := trodAll_cons hA
  obtain ⟨v1, vs1, d1, ds1, p1, q1, rfl, rfl, rfl, h1, r1⟩ := trodAll_cons r0
  obtain ⟨rfl, rfl, rfl⟩ := trodAll_nil r1
  obtain rfl : args = #[v0, v1] := by cases args; simp_all
  obtain ⟨rfl, rfl⟩ := trodVars_none hV
  obtain ⟨a0, rfl, rfl, rfl, w0⟩ := open_int Try.underlying3 (hval 0 3 v0 rfl rfl) h0
  obtain ⟨a1, rfl, rfl, rfl, w1⟩ := open_int Try.underlying22 (hval 1 22 v1 rfl rfl) h1
  clear hA0 hval0
  simp only [List.append_nil] at hW'
  refine (walk a0 a1 w0 w1 W).mono fun e W' ⟨he, hg⟩ => ?_
  subst he
  exact ⟨_, rfl, _, _, _, [], [], [], hW', trodAll_mk1 (shut_bool Try.underlying4 _), (trodAll_cons_mk (shut_int Try.underlying3 w0) (trodAll_cons_mk (shut_int Try.underlying22 w1) trodAll_mk0)), rfl, hg.frame _, fun h => by cases h⟩

theorem over : Rows.wordBackRow.holds Try.pinned (OpenSpec.ofChange Rows.wordBackSpec) :=
  OpenClaim.holds_of_wide 5 Try.f5 rfl rfl rfl rfl rfl rfl rfl ⟨rfl, rfl, rfl, rfl, rfl⟩ rfl rfl rfl rfl rfl (by kernel_rfl) Try.func5 (by kernel_rfl)
    (of_decide_eq_true (by kernel_rfl)) (by unfold Func.isWrapper; first | (rw [if_pos (by decide +kernel)]; kernel_rfl) | (rw [if_neg (by decide +kernel)]; exact ⟨rfl, rfl⟩))
    (fun os started H enc _ => lifted os started H enc)

/-- ████ THE STATEMENT ████ -/
theorem proved : Rows.WordBackSaid :=
  over
#print axioms proved
end Go.Proofs.Ytalbebcmihbnmaa.wordBack
