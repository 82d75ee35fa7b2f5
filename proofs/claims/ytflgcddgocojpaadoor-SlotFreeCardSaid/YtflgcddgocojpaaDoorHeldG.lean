/-
  HeldF's taking, where the last stores wait for an operation by way of others. No program is named here.
-/
import Derived.Test.YtflgcddgocojpaaDoorHeldF
namespace Go.Proofs.YtflgcddgocojpaaDoor
open Go
set_option linter.unusedVariables false
set_option linter.unusedSimpArgs false
section
variable {P : Program} {ops : Array Oper} {Q : Exit → Act → World → Prop} {md : Region.Mode} {S : World → Prop} {fin : List Nat}
/-- those among the first operations that wait for number i, in whatever steps -/
def behindL (md : Region.Mode) (i : Nat) : List Oper → Nat → List Nat → List Nat
  | [], _, acc => acc
  | o :: r, k, acc => behindL md i r (k + 1) (if o.after.any (fun e => Region.binds md e && (e.on == i || acc.contains e.on)) then k :: acc else acc)
def closedB (md : Region.Mode) (ops : Array Oper) (listed : Array Bool) : Bool :=
  (List.range ops.size).all fun k => !listed.getD k false || (match ops[k]? with | some o => o.after.all (fun e => !Region.binds md e || listed.getD e.on false) | none => true)
def ClosedP (md : Region.Mode) (ops : Array Oper) (listed : Array Bool) : Prop := ∀ k o, ops[k]? = some o → listed.getD k false = true → ∀ e ∈ o.after, Region.binds md e = true → listed.getD e.on false = true
theorem closed_of {listed : Array Bool} (h : closedB md ops listed = true) : ClosedP md ops listed := fun k o ho hk e he hb => by
  have hlt : k < ops.size := (Array.getElem?_eq_some_iff.1 ho).1
  have h1 := List.all_eq_true.mp h k (List.mem_range.2 hlt)
  simp only [ho, hk, Bool.not_true, Bool.false_or] at h1
  have h2 := Array.all_eq_true'.1 h1 e he
  simpa [hb] using h2
theorem closed_set {listed : Array Bool} (h : ClosedP md ops listed) {j : Nat} (hr : j ∈ Region.ready md ops listed) : ClosedP md ops (listed.setIfInBounds j true) := fun k o ho hk e he hb => by
  have up : ∀ q, listed.getD q false = true → (listed.setIfInBounds j true).getD q false = true := fun q hq => by
    by_cases e : q = j
    · subst e
      rcases Nat.lt_or_ge q listed.size with h' | h'
      · simp [h']
      · simp [Array.getElem?_eq_none h'] at hq
    · simp [Array.getElem?_setIfInBounds, Ne.symm e] at hq ⊢; exact hq
  by_cases hkj : k = j
  · subst hkj
    obtain ⟨_, o', ho', hall⟩ := mem_ready.1 hr
    obtain rfl : o = o' := Option.some.inj (ho.symm.trans ho')
    exact up _ (hall e he hb)
  · refine up _ (h k o ho ?_ e he hb)
    simp [Array.getElem?_setIfInBounds, Ne.symm hkj] at hk ⊢; exact hk
theorem behind_un {listed : Array Bool} {i : Nat} (hcl : ClosedP md ops listed) (hi : listed.getD i false = false) : ∀ (r : List Oper) (k : Nat) (acc : List Nat), (∀ q o, r[q]? = some o → ops[k + q]? = some o) →
    (∀ j ∈ acc, listed.getD j false = false ∧ ∃ o, ops[j]? = some o ∧ ∃ e ∈ o.after, Region.binds md e = true ∧ listed.getD e.on false = false) →
    ∀ j ∈ behindL md i r k acc, listed.getD j false = false ∧ ∃ o, ops[j]? = some o ∧ ∃ e ∈ o.after, Region.binds md e = true ∧ listed.getD e.on false = false
  | [], _, _, _, h, j, hj => h j hj
  | o :: r, k, acc, hops, h, j, hj => by
    refine behind_un hcl hi r (k + 1) _ (fun q o' hq => by have := hops (q + 1) o' hq; rwa [show k + 1 + q = k + (q + 1) by omega]) ?_ j hj
    intro j' hj'
    split at hj'
    · rename_i hany
      rcases List.mem_cons.1 hj' with rfl | hj'
      · obtain ⟨e, he, hb⟩ := Array.any_eq_true'.1 hany
        simp only [Bool.and_eq_true, Bool.or_eq_true, beq_iff_eq] at hb
        have ho : ops[j']? = some o := hops 0 o rfl
        have hun : listed.getD e.on false = false := by
          rcases hb.2 with h1 | h1
          · rw [h1]; exact hi
          · exact (h e.on (by simpa using h1)).1
        refine ⟨?_, o, ho, e, he, hb.1, hun⟩
        cases hq : listed.getD j' false
        · rfl
        · have := hcl j' o ho hq e he hb.1
          rw [hun] at this; cases this
      · exact h j' hj'
    · exact h j' hj'
/-- each of the operations fin waits for number i, in whatever steps -/
def waitsFar (md : Region.Mode) (ops : Array Oper) (fin : List Nat) (i : Nat) : Bool := fin.all fun k => (behindL md i ops.toList 0 []).contains k
theorem wpAnyG_first {i : Nat} {oi : Oper} {v : Value} (hi : ops[i]? = some oi) (hsel : ∀ (j : Nat) (o : Oper) cs b, ops[j]? = some o → o.op ≠ .select cs b)
    (hQ : ∀ c a w, Q (.panic c) (a.put oi.dst v) w → Q (.panic c) a w) (hfin : waitsFar md ops fin i = true) :
    ∀ (fuel : Nat) (listed : Array Bool) (a : Act) (w : World), ClosedP md ops listed →
      (∀ j oj, ops[j]? = some oj → j ≠ i → listed.getD j true = false → (∀ e ∈ oj.after, Region.binds md e = true → e.on ≠ i) → oi.apart ops oj = true) →
      i ∈ Region.ready md ops listed → YieldsIf P ops S oi v a → S w →
      wpAnyF P md ops Q S fin fuel (listed.setIfInBounds i true) (a.put oi.dst v) w → wpAnyF P md ops Q S fin (fuel + 1) listed a w := by
  intro fuel
  induction fuel with
  | zero =>
    intro listed a w _ _ hr hy hS H
    refine ⟨fun h => (by rw [h] at hr; cases hr), fun j hj => ?_⟩
    by_cases hji : j = i
    · subst hji; exact hy.wpOp hi hS ⟨fun _ => hS, H⟩
    · have := ready_mono hj hji
      rw [H.1] at this
      cases this
  | succ fuel ih =>
    intro listed a w hcl hfree hr hy hS H
    refine ⟨fun h => (by rw [h] at hr; cases hr), fun j hj => ?_⟩
    by_cases hji : j = i
    · subst hji; exact hy.wpOp hi hS ⟨fun _ => hS, H⟩
    · obtain ⟨hjun, oj, hoj, hall⟩ := mem_ready.1 hj
      have hun : listed.getD i false = false := by
        have h0 := (mem_ready.1 hr).1
        rcases Nat.lt_or_ge i listed.size with h' | h'
        · simpa [h'] using h0
        · simp [Array.getElem?_eq_none h']
      have hnot : ∀ e ∈ oj.after, Region.binds md e = true → e.on ≠ i := fun e he hb heq => by
        have h1 := hall e he hb
        rw [heq, hun] at h1; cases h1
      have hjf : j ∉ fin := fun hm => by
        have hc := List.all_eq_true.mp hfin j hm
        obtain ⟨_, o, ho, e, he, hb, hu⟩ := behind_un (k := 0) (r := ops.toList) (acc := []) hcl hun (fun q o hq => by rw [Nat.zero_add]; simpa using hq) (fun _ h => by cases h) j (by simpa using hc)
        obtain rfl : o = oj := Option.some.inj (ho.symm.trans hoj)
        have := hall e he hb
        rw [hu] at this; cases this
      have h1 := H.2 j (ready_mono hj hji)
      have h2 := wpOp_putIf hoj (hfree j oj hoj hji hjun hnot) (fun cs b => hsel i oi cs b hi) (fun cs b => hsel j oj cs b hoj) hQ hy h1
      have hfree' : ∀ k ok, ops[k]? = some ok → k ≠ i → (listed.setIfInBounds j true).getD k true = false →
          (∀ e ∈ ok.after, Region.binds md e = true → e.on ≠ i) → oi.apart ops ok = true := fun k ok hk hki hun hno => by
        refine hfree k ok hk hki ?_ hno
        by_cases hjk : j = k
        · subst hjk; exact hjun
        · rw [getD_set_ne true hjk] at hun; exact hun
      refine wpOp_mono (fun a' w' h3 => ⟨h3.2.1, ih (listed.setIfInBounds j true) a' w' (closed_set hcl hj) hfree' (ready_mono hr (Ne.symm hji)) h3.1 (h3.2.1 hjf) ?_⟩) h2
      rw [Array.setIfInBounds_comm _ _ hji]
      exact h3.2.2
theorem wpAnyG_take {i : Nat} {oi : Oper} {v : Value} {fuel : Nat} {listed : Array Bool} {a : Act} {w : World} (hi : ops[i]? = some oi)
    (hs : Region.noSelect ops = true) (hf : Region.free md ops listed i = true) (hr : (Region.ready md ops listed).contains i = true) (hfin : waitsFar md ops fin i = true) (hcl : closedB md ops listed = true)
    (hQ : ∀ c a w, Q (.panic c) (a.put oi.dst v) w → Q (.panic c) a w) (hy : YieldsIf P ops S oi v a) (hS : S w)
    (h : wpAnyF P md ops Q S fin fuel (listed.setIfInBounds i true) (a.put oi.dst v) w) : wpAnyF P md ops Q S fin (fuel + 1) listed a w :=
  wpAnyG_first hi (Region.noSelect_spec hs) hQ hfin fuel listed a w (closed_of hcl) (Region.free_spec hi hf) (by simpa using hr) hy hS h
end
end Go.Proofs.YtflgcddgocojpaaDoor
