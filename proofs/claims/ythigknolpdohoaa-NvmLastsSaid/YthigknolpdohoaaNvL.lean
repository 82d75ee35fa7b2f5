/-
  A device's acts.
-/
import Derived.Test.YthigknolpdohoaaNvK
namespace Go.Proofs.Ythigknolpdohoaa
open Go.RowKit Go
set_option linter.unusedVariables false
set_option linter.unusedSimpArgs false
set_option maxRecDepth 100000
theorem eql_nilA (W : World) (a : Option Addr) (n c : Nat) : (binOp .eql 47 (.slice a n c) (.slice none 0 0)).run Try.prog W = .ok (.bool a.isNone) W := by
  simp [binOp, run_equal_slice_nil W 47 ActT a n c Try.underlying47]
theorem rowJ {w : World} {B s n : Nat} {v : Value} {e : TypeId} {vs : List Value} (h : w.ownsRow B e s v n vs) : ∃ A c, v = .slice A n c := by
  obtain ⟨_, k⟩ := h
  rcases k with ⟨rfl, h0⟩ | ⟨g, cap, cur, rfl, _⟩
  · exact ⟨none, 0, by rw [h0]⟩
  · exact ⟨_, _, rfl⟩
/-- the call gives so many acts -/
def AcTo (w : World) (k : Nat) (e : Ending) (w' : World) : Prop := ∃ A c, e = .returned (.slice A k c) ∧ Below w.heap.size w w'
set_option maxHeartbeats 2000000 in
theorem clone_M (B k : Nat) (av : Value) (al : List Value) (w : World) (h : w.ownsRow B ActT 3 av k al) (hk : 0 < k) (hk9 : k < 100000) (hone : ∀ u ∈ al, u.oneCell' = true) :
    Calls Try.prog 54 #[av] w (AcTo w k) := by
  obtain ⟨hl, h2⟩ := h
  rcases h2 with ⟨rfl, h0⟩ | ⟨ga, cap, cur, rfl, hg, hh, hn, hm, hs, ht⟩
  · omega
  have hlt : ga < w.heap.size := blk_lt hh
  obtain ⟨i0, hi, hz0, hz1, hz2⟩ := info_parts info_act
  have HX : Hid ((w.alloc (.cells #[] ActT)).ownsRow w.heap.size ActT 3 (.slice (some ⟨w.heap.size, 0, none⟩) 0 0) 0 []) := Lib.hid ⟨rfl, .inr ⟨w.heap.size, 0, #[], rfl, Nat.le_refl _, heap_alloc_new _ _, Nat.le_refl _, by unfold maxLen; omega, rfl, rfl⟩⟩
  have HAL : Hid (Below w.heap.size w (w.alloc (.cells #[] ActT))) := Lib.hid ((Below.refl _ _).alloc (Nat.le_refl _) _)
  have HH : Hid ((w.alloc (.cells #[] ActT)).heap[ga]? = some (.cells cur ActT (0, 0))) := Lib.hid (blk_alloc hh _)
  have HT : Hid (∀ j u, al[j]? = some u → cur[j]? = some u) := Lib.hid (fun j u hj => by
    have hj3 : j < k * 3 := by have := (List.getElem?_eq_some_iff.mp hj).1; omega
    rw [← ht, List.getElem?_take_of_lt hj3] at hj
    simpa using hj)
  have HLN := Lib.hid hl
  have HONE := Lib.hid hone
  have HI := Lib.hid hi
  have HZ := Lib.hid (And.intro hz0 (And.intro hz1 hz2))
  have hq := eql_nilA
  clear hl hh hn hm hs ht hone hi hz0 hz1 hz2
  go_enter Try.func54, Try.ntmps54
  go_wp2_with (at_builtin; refine wpList_plain rfl fun K0 hK => ?_; refine wp_append_own _ (.tmp 5) (.tmp 6) 47 rfl w.heap.size ActT i0 (.agg #[.int .i64 0, .int .i64 0, .int .i64 0]) 3 24 Try.underlying47 HI.out HZ.out.1 HZ.out.2.1 HZ.out.2.2 rfl (by decide) (.slice (some ⟨w.heap.size, 0, none⟩) 0 0) 0 [] rfl HX.out ⟨ga, 0, none⟩ k cap al rfl HLN.out (fun j u hj => by rw [Go.WideShapes.add_plain, Nat.zero_add, blk_cell HH.out j]; exact HT.out j u hj) HONE.out (by unfold maxLen; omega) (by omega) HAL.out.size ?_; intro v9 w9 ho9 hg9 _; obtain ⟨A9, c9, e9⟩ : ∃ A c, v9 = .slice A (0 + k) c := rowJ ho9; rw [Nat.zero_add] at e9; subst e9; have HF : Hid (AcTo w k (.returned (.slice A9 k c9)) w9) := Lib.hid ⟨A9, c9, rfl, HAL.out.trans ((Below.refl _ _).grown hg9 HAL.out.size (fun i hi => (World.ownsRow.lt HX.out i hi).1))⟩; clear ho9 hg9; refine hK _ _ ?_)
  go_ret
  exact HF.out
theorem acts_M (g b L c k : Nat) (off : Bool) (av pv : Value) (al : List Value) (u : Int) (ws : List Wd) (w : World) (h : DevM w g b L c off av k al u pv ws) (hk : 0 < k) (hk9 : k < 100000) (hone : ∀ u ∈ al, u.oneCell' = true) :
    Calls Try.prog 22 #[.pointer (some ⟨g, 0, none⟩)] w (AcTo w k) := by
  have HC := Lib.hid (clone_M (g + 1) k av al w h.dev.own hk hk9 hone)
  have c2 : w.cell? ⟨g, 2, none⟩ = some av := blk_cell h.dev.dev 2
  clear h hone
  go_enter Try.func22, Try.ntmps22
  go_wp2_with fail
  refine HC.out.mono ?_
  rintro e w1 ⟨A, c, rfl, hb⟩
  have HB := Lib.hid hb
  clear hb
  go_wp2
  go_ret
  exact ⟨A, c, rfl, HB.out⟩
end Go.Proofs.Ythigknolpdohoaa
