/-
  What a device tells of its acts.
-/
import Derived.Test.YtbanknppdgiflaaTrX
import Derived.Lib.SliceRun
import Derived.Deep.AppendLies
namespace Go.Proofs.Ytbanknppdgiflaa
open Go.RowKit Go
set_option linter.unusedVariables false
set_option linter.unusedSimpArgs false
theorem cloneA_nil (w : World) : Calls Try.prog 27 #[.slice none 0 0] w fun e w' => e = .returned (.slice none 0 0) ∧ w = w' := by
  have qT : ∀ (w : World) (a : Option Addr) (n c n' c' : Nat), (binOp .eql 52 (.slice a n c) (.slice none n' c')).run Try.prog w = .ok (.bool a.isNone) w := fun w a n c n' c' => Lib.run_eql_slice_nil w _ _ a n c n' c' Try.underlying52
  go_enter Try.func27, Try.ntmps27
  go_wp2
  go_ret
  exact ⟨rfl, rfl⟩
set_option maxHeartbeats 1000000 in
theorem cloneA_some (B b k cap : Nat) (al : List Value) (w : World) (h : w.ownsRow B ActT 3 (.slice (some ⟨b, 0, none⟩) k cap) k al) (hk0 : 0 < k) (hk : k < 100000) (h1 : ∀ u ∈ al, u.oneCell' = true) :
    Calls Try.prog 27 #[.slice (some ⟨b, 0, none⟩) k cap] w fun e w' => (∃ A c, e = .returned (.slice A k c)) ∧ Below w.heap.size w w' := by
  have qT : ∀ (w : World) (a : Option Addr) (n c n' c' : Nat), (binOp .eql 52 (.slice a n c) (.slice none n' c')).run Try.prog w = .ok (.bool a.isNone) w := fun w a n c n' c' => Lib.run_eql_slice_nil w _ _ a n c n' c' Try.underlying52
  obtain ⟨i0, hi, hz0, hz1, hz2⟩ := info_parts info_act
  have hall : al.length = k * 3 := h.1
  have hb0 : Below w.heap.size w (w.alloc (.cells #[] ActT)) := (Below.refl _ _).alloc (Nat.le_refl _) _
  have HN : Hid (∀ j u, al[j]? = some u → (w.alloc (.cells #[] ActT)).cell? ((⟨b, 0, none⟩ : Addr).add j) = some u) := Lib.hid (by
    intro j u hj
    obtain ⟨_, h2⟩ := h
    rcases h2 with ⟨h2, _⟩ | ⟨g, cp, cur, hv, hg, hh, hnc, hm, hs, ht⟩
    · cases h2
    · injection hv with hv1 hv2 hv3
      injection hv1 with hv1
      injection hv1 with hv1
      subst hv1
      have hjl : j < al.length := (List.getElem?_eq_some_iff.mp hj).1
      rw [Go.WideShapes.add_plain, Nat.zero_add]
      have hc : w.cell? ⟨b, j, none⟩ = some u := by
        rw [blk_cell hh, ← Array.getElem?_toList]
        rw [← ht, List.getElem?_take_of_lt (by omega)] at hj
        exact hj
      exact (World.cell?_alloc_lt w _ ⟨b, j, none⟩ (blk_lt hh)).trans hc)
  have HO : Hid ((w.alloc (.cells #[] ActT)).ownsRow w.heap.size ActT 3 (.slice (some ⟨w.heap.size, 0, none⟩) 0 0) 0 []) := Lib.hid ⟨rfl, .inr ⟨w.heap.size, 0, #[], rfl, Nat.le_refl _, heap_alloc_new w _, by omega, by decide, rfl, rfl⟩⟩
  have HB0 := Lib.hid hb0
  have HL := Lib.hid hall
  have H1 := Lib.hid h1
  clear h hall hb0 h1
  go_enter Try.func27, Try.ntmps27
  go_wp2_with (at_builtin; refine wpList_append_lies _ rfl (.tmp 5) (.tmp 6) 52 rfl w.heap.size ActT i0 _ 3 24 Try.underlying52 hi hz0 hz1 hz2 rfl (by omega) (.slice (some ⟨w.heap.size, 0, none⟩) 0 0) 0 [] rfl HO.out ⟨b, 0, none⟩ k cap al rfl HL.out HN.out H1.out hk0 (by unfold maxLen; omega) (by omega) (by simp) (w.heap.size + 1) (by simp) ?_; intro gg cc w1 hown1 hg1 hat1 hlt1)
  have HE : Hid (Below w.heap.size w w1) := Lib.hid (HB0.out.grown hg1 (by simp) (fun j e => by
    have e2 : w.heap.size = j := by simpa [Value.ownBlock] using e
    omega))
  clear hown1 hg1 hat1 hlt1
  go_wp2
  go_ret
  exact ⟨⟨_, _, rfl⟩, HE.out⟩
theorem acts8_any (g k : Nat) (lv : Value) (off : Bool) (av pv : Value) (al : List Value) (u : Int) (w : World) (h : DevK w g lv off av k al u pv) (hk : k < 100000) (hk0 : k = 0 → av = .slice none 0 0) (h1 : ∀ u ∈ al, u.oneCell' = true) :
    Calls Try.prog 18 #[.pointer (some ⟨g, 0, none⟩)] w fun e w' => (∃ A c, e = .returned (.slice A k c)) ∧ Below w.heap.size w w' := by
  have kl := h.dev.acts
  have key : Calls Try.prog 27 #[av] w fun e w' => (∃ A c, e = .returned (.slice A k c)) ∧ Below w.heap.size w w' := by
    by_cases h0 : k = 0
    · rw [hk0 h0]
      refine (cloneA_nil w).mono ?_
      rintro e w' ⟨he, rfl⟩
      exact ⟨⟨none, 0, by rw [he, h0]⟩, Below.refl _ _⟩
    · rcases h.own.2 with ⟨_, h2⟩ | ⟨b9, cap, cur, hv, hr⟩
      · exact absurd h2 h0
      · have := h.own
        rw [hv] at this ⊢
        exact cloneA_some (g + 1) b9 k cap al w this (by omega) hk h1
  have HK := Lib.hid key
  clear h key hk hk0 h1
  go_enter Try.func18, Try.ntmps18
  go_wp2_with fail
  refine HK.out.mono ?_
  rintro e w1 ⟨⟨A, c, rfl⟩, hb⟩
  have HB := Lib.hid hb
  clear hb
  go_wp2
  go_ret
  exact ⟨⟨A, c, rfl⟩, HB.out⟩
end Go.Proofs.Ytbanknppdgiflaa
