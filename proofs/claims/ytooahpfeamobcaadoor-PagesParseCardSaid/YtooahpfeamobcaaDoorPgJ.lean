/-
  Take, Give, Turn.
-/
import Derived.Test.YtooahpfeamobcaaDoorPgI
namespace Go.Proofs.YtooahpfeamobcaaDoor
open Go.RowKit Go
set_option linter.unusedVariables false
set_option linter.unusedSimpArgs false
set_option maxRecDepth 100000
/-- pages, or an error -/
def AnsTo (w : World) (R : Nat × List Pg) (e : Ending) (w' : World) : Prop := ∃ A c, e = .returned (.tuple #[.slice A R.2.length c, .int .i64 (R.1 : Int)]) ∧ PS w' A R.2.length c R.2 ∧ Below w.heap.size w w'
def ErrNil (R : Nat × List Pg) : Prop := R.1 ≠ 0 → R.2 = []
theorem takeF_err (l : List Pg) (a s n : Int) : ErrNil (takeF l a s n) := by
  unfold takeF ErrNil
  split
  · exact fun _ => rfl
  split
  · exact fun _ => rfl
  split
  · exact fun _ => rfl
  split
  · exact fun _ => rfl
  · exact fun h => absurd rfl h
theorem giveF_err (l : List Pg) (a : Int) : ErrNil (giveF l a) := by
  unfold giveF ErrNil
  split
  · exact fun _ => rfl
  split
  · exact fun _ => rfl
  · exact fun h => absurd rfl h
theorem turnF_err (l : List Pg) (a c : Int) : ErrNil (turnF l a c) := by
  unfold turnF ErrNil
  split
  · exact fun _ => rfl
  split
  · exact fun _ => rfl
  split
  · split
    · exact fun _ => rfl
    · exact fun h => absurd rfl h
  split
  · exact fun _ => rfl
  split
  · exact fun _ => rfl
  · exact fun h => absurd rfl h
theorem nil_ans {w w' : World} {R : Nat × List Pg} (h : R.2 = []) (hb : Below w.heap.size w w') : AnsTo w R (.returned (.tuple #[.slice none 0 0, .int .i64 (R.1 : Int)])) w' :=
  ⟨none, 0, by rw [h]; rfl, by rw [h]; exact PS.nil _, hb⟩
set_option maxHeartbeats 4000000 in
theorem changed_take (A : Option Addr) (n c b0 b1 b2 : Nat) (l : List Pg) (R : Nat × List Pg) (w : World) (h : PS w A n c l) (hS : SZ w) (hn : n < 1000) (hR0 : mayL l = false → R = (4, [])) (hR : ErrNil R)
    (HC : ∀ W v, OwnP W w.heap.size OT v l → Below w.heap.size w W → mayL l = true → Calls Tryd.prog 33 #[v, .pointer (some ⟨b0, 0, none⟩), .pointer (some ⟨b1, 0, none⟩), .pointer (some ⟨b2, 0, none⟩)] W (ChgTo W w.heap.size v R)) :
    Calls Tryd.prog 32 #[.slice A n c, .func (Fn.func 33) #[] #[.pointer (some ⟨b0, 0, none⟩), .pointer (some ⟨b1, 0, none⟩), .pointer (some ⟨b2, 0, none⟩)]] w (AnsTo w R) := by
  have HCK := Lib.hid (check_any A n c l w h hS)
  have HP := Lib.hid h
  have HSZ := Lib.hid hS
  have HCH := Lib.hid HC
  have HR0 := Lib.hid hR0
  have HR := Lib.hid hR
  clear h hS HC hR0 hR
  obtain ⟨x, hx⟩ : ∃ x, x = mayL l := ⟨_, rfl⟩
  have HX := Lib.hid hx
  rw [← hx] at HCK
  clear hx
  cases x
  · rw [if_neg (by decide)] at HCK
    have HE : Hid (∀ w', Below w.heap.size w w' → AnsTo w R (.returned (.tuple #[.slice none 0 0, .int .i64 4])) w') := Lib.hid (fun w' hb => by
      have e := HR0.out HX.out.symm
      have := nil_ans (R := R) (w := w) (w' := w') (by rw [e]) hb
      rw [e] at this
      rw [e]
      exact this)
    go_enter Tryd.func32, Tryd.ntmps32
    go_wp2_with fail
    refine HCK.out.mono ?_
    rintro e w' ⟨rfl, hb⟩
    have HB := Lib.hid hb
    clear hb
    go_wp2
    go_ret2
    exact HE.out _ HB.out
  · rw [if_pos rfl] at HCK
    go_enter Tryd.func32, Tryd.ntmps32
    go_wp2_with fail
    refine HCK.out.mono ?_
    rintro e w1 ⟨rfl, hb⟩
    have HB1 := Lib.hid hb
    have HCL := Lib.hid (clone_any A n c l w1 (HP.out.below hb) (by omega))
    clear hb
    go_wp2_with fail
    refine HCL.out.mono ?_
    rintro e w2 ⟨v, rfl, ho, hb⟩
    have HB2 := Lib.hid (HB1.out.trans (hb.mono HB1.out.size))
    have HO2 : Hid (OwnP w2 w.heap.size OT v l) := Lib.hid (by
      obtain ⟨g1, g2⟩ := ho
      refine ⟨g1, ?_⟩
      rcases g2 with g2 | ⟨g, cap, cur, hv, hg, hh⟩
      · exact .inl g2
      · exact .inr ⟨g, cap, cur, hv, Nat.le_trans HB1.out.size hg, hh⟩)
    clear ho hb
    go_wp2_with fail
    refine (HCH.out w2 v HO2.out HB2.out HX.out.symm).mono ?_
    rintro e w3 ⟨rfl, hb, ho⟩
    have HB3 := Lib.hid (HB2.out.trans hb)
    have HO3 := Lib.hid ho
    clear hb ho
    obtain ⟨r0, hr0⟩ : ∃ r0 : Nat, r0 = R.1 := ⟨_, rfl⟩
    rw [← hr0]
    have HR00 := Lib.hid hr0
    clear hr0
    by_cases h0 : r0 = 0
    · subst h0
      have HE : Hid (AnsTo w R (.returned (.tuple #[v, .int .i64 0])) w3) := Lib.hid (by
        obtain ⟨A', c', hv, hp, _⟩ := (HO3.out HR00.out.symm).ps
        exact ⟨A', c', by rw [hv, ← HR00.out]; rfl, hp, HB3.out⟩)
      go_wp2
      go_ret2
      exact HE.out
    · have HE : Hid (AnsTo w R (.returned (.tuple #[.slice none 0 0, .int .i64 (r0 : Int)])) w3) := Lib.hid (by
        have := nil_ans (R := R) (w := w) (w' := w3) (HR.out (by rw [← HR00.out]; exact h0)) HB3.out
        rw [← HR00.out] at this
        exact this)
      have h0i : ¬ (r0 : Int) = 0 := by omega
      have h0b : ((r0 : Int) != 0) = true := by simp [h0]
      go_wp2
      go_ret2
      exact HE.out
end Go.Proofs.YtooahpfeamobcaaDoor
