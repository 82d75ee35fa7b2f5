/-
  word.Of, Row.Bytes, over long rows; a slice of its own.
-/
import Derived.Test.YtkgmggjlnibgmaaScA
namespace Go.Proofs.Ytkgmggjlnibgmaa
open Go.RowKit Go
set_option linter.unusedVariables false
set_option linter.unusedSimpArgs false
def GivesO (w : World) (l : List Nat) (e : Ending) (w' : World) : Prop := ∃ v, e = .returned v ∧ Own w' w.heap.size v l ∧ Below w.heap.size w w'
theorem bclone_big (A : Option Addr) (n c : Nat) (l : List Nat) (w : World) (hs : BS w w.heap.size A n c l) (hn : n < 1000000) :
    Calls Try.prog 39 #[.slice A n c] w (GivesO w l) := by
  have hlen := hs.len
  have hby := hs.byte
  have hq := eql_nil
  rcases A with _ | ad
  · have hl : l = [] := by
      rcases Nat.eq_zero_or_pos n with h0 | h0
      · exact List.eq_nil_of_length_eq_zero (by omega)
      · obtain ⟨b, o, e, _⟩ := hs.at_ h0; cases e
    subst hl
    have HG : GivesO w [] (.returned (.slice none 0 0)) w := ⟨_, rfl, Own.nil _ _, Below.refl _ _⟩
    have H := Lib.hid HG
    clear HG hs hlen hby
    go_enter Try.func39, Try.ntmps39
    go_wp2
    go_ret
    exact H.out
  · have HS := Lib.hid hs
    have HL := Lib.hid hlen
    have HBY := Lib.hid hby
    clear hs hlen hby
    go_enter Try.func39, Try.ntmps39
    go_wp2_with (at_builtin; refine wp_app_all _ rfl _ _ rfl ad n c l rfl rfl HS.out (by omega) ?_; intro v' w1 hown1 hb1)
    have HG : GivesO w l (.returned v') w1 := ⟨v', rfl, hown1, hb1⟩
    have H := Lib.hid HG
    clear HG hown1 hb1
    go_ret
    exact H.out
theorem of_big (A : Option Addr) (n c : Nat) (l : List Nat) (w : World) (hs : BS w w.heap.size A n c l) (hn : n < 1000000) :
    Calls Try.prog 27 #[.slice A n c] w (OfTo w l) := by
  go_enter Try.func27, Try.ntmps27
  go_wp2_with fail
  refine (bclone_big A n c l _ hs hn).mono ?_
  rintro e w1 ⟨v1, rfl, ho1, hb1⟩
  obtain ⟨A1, c1, rfl, hx1⟩ := ho1.bs hs.byte
  have H := Lib.hid (of_close hb1 hx1)
  clear hs hb1 hx1 ho1
  go_wp2
  go_ret
  exact H.out
def BytesO (W : World) (g : Nat) (r : List Nat × List Nat × Int) (E : Ending) (W' : World) : Prop :=
  ∃ v, E = .returned v ∧ Own W' W.heap.size v r.1 ∧ (∀ i, r.1.getD i 0 < 256) ∧ RowSt W' g 72 r.2.1 r.2.2 ∧ W.grownBy W' (some g)
theorem bytes_big (g : Nat) (l : List Nat) (e n : Int) (W : World) (hst : RowSt W g 72 l e) (hl : l.length < 1000000) :
    Calls Try.prog 42 #[.pointer (some ⟨g, 0, none⟩), .int .i64 n] W (BytesO W g (takeS l e n (decide (0 ≤ n)))) := by
  have key : ∀ b : Bool, decide (0 ≤ n) = b → Calls Try.prog 42 #[.pointer (some ⟨g, 0, none⟩), .int .i64 n] W (BytesO W g (takeS l e n b)) := by
    intro b hb
    have HT := Lib.hid (take_any g l e n b W hst (fun h => of_decide_eq_true (hb.trans h)))
    have hlen := takeS_len l e n b
    cases b
    · have h0 : n < 0 := by have := of_decide_eq_false hb; omega
      have hd := hb
      clear hst hb
      go_enter Try.func42, Try.ntmps42
      go_wp2_with fail
      refine HT.out.mono ?_
      rintro E W1 ⟨A, c, rfl, hs, hr, hb⟩
      generalize takeS l e n false = r at *
      have hx := hs.more (Nat.le_of_lt hr.lt)
      go_wp2_with fail
      refine (bclone_big A _ c r.1 _ hx (by omega)).mono ?_
      rintro E W2 ⟨v2, rfl, ho2, hb2⟩
      have H : BytesO W g r (.returned v2) W2 := ⟨v2, rfl, ho2.base hb.size, hx.byte, hr.below hb2, only_trans hb (only_below hb2)⟩
      have HH := Lib.hid H
      clear H hs hr hb hb2 hx ho2 HT
      go_wp2
      go_ret
      exact HH.out
    · have h0 : 0 ≤ n := of_decide_eq_true hb
      clear hst hb
      go_enter Try.func42, Try.ntmps42
      go_wp2_with fail
      refine HT.out.mono ?_
      rintro E W1 ⟨A, c, rfl, hs, hr, hb⟩
      generalize takeS l e n true = r at *
      have hx := hs.more (Nat.le_of_lt hr.lt)
      go_wp2_with fail
      refine (bclone_big A _ c r.1 _ hx (by omega)).mono ?_
      rintro E W2 ⟨v2, rfl, ho2, hb2⟩
      have H : BytesO W g r (.returned v2) W2 := ⟨v2, rfl, ho2.base hb.size, hx.byte, hr.below hb2, only_trans hb (only_below hb2)⟩
      have HH := Lib.hid H
      clear H hs hr hb hb2 hx ho2 HT
      go_wp2
      go_ret
      exact HH.out
  exact key _ rfl
end Go.Proofs.Ytkgmggjlnibgmaa
