/-
  Layer 18: Resize of a page.
-/
import Derived.Test.YtflgcddgocojpaaDoorSlJ
namespace Go.Proofs.YtflgcddgocojpaaDoor
open Go.RowKit Go
set_option linter.unusedVariables false
set_option linter.unusedSimpArgs false
set_option maxHeartbeats 1000000

def ResTo (w : World) (z S : Nat) (t : List Nat) (i n : Int) (e : Ending) (w' : World) : Prop :=
  (mayP z S t = false ∧ e = .returned (.tuple #[.slice none 0 0, .int .i64 4]) ∧ Below w.heap.size w w') ∨
  (mayP z S t = true ∧ ¬ Has z S t i ∧ e = .returned (.tuple #[.slice none 0 0, .int .i64 6]) ∧ Below w.heap.size w w') ∨
  (mayP z S t = true ∧ Has z S t i ∧ holdsB z n = false ∧ e = .returned (.tuple #[.slice none 0 0, .int .i64 1]) ∧ Below w.heap.size w w') ∨
  (mayP z S t = true ∧ Has z S t i ∧ holdsB z n = true ∧ ∃ h cc, e = .returned (.tuple #[.slice (some ⟨h, 0, none⟩) 256 cc, .int .i64 0]) ∧
    PgO w' w.heap.size h cc (resL t (i.toNat * z) z n.toNat (num (((winL t z i.toNat).drop 2).take 6))) ∧ Below w.heap.size w w')
theorem resize18_any (k b q c : Nat) (i n : Int) (t : List Nat) (w : World) (hS : SZ w) (hk : k < 8) (hs : BS w w.heap.size (some ⟨b, q, none⟩) 256 c t) :
    Calls Tryd.prog 14 #[.slice (some ⟨b, q, none⟩) 256 c, .int .i64 (k : Int), .int .i64 i, .int .i64 n] w (ResTo w (clZ k) (clS k) t i n) := by
  obtain ⟨z1, z2, z3, z4, z5, -⟩ := cl_fits k hk
  have HO := Lib.hid (find_any k b q c i t w hS hk hs)
  clear hs hS
  unfold FindTo at HO
  generalize clZ k = z at *
  generalize clS k = S at *
  go_enter Tryd.func14, Tryd.ntmps14
  go_wp2_with fail
  refine HO.out.mono ?_
  clear HO
  rintro e w1 (⟨hm, rfl, hb⟩ | ⟨hm, hh, rfl, hb⟩ | ⟨hm, hh, h, cc, rfl, hp, hb⟩)
  · have HR : Hid (ResTo w z S t i n (.returned (.tuple #[.slice none 0 0, .int .i64 4])) w1) := Lib.hid (.inl ⟨hm, rfl, hb⟩)
    clear hm hb
    go_wp2_with fail
    go_ret2
    exact HR.out
  · have HR : Hid (ResTo w z S t i n (.returned (.tuple #[.slice none 0 0, .int .i64 6])) w1) := Lib.hid (.inr (.inl ⟨hm, hh, rfl, hb⟩))
    clear hm hb hh
    go_wp2_with fail
    go_ret2
    exact HR.out
  · obtain ⟨h0, h1, h2⟩ := id hh
    have hj : i.toNat < S := by omega
    have hle := slot_le z3 hj
    have HOL := Lib.hid (holds_w (some ⟨h, i.toNat * z, none⟩) z n w1 z1 z2)
    cases hho : holdsB z n
    · rw [hho] at HOL
      have HR : Hid (ResTo w z S t i n (.returned (.tuple #[.slice none 0 0, .int .i64 1])) w1) := Lib.hid (.inr (.inr (.inl ⟨hm, hh, hho, rfl, hb⟩)))
      clear hm hb hh h0 h1 h2 hj hp hle hho
      generalize i.toNat * z = m at *
      go_wp2_with fail
      refine HOL.out.mono ?_
      rintro e w2 ⟨rfl, rfl⟩
      go_wp2_with fail
      go_ret2
      exact HR.out
    · rw [hho] at HOL
      have hn : 1 ≤ n ∧ n ≤ (z : Int) - 8 := by unfold holdsB at hho; exact of_decide_eq_true hho
      obtain ⟨m, rfl⟩ : ∃ m : Nat, n = (m : Int) := ⟨n.toNat, by omega⟩
      have hbs := bs_win hp.bs z3 z1 hj
      rw [Nat.zero_add] at hbs
      have HRS := Lib.hid (resize_P h (i.toNat * z) z m _ cc t w1 hp hle z1 z2 (by omega) (by omega) _ hbs)
      have HR : Hid (∀ w2, PgO w2 w.heap.size h cc (resL t (i.toNat * z) z m (num (((winL t z i.toNat).drop 2).take 6))) → Below w.heap.size w w2 → ResTo w z S t i (m : Int) (.returned (.tuple #[.slice (some ⟨h, 0, none⟩) 256 cc, .int .i64 0])) w2) :=
        Lib.hid (fun w2 hp2 hb2 => .inr (.inr (.inr ⟨hm, hh, hho, h, cc, rfl, hp2, hb2⟩)))
      have HB := Lib.hid hb
      have hhB := hp.hB
      clear hm hb hh h0 h1 h2 hj hp hle hho hn hbs
      generalize winL t z i.toNat = u at *
      generalize i.toNat * z = mm at *
      go_wp2_with fail
      refine HOL.out.mono ?_
      rintro e w2 ⟨rfl, rfl⟩
      go_wp2_with fail
      refine HRS.out.mono ?_
      rintro e w2 ⟨rfl, hp2, w3, hb3, hg3⟩
      have HF := Lib.hid (HR.out w2 hp2 (below_own (HB.out.trans (hb3.mono HB.out.size)) hhB hg3))
      clear hp2 hb3 hg3
      go_wp2_with fail
      go_ret2
      exact HF.out
end Go.Proofs.YtflgcddgocojpaaDoor
