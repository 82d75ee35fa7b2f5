/-
  A device: an act that is refused; Store, Flush, Fence as acts.
-/
import Derived.Test.YthigknolpdohoaaNvD
namespace Go.Proofs.Ythigknolpdohoaa
open Go.RowKit Go
set_option linter.unusedVariables false
set_option linter.unusedSimpArgs false
set_option maxHeartbeats 400000 in
theorem do_ref (g L c9 : Nat) (A : Option Addr) (off : Bool) (av pv : Value) (u a b c : Int) (fv : Value) (w : World) (h : DevB w g (.slice A L c9) off av u pv) (hL : L ≤ 1024) (hr : refS8 L off b c ≠ 0) :
    Calls Try.prog 37 #[.pointer (some ⟨g, 0, none⟩), .agg #[.int .i64 a, .int .i64 b, .int .i64 c], fv] w fun e w' => e = .returned (.int .i64 (refS8 L off b c)) ∧ Below w.heap.size w w' := by
  have HR := Lib.hid (fun W (hW : DevB W g (.slice A L c9) off av u pv) => refuses_any g L c9 A off av pv u b c W hW hL)
  have HD := Lib.hid (h.next ((Below.refl w.heap.size w).alloc (Nat.le_refl _) (.cells #[.int .i64 a, .int .i64 b, .int .i64 c] ActT)))
  generalize refS8 L off b c = q at *
  have hq : ((q : Int) != 0) = true := by rw [bne_iff_ne]; exact hr
  clear h hr
  go_enter Try.func37, Try.ntmps37
  go_wp2_with fail
  refine (HR.out _ HD.out).mono ?_
  rintro e w1 ⟨rfl, rfl⟩
  go_wp2
  go_ret
  exact ⟨rfl, (Below.refl _ _).alloc (Nat.le_refl _) _⟩
/-- Fence as an act: what its closure does, told by a contract -/
theorem fence_do (g k L c : Nat) (A : Option Addr) (av pv : Value) (al : List Value) (R : World → Prop) (w : World) (h : DevK w g (.slice A L c) false av k al 0 pv) (hL : L ≤ 1024) (hk : k < 16384)
    (hc : ∀ (av' : Value) (W' : World), DevK W' g (.slice A L c) false av' (k + 1) (al ++ actV 3 0 0) 0 pv → Turns (fun j => j = g ∨ av.ownBlock = some j) (w.alloc (.cells #[.pointer (some ⟨g, 0, none⟩)] 23)) W' → (av'.ownBlock = av.ownBlock ∨ ∃ j, w.heap.size ≤ j ∧ av'.ownBlock = some j) →
      Calls Try.prog 44 #[.pointer (some ⟨w.heap.size, 0, none⟩)] W' fun e w' => e = .returned (.tuple #[]) ∧ R w') :
    Calls Try.prog 15 #[.pointer (some ⟨g, 0, none⟩)] w fun e w' => e = .returned (.int .i64 0) ∧ R w' := by
  have HD := Lib.hid (do3f_any g k L c w.heap.size A av pv al 0 0 R _ (h.next ((Below.refl w.heap.size w).alloc (Nat.le_refl _) (.cells #[.pointer (some ⟨g, 0, none⟩)] 23))) hL hk (by unfold hasB; exact decide_eq_true (by omega)) (fun av' W' h1 h2 h3 => hc av' W' h1 h2 (h3.imp id fun ⟨j, q, r⟩ => ⟨j, Nat.le_trans (by simp) q, r⟩)))
  clear hc h
  go_enter Try.func15, Try.ntmps15
  go_wp2_with fail
  refine HD.out.mono ?_
  rintro e w1 ⟨rfl, hR⟩
  have HR := Lib.hid hR
  clear hR
  go_wp2
  go_ret
  exact ⟨rfl, HR.out⟩
end Go.Proofs.Ythigknolpdohoaa
