/-
  Flush and Store of a device as acts.
-/
import Derived.Test.YthigknolpdohoaaNvE
namespace Go.Proofs.Ythigknolpdohoaa
open Go.RowKit Go
set_option linter.unusedVariables false
set_option linter.unusedSimpArgs false
set_option maxRecDepth 100000
def flW (w : World) (g : Nat) (a n : Int) : World := ((w.alloc (.cells #[.pointer (some ⟨g, 0, none⟩)] 23)).alloc (.cells #[.int .i64 a] 3)).alloc (.cells #[.int .i64 n] 3)
/-- Flush as an act: what its closure does, told by a contract -/
theorem flush_do (g k L c : Nat) (A : Option Addr) (av pv : Value) (al : List Value) (a n : Int) (R : World → Prop) (w : World) (h : DevK w g (.slice A L c) false av k al 0 pv) (hL : L ≤ 1024) (hk : k < 16384) (hr : hasB L a n = true)
    (hc : ∀ (av' : Value) (W' : World), DevK W' g (.slice A L c) false av' (k + 1) (al ++ actV 2 a n) 0 pv → Turns (fun j => j = g ∨ av.ownBlock = some j) (flW w g a n) W' → (av'.ownBlock = av.ownBlock ∨ ∃ j, w.heap.size ≤ j ∧ av'.ownBlock = some j) →
      Calls Try.prog 41 #[.pointer (some ⟨w.heap.size, 0, none⟩), .pointer (some ⟨w.heap.size + 1, 0, none⟩), .pointer (some ⟨w.heap.size + 1 + 1, 0, none⟩)] W' fun e w' => e = .returned (.tuple #[]) ∧ R w') :
    Calls Try.prog 14 #[.pointer (some ⟨g, 0, none⟩), .int .i64 a, .int .i64 n] w fun e w' => e = .returned (.int .i64 0) ∧ R w' := by
  have hb : Below w.heap.size w (flW w g a n) := by
    unfold flW
    exact (((Below.refl w.heap.size w).alloc (Nat.le_refl _) _).alloc (by simp) _).alloc (by simp; omega) _
  have HD := Lib.hid (do2f_any g k L c w.heap.size (w.heap.size + 1) (w.heap.size + 1 + 1) A av pv al a n R _ (h.next hb) hL hk hr (fun av' W' h1 h2 h3 => hc av' W' h1 h2 (h3.imp id fun ⟨j, q, r⟩ => ⟨j, Nat.le_trans (by unfold flW; simp; omega) q, r⟩)))
  clear hc h hb
  go_enter Try.func14, Try.ntmps14
  go_wp2_with fail
  refine HD.out.mono ?_
  rintro e w1 ⟨rfl, hR⟩
  have HR := Lib.hid hR
  clear hR
  go_wp2
  go_ret
  exact ⟨rfl, HR.out⟩
def stW (w : World) (g : Nat) (a : Int) (b : Value) : World := ((w.alloc (.cells #[.pointer (some ⟨g, 0, none⟩)] 23)).alloc (.cells #[.int .i64 a] 3)).alloc (.cells #[b] 28)
/-- Store as an act: what its closure does, told by a contract -/
theorem store_do (g k L c : Nat) (A : Option Addr) (av pv : Value) (al : List Value) (a : Int) (B : Option Addr) (n nc : Nat) (R : World → Prop) (w : World) (h : DevK w g (.slice A L c) false av k al 0 pv) (hL : L ≤ 1024) (hk : k < 16384) (hr : hasB L a (n : Int) = true)
    (hc : ∀ (av' : Value) (W' : World), DevK W' g (.slice A L c) false av' (k + 1) (al ++ actV 1 a (n : Int)) 0 pv → Turns (fun j => j = g ∨ av.ownBlock = some j) (stW w g a (.slice B n nc)) W' → (av'.ownBlock = av.ownBlock ∨ ∃ j, w.heap.size ≤ j ∧ av'.ownBlock = some j) →
      Calls Try.prog 38 #[.pointer (some ⟨w.heap.size, 0, none⟩), .pointer (some ⟨w.heap.size + 1, 0, none⟩), .pointer (some ⟨w.heap.size + 1 + 1, 0, none⟩)] W' fun e w' => e = .returned (.tuple #[]) ∧ R w') :
    Calls Try.prog 13 #[.pointer (some ⟨g, 0, none⟩), .int .i64 a, .slice B n nc] w fun e w' => e = .returned (.int .i64 0) ∧ R w' := by
  have hb : Below w.heap.size w (stW w g a (.slice B n nc)) := by
    unfold stW
    exact (((Below.refl w.heap.size w).alloc (Nat.le_refl _) _).alloc (by simp) _).alloc (by simp; omega) _
  have HD := Lib.hid (do1f_any g k L c w.heap.size (w.heap.size + 1) (w.heap.size + 1 + 1) A av pv al a (n : Int) R _ (h.next hb) hL hk hr (fun av' W' h1 h2 h3 => hc av' W' h1 h2 (h3.imp id fun ⟨j, q, r⟩ => ⟨j, Nat.le_trans (by unfold stW; simp; omega) q, r⟩)))
  clear hc h hb
  go_enter Try.func13, Try.ntmps13
  go_wp2_with fail
  refine HD.out.mono ?_
  rintro e w1 ⟨rfl, hR⟩
  have HR := Lib.hid hR
  clear hR
  go_wp2
  go_ret
  exact ⟨rfl, HR.out⟩
end Go.Proofs.Ythigknolpdohoaa
