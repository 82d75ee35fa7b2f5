/-
  Package super: the chapter's example; SuperBytes' walk.
-/
import Derived.Test.YtbfbcjfeicecmaaSupE
import Derived.Deep.RegionHeld3
namespace Go.Proofs.Ytbfbcjfeicecmaa
open Go.RowKit Go
set_option linter.unusedVariables false
theorem ex_str : str ((supL 20 4).take 15) = ⟨#[71, 65, 82, 68, 82, 79, 66, 69, 1, 0, 20, 0, 4, 0, 0]⟩ := by kernel_rfl
theorem may20 : Geo.May 20 4 := by unfold Geo.May; omega
def ExTo (w : World) (e : Ending) (w' : World) : Prop :=
  ∃ A c, e = .returned (.tuple #[.slice A 256 c, .int .i64 0]) ∧ Below w.heap.size w w' ∧ 256 ≤ c ∧ (∃ ad, A = some ad) ∧ (convert 24 9 (.slice A 15 c)).run Try.prog w' = .ok (.string ⟨#[71, 65, 82, 68, 82, 79, 66, 69, 1, 0, 20, 0, 4, 0, 0]⟩) w'
theorem bytes_ex (w : World) : Calls Try.prog 11 #[.agg #[.int .i64 20, .int .i64 4]] w (ExTo w) :=
  (bytes_yes 20 4 (by omega) (by omega) may20 w).mono fun e w' ⟨A, c, he, hb, hx⟩ => by
    rw [supL_len] at he hx
    obtain ⟨b, o, rfl, _, _⟩ := hx.at_ (by omega)
    exact ⟨_, c, he, hb, hx.cap.1, ⟨_, rfl⟩, ex_str ▸ conv_at (hx.take (k := 15) (by omega))⟩
set_option maxHeartbeats 1000000 in
theorem awake13_any (w : World) : Calls Try.prog 13 #[] w fun e w' => e = .returned (.bool true) ∧ Below w.heap.size w w' := by
  have HX := Lib.hid bytes_ex
  go_enter Try.func13, Try.ntmps13
  go_wp2_with fail
  refine (HX.out _).mono ?_
  rintro e w1 ⟨A, c, rfl, hb, hc, ⟨ad, rfl⟩, hconv⟩
  have HB := Lib.hid hb
  clear hb
  go_wp2
  go_ret
  exact ⟨rfl, HB.out⟩
end Go.Proofs.Ytbfbcjfeicecmaa
