/-
  Layer 18: Resize.
-/
import Derived.Test.YtflgcddgocojpaaDoorSlI
namespace Go.Proofs.YtflgcddgocojpaaDoor
open Go.RowKit Go
set_option linter.unusedVariables false
set_option linter.unusedSimpArgs false
set_option maxHeartbeats 1000000

theorem splL_nil (t : List Nat) (a : Nat) : splL t a [] = t := by simp [splL]
/-- an object's slot, of which n bytes are to be left -/
def resL (t : List Nat) (q z n s : Nat) : List Nat := splL (hdL t q n s) (q + (8 + n)) (List.replicate (z - (8 + n)) 0)
theorem resize_P (h q z n B cc : Nat) (t : List Nat) (w : World) (hp : PgO w B h cc t) (hq : q + z ≤ 256) (hz : 16 ≤ z) (h128 : z ≤ 128) (h1n : 1 ≤ n) (hn : n ≤ z - 8) (u : List Nat) (hs : BS w w.heap.size (some ⟨h, q, none⟩) z z u) :
    Calls Tryd.prog 38 #[.slice (some ⟨h, q, none⟩) z z, .int .i64 (n : Int)] w fun e w' => e = .returned (.tuple #[]) ∧ PgO w' B h cc (resL t q z n (num ((u.drop 2).take 6))) ∧ ∃ w1, Below w.heap.size w w1 ∧ w1.grownBy w' (some h) := by
  have hl6 : num ((u.drop 2).take 6) < 2 ^ 64 := by
    have := num_lt (l := (u.drop 2).take 6) (take_byte (fun i => by rw [drop_at]; exact hs.byte _) 6)
    refine Nat.lt_of_lt_of_le this ?_
    rw [show (2 : Nat) ^ 64 = 256 ^ 8 by decide]
    exact Nat.pow_le_pow_right (by decide) (by simp; omega)
  have HS := Lib.hid (serial_w h q z u w hs hz h128)
  have HN := Lib.hid (fun w1 (hb : Below w.heap.size w w1) => name_P h q z n (num ((u.drop 2).take 6)) B cc t w1 (hp.below hb) (by omega) hz h128 (by omega) hl6)
  have HRE : Hid (resL t q z n (num ((u.drop 2).take 6)) = splL (hdL t q n (num ((u.drop 2).take 6))) (q + (8 + n)) (List.replicate (z - (8 + n)) 0)) := Lib.hid rfl
  generalize resL t q z n (num ((u.drop 2).take 6)) = R at *
  generalize num ((u.drop 2).take 6) = s at *
  generalize hdL t q n s = T at *
  clear hp hs hl6
  have h8n : (8 : Int) + (n : Int) ≤ (z : Int) := by omega
  go_enter Tryd.func38, Tryd.ntmps38
  go_wp2_with fail
  refine HS.out.mono ?_
  rintro e w1 ⟨rfl, hb⟩
  have HB := Lib.hid hb
  have HNN := Lib.hid (HN.out w1 hb)
  clear hb HN
  go_wp2_with fail
  refine HNN.out.mono ?_
  rintro e w2 ⟨rfl, hp, hg⟩
  by_cases he : 8 + n = z
  · have HF : Hid (PgO w2 B h cc R) := Lib.hid (by
      rw [HRE.out, show z - (8 + n) = 0 by omega]
      rw [show List.replicate 0 0 = ([] : List Nat) from rfl, splL_nil]; exact hp)
    have HG := Lib.hid hg
    have hcl : ∀ ty A c, (Builtin.clear_ #[63] ty #[.slice A 0 c]).run Tryd.prog w2 = .ok (.tuple #[]) w2 := fun ty A c => by
      have hu : ∀ w, (underlying 63).run Tryd.prog w = .ok (.slice 5) w := fun w => run_underlying Tryd.underlying63 w
      cases A <;> simp [Builtin.clear_, hu, go_sem]
    clear hp hg
    subst he
    go_wp2
    go_end0
    exact ⟨rfl, HF.out, w1, HB.out, HG.out⟩
  · obtain ⟨w3, hcl, hp3, hg3⟩ := clear_P h (q + (8 + n)) (z - (8 + n)) (z - (8 + n)) B cc T w2 hp (by omega) (by omega)
    have HF : Hid (PgO w3 B h cc R) := Lib.hid (by rw [HRE.out]; exact hp3)
    have HG := Lib.hid (only_trans hg hg3)
    clear hp hg hp3 hg3
    go_wp2
    go_end0
    exact ⟨rfl, HF.out, w1, HB.out, HG.out⟩
end Go.Proofs.YtflgcddgocojpaaDoor
