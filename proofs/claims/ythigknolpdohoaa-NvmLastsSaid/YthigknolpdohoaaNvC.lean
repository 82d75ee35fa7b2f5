/-
  A device: New, Do.
-/
import Derived.Test.YthigknolpdohoaaNvB
import Derived.Laws.MakeOwn
namespace Go.Proofs.Ythigknolpdohoaa
open Go.RowKit Go
set_option linter.unusedVariables false
set_option linter.unusedSimpArgs false
def lineZ (i : Nat) : Value := if i % 18 < 16 then .int .u8 0 else .bool false
theorem info_line : (Try.prog.info? 81).map (fun i => (i.zero, i.size, i.bytes)) = some (some (.agg (rowV lineZ 144)), 144, 144) := by kernel_rfl
theorem make_lines (n : Nat) (hn : n ≤ 1024) : ∃ cs : Array Value, ∀ w, (Instr.makeSlice 50 (.int .i64 (n : Int)) (.int .i64 (n : Int))).run Try.prog w = .ok (.slice (some ⟨w.heap.size, 0, none⟩) n n) (w.alloc (.cells cs 81)) := by
  obtain ⟨i, h0, h1, h2, h3⟩ := info_parts info_line
  refine ⟨madeCells (Value.agg (rowV lineZ 144)).cells (n * 144), fun w => ?_⟩
  have hr := run_make (P := Try.prog) w 50 81 i _ Try.underlying50 h0 h1 .i64 .i64 n n (by omega) (by omega) (by rw [h3]; omega) (by omega)
  rw [hr, h2]
  simp only [Int.toNat_natCast]
def New8 (w : World) (n : Nat) (e : Ending) (w' : World) : Prop :=
  e = .returned (.pointer (some ⟨w.heap.size + 1, 0, none⟩)) ∧ DevK w' (w.heap.size + 1) (.slice (some ⟨w.heap.size, 0, none⟩) n n) false (.slice none 0 0) 0 [] 0 (.slice none 0 0) ∧ Below w.heap.size w w' ∧ w'.heap.size = w.heap.size + 1 + 1
set_option maxHeartbeats 1000000 in
theorem new8_any (n : Nat) (hn : n ≤ 1024) (w : World) : Calls Try.prog 7 #[.int .i64 (n : Int)] w (New8 w n) := by
  obtain ⟨cs, hmk⟩ := make_lines n hn
  have e1 : ∀ o, (w.alloc o).heap.size = w.heap.size + 1 := fun o => by simp
  have hd := heap_alloc_new (w.alloc (.cells cs 81)) (.cells #[.slice (some ⟨w.heap.size, 0, none⟩) n n, .bool false, .slice none 0 0, .int .i64 0, .slice none 0 0] 52)
  rw [e1] at hd
  have H : Hid (New8 w n (.returned (.pointer (some ⟨w.heap.size + 1, 0, none⟩))) ((w.alloc (.cells cs 81)).alloc (.cells #[.slice (some ⟨w.heap.size, 0, none⟩) n n, .bool false, .slice none 0 0, .int .i64 0, .slice none 0 0] 52))) :=
    Lib.hid ⟨rfl, ⟨hd, World.ownsRow_nil _ _ _ _⟩, ((Below.refl _ _).alloc (Nat.le_refl _) _).alloc (by rw [e1]; omega) _, by simp⟩
  clear e1 hd
  go_enter Try.func7, Try.ntmps7
  go_wp2
  go_ret
  exact H.out
set_option maxHeartbeats 400000 in
theorem do8_any (g k L c : Nat) (A : Option Addr) (av pv : Value) (al : List Value) (w : World) (h : DevK w g (.slice A L c) false av k al 0 pv) (hL : L ≤ 1024) (hk : k < 16384) :
    Calls Try.prog 30 #[.pointer (some ⟨g, 0, none⟩)] w (Acted w g k (.slice A L c) av pv al 4 0 0) := by
  have HD := Lib.hid (do4_any g k L c A av pv al w h hL hk)
  clear h
  go_enter Try.func30, Try.ntmps30
  go_wp2_with fail
  refine HD.out.mono ?_
  rintro e w1 ⟨av', rfl, h1, h2, h3⟩
  have H := Lib.hid (show Acted w g k (.slice A L c) av pv al 4 0 0 (.returned (.int .i64 0)) w1 from ⟨av', rfl, h1, h2, h3⟩)
  clear h1 h2 h3
  go_wp2
  go_ret
  exact H.out
end Go.Proofs.Ythigknolpdohoaa
