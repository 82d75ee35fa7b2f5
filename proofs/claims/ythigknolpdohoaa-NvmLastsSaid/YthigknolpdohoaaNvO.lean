/-
  A device over the list of words: On, Crash without power, Tamper, Pending.
-/
import Derived.Test.YthigknolpdohoaaNvV
namespace Go.Proofs.Ythigknolpdohoaa
open Go.RowKit Go
set_option linter.unusedVariables false
set_option linter.unusedSimpArgs false
set_option maxRecDepth 100000
theorem on_M (g b L c k : Nat) (off : Bool) (av pv : Value) (al : List Value) (u : Int) (ws : List Wd) (w : World) (h : DevM w g b L c off av k al u pv ws) :
    Calls Try.prog 12 #[.pointer (some ⟨g, 0, none⟩)] w fun e w' => e = .returned (.tuple #[]) ∧ DevM w' g b L c false av k al 0 (.slice none 0 0) ws ∧ Turns (fun j => j = g) w w' := by
  have k1 := h.dev.dev.offC
  have f1 := h.dev.dev.free 1
  have HA := Lib.hid (arm_M g b L c k false av pv al u 0 _ _ (h.turned false))
  clear h
  go_enter Try.func12, Try.ntmps12
  go_wp2_with fail
  refine HA.out.mono ?_
  rintro e w1 ⟨rfl, hd, ht⟩
  have HD := Lib.hid hd
  have HT := Lib.hid ht
  clear hd ht
  go_wp2
  go_end0
  exact ⟨rfl, HD.out, (Turns.set (S := fun j => j = g) _ _ rfl).trans (S' := fun j => j = g) HT.out (fun _ _ q => q)⟩
set_option maxHeartbeats 400000 in
theorem crash_off_M (g b L c k nx cx : Nat) (Ax : Option Addr) (av pv : Value) (al : List Value) (u : Int) (ws : List Wd) (w : World) (h : DevM w g b L c true av k al u pv ws) :
    Calls Try.prog 18 #[.pointer (some ⟨g, 0, none⟩), .slice Ax nx cx] w fun e w' => e = .returned (.tuple #[]) ∧ DevM w' g b L c true av k al u pv ws ∧ Turns (fun j => j = g) w w' := by
  have hb1 : Below w.heap.size w (w.alloc (.cells #[.slice Ax nx cx] 28)) := (Below.refl _ _).alloc (Nat.le_refl _) _
  have k1 := (h.next hb1).dev.dev.offC
  have HD := Lib.hid (h.next hb1)
  have HB := Lib.hid hb1
  clear h hb1
  go_enter Try.func18, Try.ntmps18
  go_wp2
  refine bodyPost_ret (results_none rfl _ _ _) rfl ?_
  exact ⟨rfl, HD.out, Turns.of_below HB.out⟩
/-- Pending's closure: it counts -/
theorem pending1_yes (b o qq j : Nat) (w : World) (h : w.cell? ⟨b, o + 16, none⟩ = some (.bool true)) (hc : w.cell? ⟨qq, 0, none⟩ = some (.int .i64 (j : Int))) (hf : w.frozen? ⟨qq, 0, none⟩ = false) (hj : j ≤ 100000) :
    Calls Try.prog 53 #[.pointer (some ⟨b, o, none⟩), .pointer (some ⟨qq, 0, none⟩)] w fun e w' => e = .returned (.tuple #[]) ∧ w' = w.setCell ⟨qq, 0, none⟩ (.int .i64 ((j : Int) + 1)) := by
  go_enter Try.func53, Try.ntmps53
  go_wp2
  go_end0
  exact ⟨rfl, rfl⟩
theorem pending1_no (b o : Nat) (p : Value) (w : World) (h : w.cell? ⟨b, o + 16, none⟩ = some (.bool false)) :
    Calls Try.prog 53 #[.pointer (some ⟨b, o, none⟩), p] w fun e w' => e = .returned (.tuple #[]) ∧ w' = w := by
  go_enter Try.func53, Try.ntmps53
  go_wp2
  go_end0
  exact ⟨rfl, rfl⟩
def PenI (V : World) (b qq : Nat) (ws : List Wd) (m : Nat) (W : World) : Prop := Turns (fun k => k = qq) V W ∧ Cnt W qq (cnt ws m)
set_option maxHeartbeats 1000000 in
theorem pending_M (g b L c k : Nat) (off : Bool) (av pv : Value) (al : List Value) (u : Int) (ws : List Wd) (w : World) (h : DevM w g b L c off av k al u pv ws) (hL0 : 0 < L) :
    Calls Try.prog 21 #[.pointer (some ⟨g, 0, none⟩)] w fun e w' => e = .returned (.int .i64 ((cnt ws (8 * L) : Nat) : Int)) ∧ Below w.heap.size w w' := by
  obtain ⟨V, hV⟩ : ∃ V, V = w.alloc (.cells #[.int .i64 0] 3) := ⟨_, rfl⟩
  have hb2 : Below w.heap.size w V := by rw [hV]; exact (Below.refl _ _).alloc (Nat.le_refl _) _
  have hd := h.next hb2
  have hsz : V.heap.size = w.heap.size + 1 := by rw [hV]; simp
  have hbl := h.mem.lt
  have hgl := h.dev.dev.lt
  have hlen := h.len
  have hqc : V.cell? ⟨w.heap.size, 0, none⟩ = some (.int .i64 ((cnt ws 0 : Nat) : Int)) := by rw [hV]; show _ = some (Value.int .i64 0); go_simp
  have hqf : V.frozen? ⟨w.heap.size, 0, none⟩ = false := by rw [hV]; go_simp
  have hT : TurnsW 53 [.pointer (some ⟨w.heap.size, 0, none⟩)] b 0 (L - 1) (PenI V b w.heap.size ws) := by
    intro la i W h1 h2 h3 hi
    obtain ⟨ht, hc⟩ := hi
    obtain ⟨x, hx⟩ : ∃ x, ws[8 * la + i]? = some x := ⟨_, List.getElem?_eq_getElem (by omega)⟩
    have hcl := cnt_le ws (8 * la + i)
    have hL1 := h.L1
    have hm : MemB W b LineT ws := hd.mem.same (ht.block b (by omega) (by intro e; omega))
    have hpe := hm.pend hx
    rw [show 18 * (8 * la + i) + 16 = la * 144 + i * 18 + 16 by omega] at hpe
    have hn := cnt_next hx
    cases hp : x.pend
    · rw [hp] at hpe hn
      refine (pending1_no b (la * 144 + i * 18) _ W hpe).mono ?_
      rintro e w1 ⟨rfl, rfl⟩
      exact ⟨rfl, ht, by rw [hn]; exact hc⟩
    · rw [hp] at hpe hn
      refine (pending1_yes b (la * 144 + i * 18) w.heap.size (cnt ws (8 * la + i)) W hpe hc.1 hc.2 (by omega)).mono ?_
      rintro e w1 ⟨rfl, rfl⟩
      refine ⟨rfl, ht.trans (S' := fun k => k = w.heap.size) (Turns.set _ _ rfl) (fun _ _ e => e), ?_, ?_⟩
      · rw [World.cell?_setCell_same _ _ _ hc.1, hn]; rfl
      · rw [World.frozen?_setCell]; exact hc.2
  have HAL := Lib.hid (all8_any g b L c 53 [.pointer (some ⟨w.heap.size, 0, none⟩)] (PenI V b w.heap.size ws) V off av pv u (fun _ _ => rfl) hd.dev.dev hL0 h.L1
    (fun m W hi => (World.cell?_of_block (hi.1.block g (by omega) (by intro e; omega))).trans hd.dev.dev.lines) hT ⟨Turns.of_below (Below.refl _ _), hqc, hqf⟩)
  have HB2 := Lib.hid hb2
  have HV := Lib.hid hV
  clear h hb2 hd hV hsz hbl hgl hlen hqc hqf hT
  go_enter Try.func21, Try.ntmps21
  go_wp2_with fail
  rw [← HV.out]
  refine HAL.out.mono ?_
  rintro e w1 ⟨rfl, hi⟩
  have hq := hi.2.1
  have HI := Lib.hid hi.1
  clear hi
  go_wp2
  go_ret
  exact ⟨rfl, HB2.out.trans (HI.out.below HB2.out.size (fun j e => by omega))⟩
end Go.Proofs.Ythigknolpdohoaa
