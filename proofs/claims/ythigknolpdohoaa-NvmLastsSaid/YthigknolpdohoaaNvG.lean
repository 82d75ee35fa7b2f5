/-
  A device of which no word is pending: Arm without picks, On, Crash.
-/
import Derived.Test.YthigknolpdohoaaNvF
import Derived.Lib.SliceRun
namespace Go.Proofs.Ythigknolpdohoaa
open Go.RowKit Go
set_option linter.unusedVariables false
set_option linter.unusedSimpArgs false
set_option maxHeartbeats 400000 in
theorem all8_any (g b L c : Nat) (f : FuncId) (caps : List Value) (I : Nat → World → Prop) (w : World) (off : Bool) (av pv : Value) (u : Int) (hf : EntersF f) (hd : DevB w g (.slice (some ⟨b, 0, none⟩) L c) off av u pv) (hL : 0 < L) (hL2 : L ≤ 1024)
    (hI : ∀ m W, I m W → W.cell? ⟨g, 0, none⟩ = some (.slice (some ⟨b, 0, none⟩) L c)) (hc : TurnsW f caps b 0 (L - 1) I) (h0 : I 0 w) :
    Calls Try.prog 45 #[.pointer (some ⟨g, 0, none⟩), .func (Fn.func f) #[] caps.toArray] w fun e w' => e = .returned (.tuple #[]) ∧ I (8 * L) w' := by
  have HL := Lib.hid (len8_any g L c (some ⟨b, 0, none⟩) off av pv u w hd hL2)
  have HE := Lib.hid (each8_any g b L c 0 (64 * L) 0 (L - 1) f caps I w hf (by omega) rfl (by omega) (by omega) hL2 hI hc h0)
  have e1 : ((64 * L : Nat) : Int) = 64 * (L : Int) := by simp
  have e2 : L - 1 + 1 = L := by omega
  rw [e1, e2] at HE
  clear hd hI hc h0 e1 e2
  go_enter Try.func45, Try.ntmps45
  go_wp2_with fail
  refine HL.out.mono ?_
  rintro e w1 ⟨rfl, rfl⟩
  go_wp2_with fail
  refine HE.out.mono ?_
  rintro e w2 ⟨rfl, hi⟩
  have HI := Lib.hid hi
  clear hi
  go_wp2
  go_end0
  exact ⟨rfl, HI.out⟩
theorem clone_nil (w : World) : Calls Try.prog 58 #[.slice none 0 0] w fun e w' => e = .returned (.slice none 0 0) ∧ w = w' := by
  have qT : ∀ (w : World) (a : Option Addr) (n c n' c' : Nat), (binOp .eql 28 (.slice a n c) (.slice none n' c')).run Try.prog w = .ok (.bool a.isNone) w := fun w a n c n' c' => Lib.run_eql_slice_nil w _ _ a n c n' c' Try.underlying28
  go_enter Try.func58, Try.ntmps58
  go_wp2
  go_ret
  exact ⟨rfl, rfl⟩
/-- the power goes so many acts later; of less than 1 never -/
def armU (a : Int) : Int := if a < 1 then 0 else a
set_option maxHeartbeats 400000 in
theorem arm8_any (g : Nat) (lv : Value) (off : Bool) (av pv : Value) (u a : Int) (w : World) (h : DevB w g lv off av u pv) :
    Calls Try.prog 33 #[.pointer (some ⟨g, 0, none⟩), .int .i64 a, .slice none 0 0] w fun e w' => e = .returned (.tuple #[]) ∧ w' = (w.setCell ⟨g, 3, none⟩ (.int .i64 (armU a))).setCell ⟨g, 4, none⟩ (.slice none 0 0) := by
  have HC := Lib.hid (fun W => clone_nil W)
  have k3 := h.until
  have k4 := h.picks
  have f3 := h.free 3
  have f4 := h.free 4
  clear h
  by_cases ha : a < 1
  · have HA : Hid (armU a = 0) := Lib.hid (if_pos ha)
    go_enter Try.func33, Try.ntmps33
    go_wp2_with fail
    refine (HC.out _).mono ?_
    rintro e w1 ⟨rfl, rfl⟩
    go_wp2
    go_end0
    exact ⟨rfl, by rw [HA.out]⟩
  · have HA : Hid (armU a = a) := Lib.hid (if_neg ha)
    go_enter Try.func33, Try.ntmps33
    go_wp2_with fail
    refine (HC.out _).mono ?_
    rintro e w1 ⟨rfl, rfl⟩
    go_wp2
    go_end0
    exact ⟨rfl, by rw [HA.out]⟩
set_option maxHeartbeats 400000 in
theorem crash1_quiet (b o : Nat) (p q : Value) (w : World) (h : w.cell? ⟨b, o + 16, none⟩ = some (.bool false)) :
    Calls Try.prog 47 #[.pointer (some ⟨b, o, none⟩), p, q] w fun e w' => e = .returned (.tuple #[]) ∧ w' = w := by
  go_enter Try.func47, Try.ntmps47
  go_wp2
  refine bodyPost_ret (results_none rfl _ _ _) rfl ?_
  exact ⟨rfl, rfl⟩
/-- a device of which no word is pending -/
structure DevQ (W : World) (g b L c : Nat) (off : Bool) (av : Value) (k : Nat) (al : List Value) (u : Int) (pv : Value) : Prop where
  dev : DevK W g (.slice (some ⟨b, 0, none⟩) L c) off av k al u pv
  quiet : ∀ m, m < 8 * L → W.cell? ⟨b, m * 18 + 16, none⟩ = some (.bool false)
  bg : b < g
  L0 : 0 < L
  L1 : L ≤ 1024
theorem DevK.set_ {W : World} {g k : Nat} {lv av pv : Value} {off : Bool} {al : List Value} {u : Int} (h : DevK W g lv off av k al u pv) : (∀ o', DevK (W.setCell ⟨g, 1, none⟩ (.bool o')) g lv o' av k al u pv) ∧ (∀ u', DevK (W.setCell ⟨g, 3, none⟩ (.int .i64 u')) g lv off av k al u' pv) ∧ (∀ pv', DevK (W.setCell ⟨g, 4, none⟩ pv') g lv off av k al u pv') := by
  have ho : ∀ (i : Nat) (x : Value), (W.setCell ⟨g, i, none⟩ x).ownsRow (g + 1) ActT 3 av k al := fun i x => by
    obtain ⟨h1, h2⟩ := h.own
    refine ⟨h1, ?_⟩
    rcases h2 with h2 | ⟨b, cap, cur, hv, hbg, hh, hr⟩
    · exact .inl h2
    · exact .inr ⟨b, cap, cur, hv, hbg, (Below.heap_setCell _ _ _ _ (by show b ≠ g; omega)).trans hh, hr⟩
  refine ⟨fun o' => ⟨?_, ho _ _⟩, fun u' => ⟨?_, ho _ _⟩, fun pv' => ⟨?_, ho _ _⟩⟩
  · have := blk_set h.dev 1 (.bool o'); unfold DevB; rw [this]; rfl
  · have := blk_set h.dev 3 (.int .i64 u'); unfold DevB; rw [this]; rfl
  · have := blk_set h.dev 4 pv'; unfold DevB; rw [this]; rfl
section
variable {W W' : World} {g b L c k : Nat} {off : Bool} {av pv : Value} {al : List Value} {u : Int}
theorem DevQ.next (h : DevQ W g b L c off av k al u pv) (hb : Below W.heap.size W W') : DevQ W' g b L c off av k al u pv :=
  ⟨h.dev.next hb, fun m hm => (hb.cell (p := ⟨b, m * 18 + 16, none⟩) (by have := h.dev.dev.lt; have := h.bg; show b < _; omega)).trans (h.quiet m hm), h.bg, h.L0, h.L1⟩
theorem DevQ.of {off' : Bool} {av' pv' : Value} {k' : Nat} {al' : List Value} {u' : Int} (h : DevQ W g b L c off av k al u pv) (hd : DevK W' g (.slice (some ⟨b, 0, none⟩) L c) off' av' k' al' u' pv') (hb : W'.heap[b]? = W.heap[b]?) : DevQ W' g b L c off' av' k' al' u' pv' :=
  ⟨hd, fun m hm => (World.cell?_of_block (a := ⟨b, m * 18 + 16, none⟩) hb).trans (h.quiet m hm), h.bg, h.L0, h.L1⟩
theorem DevQ.armed (h : DevQ W g b L c off av k al u pv) (u' : Int) : DevQ ((W.setCell ⟨g, 3, none⟩ (.int .i64 u')).setCell ⟨g, 4, none⟩ (.slice none 0 0)) g b L c off av k al u' (.slice none 0 0) := by
  have h1 := (h.dev.set_.2.1 u').set_.2.2 (.slice none 0 0)
  have hbg := h.bg
  exact h.of h1 ((Below.heap_setCell _ _ _ _ (by show b ≠ g; omega)).trans (Below.heap_setCell _ _ _ _ (by show b ≠ g; omega)))
theorem DevQ.turned (h : DevQ W g b L c off av k al u pv) (o' : Bool) : DevQ (W.setCell ⟨g, 1, none⟩ (.bool o')) g b L c o' av k al u pv := by
  have hbg := h.bg
  exact h.of (h.dev.set_.1 o') (Below.heap_setCell _ _ _ _ (by show b ≠ g; omega))
end
theorem turns_g {W : World} {g : Nat} (p q : Nat) (x y : Value) : Turns (fun j => j = g) W ((W.setCell ⟨g, p, none⟩ x).setCell ⟨g, q, none⟩ y) := (Turns.set (S := fun j => j = g) _ _ rfl).trans (S' := fun j => j = g) (Turns.set (S := fun j => j = g) _ _ rfl) (fun _ _ q => q)
/-- Arm without picks -/
theorem armQ_any (g b L c k : Nat) (off : Bool) (av pv : Value) (al : List Value) (u a : Int) (w : World) (h : DevQ w g b L c off av k al u pv) :
    Calls Try.prog 33 #[.pointer (some ⟨g, 0, none⟩), .int .i64 a, .slice none 0 0] w fun e w' => e = .returned (.tuple #[]) ∧ DevQ w' g b L c off av k al (armU a) (.slice none 0 0) ∧ Turns (fun j => j = g) w w' := by
  refine (arm8_any g _ off av pv u a w h.dev.dev).mono ?_
  rintro e w' ⟨he, rfl⟩
  exact ⟨he, h.armed _, turns_g _ _ _ _⟩
set_option maxHeartbeats 400000 in
theorem onQ_any (g b L c k : Nat) (off : Bool) (av pv : Value) (al : List Value) (u : Int) (w : World) (h : DevQ w g b L c off av k al u pv) :
    Calls Try.prog 12 #[.pointer (some ⟨g, 0, none⟩)] w fun e w' => e = .returned (.tuple #[]) ∧ DevQ w' g b L c false av k al 0 (.slice none 0 0) ∧ Turns (fun j => j = g) w w' := by
  have k1 := h.dev.dev.offC
  have f1 := h.dev.dev.free 1
  have HA := Lib.hid (armQ_any g b L c k false av pv al u 0 _ (h.turned false))
  clear h
  go_enter Try.func12, Try.ntmps12
  go_wp2_with fail
  refine HA.out.mono ?_
  rintro e w1 ⟨rfl, hd, ht⟩
  have HD := Lib.hid hd
  have HT := Lib.hid ht
  clear hd ht
  go_wp2
  go_end0
  exact ⟨rfl, HD.out, (Turns.set (S := fun j => j = g) _ _ rfl).trans (S' := fun j => j = g) HT.out (fun _ _ q => q)⟩
set_option maxHeartbeats 1000000 in
theorem crashQ_on (g b L c k nx cx : Nat) (Ax : Option Addr) (av pv : Value) (al : List Value) (u : Int) (w : World) (h : DevQ w g b L c false av k al u pv) :
    Calls Try.prog 18 #[.pointer (some ⟨g, 0, none⟩), .slice Ax nx cx] w fun e w' => e = .returned (.tuple #[]) ∧ DevQ w' g b L c true av k al 0 (.slice none 0 0) ∧ Turns (fun j => j = g) w w' := by
  obtain ⟨V, hV⟩ : ∃ V, V = (w.alloc (.cells #[.slice Ax nx cx] 28)).alloc (.cells #[.int .i64 0] 3) := ⟨_, rfl⟩
  have hb1 : Below w.heap.size w (w.alloc (.cells #[.slice Ax nx cx] 28)) := (Below.refl _ _).alloc (Nat.le_refl _) _
  have hb2 : Below w.heap.size w V := by rw [hV]; exact hb1.alloc hb1.size _
  have hd := h.next hb2
  have k1 := (h.next hb1).dev.dev.offC
  have HK := Lib.hid hd
  have HAL := Lib.hid (fun p q => all8_any g b L c 47 [p, q] (fun _ W => W = V) V false av pv u (fun _ _ => rfl) hd.dev.dev h.L0 h.L1 (fun m W e => by rw [e]; exact hd.dev.dev.lines) (fun l k W _ hl hk e => by
    subst e
    have := crash1_quiet b (l * 144 + k * 18) p q W (by
      have := hd.quiet (8 * l + k) (by have := h.L0; omega)
      rw [show l * 144 + k * 18 + 16 = (8 * l + k) * 18 + 16 by omega]; exact this)
    exact this) rfl)
  have kv1 := hd.dev.dev.offC
  have fv1 := hd.dev.dev.free 1
  have HA := Lib.hid (armQ_any g b L c k true av pv al u 0 _ (hd.turned true))
  have HB2 := Lib.hid hb2
  have HV := Lib.hid hV
  clear h hb1 hb2 hd hV
  go_enter Try.func18, Try.ntmps18
  go_wp2_with fail
  rw [← HV.out]
  refine (HAL.out _ _).mono ?_
  rintro e w1 ⟨rfl, hw1⟩
  subst hw1
  go_wp2_with fail
  refine HA.out.mono ?_
  rintro e w2 ⟨rfl, hd, ht⟩
  have HD := Lib.hid hd
  have HT := Lib.hid ht
  clear hd ht
  go_wp2
  go_end0
  exact ⟨rfl, HD.out, ((Turns.of_below (S := fun j => j = g) HB2.out).trans (S' := fun j => j = g) (Turns.set _ _ rfl) (fun _ _ q => q)).trans (S' := fun j => j = g) HT.out (fun _ _ q => q)⟩
set_option maxHeartbeats 400000 in
theorem crashQ_off (g b L c k nx cx : Nat) (Ax : Option Addr) (av pv : Value) (al : List Value) (u : Int) (w : World) (h : DevQ w g b L c true av k al u pv) :
    Calls Try.prog 18 #[.pointer (some ⟨g, 0, none⟩), .slice Ax nx cx] w fun e w' => e = .returned (.tuple #[]) ∧ DevQ w' g b L c true av k al u pv ∧ Turns (fun j => j = g) w w' := by
  have hb1 : Below w.heap.size w (w.alloc (.cells #[.slice Ax nx cx] 28)) := (Below.refl _ _).alloc (Nat.le_refl _) _
  have k1 := (h.next hb1).dev.dev.offC
  have HD := Lib.hid (h.next hb1)
  have HB := Lib.hid hb1
  clear h hb1
  go_enter Try.func18, Try.ntmps18
  go_wp2
  refine bodyPost_ret (results_none rfl _ _ _) rfl ?_
  exact ⟨rfl, HD.out, Turns.of_below HB.out⟩
end Go.Proofs.Ythigknolpdohoaa
