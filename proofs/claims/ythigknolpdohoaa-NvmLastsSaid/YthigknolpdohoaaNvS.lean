/-
  A device with its words as a list: Store, Flush, Fence as acts.
-/
import Derived.Test.YthigknolpdohoaaNvR
import Derived.Test.YthigknolpdohoaaNvZ
namespace Go.Proofs.Ythigknolpdohoaa
open Go.RowKit Go
set_option linter.unusedVariables false
set_option linter.unusedSimpArgs false
set_option maxRecDepth 100000
abbrev LineT : TypeId := 81
/-- a device, its acts, its words -/
structure DevM (W : World) (g b L c : Nat) (off : Bool) (av : Value) (k : Nat) (al : List Value) (u : Int) (pv : Value) (ws : List Wd) : Prop where
  dev : DevK W g (.slice (some ⟨b, 0, none⟩) L c) off av k al u pv
  mem : MemB W b LineT ws
  len : ws.length = 8 * L
  bg : b < g
  L1 : L ≤ 1024
section
variable {W W' : World} {g b L c k : Nat} {off : Bool} {av pv : Value} {al : List Value} {u : Int} {ws ws' : List Wd}
theorem DevM.next (h : DevM W g b L c off av k al u pv ws) (hb : Below W.heap.size W W') : DevM W' g b L c off av k al u pv ws :=
  ⟨h.dev.next hb, h.mem.same (hb.block b h.mem.lt), h.len, h.bg, h.L1⟩
theorem DevK.memory (h : DevK W g (.slice (some ⟨b, 0, none⟩) L c) off av k al u pv) (hbg : b < g) (hg : W.grownBy W' (some b)) : DevK W' g (.slice (some ⟨b, 0, none⟩) L c) off av k al u pv := by
  have hlt := h.own.lt
  refine ⟨(hg.block g h.dev.lt (fun e => by injection e with e; omega)).trans h.dev, h.own.kept (row := some b) hg ?_⟩
  rcases hv : av.ownBlock with _ | j
  · exact .inl rfl
  · exact .inr (fun e => by injection e with e; have := (hlt j hv).1; omega)
theorem grown_turns (h : Turns (fun j => j = b) W W') : W.grownBy W' (some b) := ⟨h.os, h.tape, h.output, h.size, fun j hj hn => h.block j hj (fun e => hn (by rw [e]))⟩
end
/-- Store's closure -/
theorem store1_any (p0 p1 p2 g b L c at_ n c9 : Nat) (A : Option Addr) (l : List Nat) (ws : List Wd) (w : World) (h0 : w.cell? ⟨p0, 0, none⟩ = some (.pointer (some ⟨g, 0, none⟩))) (h1 : w.cell? ⟨p1, 0, none⟩ = some (.int .i64 (at_ : Int))) (h2 : w.cell? ⟨p2, 0, none⟩ = some (.slice A n c9))
    (hn : at_ + n ≤ 64 * L) (hL2 : L ≤ 1024) (hd : w.cell? ⟨g, 0, none⟩ = some (.slice (some ⟨b, 0, none⟩) L c)) (hg : g < w.heap.size) (hgb : g ≠ b) (hlen : ws.length = 8 * L) (hm : MemB w b LineT ws) (hb : BS w w.heap.size A n c9 l) (hoff : Off n A b) :
    Calls Try.prog 38 #[.pointer (some ⟨p0, 0, none⟩), .pointer (some ⟨p1, 0, none⟩), .pointer (some ⟨p2, 0, none⟩)] w fun e w' => e = .returned (.tuple #[]) ∧ w.grownBy w' (some b) ∧ MemB w' b LineT (putW Wd.st at_ l ws) := by
  have HP := Lib.hid (put_m g b L c at_ n c9 A l 40 Wd.st LineT ws w (fun _ _ => rfl) hn hL2 hd hg hgb hlen hm hb hoff (store_act b LineT))
  clear hn hd hg hgb hlen hm hb hoff
  go_enter Try.func38, Try.ntmps38
  go_wp2_with fail
  refine HP.out.mono ?_
  rintro e w1 ⟨rfl, hr⟩
  have HR := Lib.hid hr
  clear hr
  go_wp2
  go_end0
  exact ⟨rfl, HR.out⟩
/-- Flush's closure -/
theorem flush1_any (p0 p1 p2 g b L c at_ n : Nat) (ws : List Wd) (w : World) (h0 : w.cell? ⟨p0, 0, none⟩ = some (.pointer (some ⟨g, 0, none⟩))) (h1 : w.cell? ⟨p1, 0, none⟩ = some (.int .i64 (at_ : Int))) (h2 : w.cell? ⟨p2, 0, none⟩ = some (.int .i64 (n : Int)))
    (hn0 : 0 < n) (hn : at_ + n ≤ 64 * L) (hL2 : L ≤ 1024) (hd : w.cell? ⟨g, 0, none⟩ = some (.slice (some ⟨b, 0, none⟩) L c)) (hg : g < w.heap.size) (hgb : g ≠ b) (hlen : ws.length = 8 * L) (hm : MemB w b LineT ws) :
    Calls Try.prog 41 #[.pointer (some ⟨p0, 0, none⟩), .pointer (some ⟨p1, 0, none⟩), .pointer (some ⟨p2, 0, none⟩)] w (Wt w b LineT (turnW (fun _ => Wd.fl) (8 * (at_ / 64)) (8 * ((at_ + n - 1) / 64 + 1)) ws)) := by
  have HP := Lib.hid (each_m g b L c at_ n 43 (fun _ => Wd.fl) LineT ws w (fun _ _ => rfl) hn0 hn hL2 hd hg hgb hlen hm (mark_act b LineT))
  clear hn hd hg hgb hlen hm hn0
  go_enter Try.func41, Try.ntmps41
  go_wp2_with fail
  refine HP.out.mono ?_
  rintro e w1 ⟨rfl, hr⟩
  have HR := Lib.hid hr
  clear hr
  go_wp2
  go_end0
  exact ⟨rfl, HR.out⟩
/-- Fence's closure -/
theorem fence1_any (p0 g b L c : Nat) (off : Bool) (av pv : Value) (u : Int) (ws : List Wd) (w : World) (h0 : w.cell? ⟨p0, 0, none⟩ = some (.pointer (some ⟨g, 0, none⟩)))
    (hL0 : 0 < L) (hL2 : L ≤ 1024) (hd : DevB w g (.slice (some ⟨b, 0, none⟩) L c) off av u pv) (hgb : g ≠ b) (hlen : ws.length = 8 * L) (hm : MemB w b LineT ws) :
    Calls Try.prog 44 #[.pointer (some ⟨p0, 0, none⟩)] w (Wt w b LineT (turnW (fun _ => Wd.fe) 0 (8 * L) ws)) := by
  have HP := Lib.hid (all_m g b L c off av pv u 46 (fun _ => Wd.fe) LineT ws w (fun _ _ => rfl) hL0 hL2 hd hgb hlen hm (fence_act b LineT))
  clear hd hgb hlen hm hL0
  go_enter Try.func44, Try.ntmps44
  go_wp2_with fail
  refine HP.out.mono ?_
  rintro e w1 ⟨rfl, hr⟩
  have HR := Lib.hid hr
  clear hr
  go_wp2
  go_end0
  exact ⟨rfl, HR.out⟩
/-- an act that is done: what stands then -/
def ActedM (w : World) (g b L c : Nat) (av : Value) (k : Nat) (al : List Value) (pv : Value) (ws : List Wd) (e : Ending) (w' : World) : Prop :=
  e = .returned (.int .i64 0) ∧ ∃ av', DevM w' g b L c false av' k al 0 pv ws ∧ Turns (fun j => j = g ∨ j = b ∨ av.ownBlock = some j) w w' ∧ (av'.ownBlock = av.ownBlock ∨ ∃ j, w.heap.size ≤ j ∧ av'.ownBlock = some j)
section
variable {W W1 W2 : World} {g b L c k : Nat} {off : Bool} {av av' pv : Value} {al al' : List Value} {u : Int} {ws ws' : List Wd}
theorem DevM.kept (h : DevM W g b L c off av k al u pv ws) (ht : Turns (fun j => j = g ∨ av.ownBlock = some j) W1 W2) (hb : Below W.heap.size W W1) : MemB W2 b LineT ws := by
  have hlt := h.dev.own.lt
  have hbl := h.mem.lt
  have hbg := h.bg
  refine h.mem.same ((ht.block b (by have := hb.size; omega) ?_).trans (hb.block b hbl))
  rintro (e | e)
  · omega
  · have := (hlt b e).1; omega
end
/-- where a slice that is stored may not lie -/
def Far3 (n : Nat) (A : Option Addr) (g b : Nat) (av : Value) : Prop := 0 < n → ∀ ad, A = some ad → ad.block ≠ g ∧ ad.block ≠ b ∧ av.ownBlock ≠ some ad.block
theorem bs_turns {W W1 W2 : World} {n c g b : Nat} {A : Option Addr} {l : List Nat} {av : Value} (h : BS W W.heap.size A n c l) (hf : Far3 n A g b av) (hb : Below W.heap.size W W1) (ht : Turns (fun j => j = g ∨ av.ownBlock = some j) W1 W2) : BS W2 W2.heap.size A n c l := by
  obtain ⟨h1, h2, h3, h4, h5⟩ := h
  refine ⟨h1, h2, h3, h4, fun hn => ?_⟩
  obtain ⟨p, o, e, hp, hc⟩ := h5 hn
  have hs1 := hb.size
  have hs2 := ht.size
  have hfar := hf hn _ e
  refine ⟨p, o, e, by omega, fun i hi => ?_⟩
  refine (World.cell?_of_block ((ht.block p (by omega) ?_).trans (hb.block p hp))).trans (hc i hi)
  rintro (q | q)
  · exact hfar.1 q
  · exact hfar.2.2 q
/-- what a closure leaves, told of the world ahead of the act -/
theorem turns_act {W W1 W2 W3 : World} {g b : Nat} {av : Value} (hb : Below W.heap.size W W1) (ht : Turns (fun j => j = g ∨ av.ownBlock = some j) W1 W2) (hg : W2.grownBy W3 (some b)) : Turns (fun j => j = g ∨ j = b ∨ av.ownBlock = some j) W W3 :=
  ((Turns.of_below (S := fun j => j = g ∨ j = b ∨ av.ownBlock = some j) hb).trans (S' := fun j => j = g ∨ av.ownBlock = some j) ht (fun j _ q => q.elim .inl (fun r => .inr (.inr r)))).trans (S' := fun j => j = b) (Turns.of_grown hg (fun j e => by injection e with e; exact e.symm)) (fun j _ q => .inr (.inl q))
theorem store_M (g b L c k at_ n c9 : Nat) (A : Option Addr) (l : List Nat) (av pv : Value) (al : List Value) (ws : List Wd) (w : World) (h : DevM w g b L c false av k al 0 pv ws) (hk : k < 16384) (hn : at_ + n ≤ 64 * L) (hb : BS w w.heap.size A n c9 l) (hf : Far3 n A g b av) :
    Calls Try.prog 13 #[.pointer (some ⟨g, 0, none⟩), .int .i64 (at_ : Int), .slice A n c9] w (ActedM w g b L c av (k + 1) (al ++ actV 1 (at_ : Int) (n : Int)) pv (putW Wd.st at_ l ws)) := by
  refine store_do g k L c (some ⟨b, 0, none⟩) av pv al (at_ : Int) A n c9 (fun w' => ∃ av', DevM w' g b L c false av' (k + 1) (al ++ actV 1 (at_ : Int) (n : Int)) 0 pv (putW Wd.st at_ l ws) ∧ Turns (fun j => j = g ∨ j = b ∨ av.ownBlock = some j) w w' ∧ (av'.ownBlock = av.ownBlock ∨ ∃ j, w.heap.size ≤ j ∧ av'.ownBlock = some j)) w h.dev h.L1 hk (by unfold hasB; exact decide_eq_true (by omega)) ?_
  intro av' W' hdk ht h3
  have hbl : Below w.heap.size w (stW w g (at_ : Int) (.slice A n c9)) := by
    unfold stW
    exact (((Below.refl w.heap.size w).alloc (Nat.le_refl _) _).alloc (by simp) _).alloc (by simp; omega) _
  have hm := h.kept ht hbl
  have hbs := bs_turns hb hf hbl ht
  have hlt := h.dev.own.lt
  have hgl := h.dev.dev.lt
  have hsz : (stW w g (at_ : Int) (.slice A n c9)).heap.size = w.heap.size + 1 + 1 + 1 := by unfold stW; simp
  have hcell : ∀ i, i < 3 → W'.cell? ⟨w.heap.size + i, 0, none⟩ = (stW w g (at_ : Int) (.slice A n c9)).cell? ⟨w.heap.size + i, 0, none⟩ := fun i hi =>
    World.cell?_of_block (ht.block (w.heap.size + i) (by omega) (by
      rintro (q | q)
      · omega
      · have := (hlt _ q).2; omega))
  have c0 : W'.cell? ⟨w.heap.size, 0, none⟩ = some (.pointer (some ⟨g, 0, none⟩)) := (hcell 0 (by omega)).trans (by unfold stW; go_simp)
  have c1 : W'.cell? ⟨w.heap.size + 1, 0, none⟩ = some (.int .i64 (at_ : Int)) := (hcell 1 (by omega)).trans (by unfold stW; go_simp)
  have c2 : W'.cell? ⟨w.heap.size + 1 + 1, 0, none⟩ = some (.slice A n c9) := (hcell 2 (by omega)).trans (by unfold stW; go_simp)
  refine (store1_any _ _ _ g b L c at_ n c9 A l ws W' c0 c1 c2 hn h.L1 hdk.dev.lines hdk.dev.lt (by have := h.bg; omega) h.len hm hbs (fun h0 ad e => (hf h0 ad e).2.1)).mono ?_
  rintro e w1 ⟨he, hg1, hm1⟩
  exact ⟨he, av', ⟨hdk.memory h.bg hg1, hm1, by rw [putW_len]; exact h.len, h.bg, h.L1⟩, turns_act hbl ht hg1, h3⟩
theorem flush_M (g b L c k at_ n : Nat) (av pv : Value) (al : List Value) (ws : List Wd) (w : World) (h : DevM w g b L c false av k al 0 pv ws) (hk : k < 16384) (hn0 : 0 < n) (hn : at_ + n ≤ 64 * L) :
    Calls Try.prog 14 #[.pointer (some ⟨g, 0, none⟩), .int .i64 (at_ : Int), .int .i64 (n : Int)] w (ActedM w g b L c av (k + 1) (al ++ actV 2 (at_ : Int) (n : Int)) pv (turnW (fun _ => Wd.fl) (8 * (at_ / 64)) (8 * ((at_ + n - 1) / 64 + 1)) ws)) := by
  refine flush_do g k L c (some ⟨b, 0, none⟩) av pv al (at_ : Int) (n : Int) (fun w' => ∃ av', DevM w' g b L c false av' (k + 1) (al ++ actV 2 (at_ : Int) (n : Int)) 0 pv (turnW (fun _ => Wd.fl) (8 * (at_ / 64)) (8 * ((at_ + n - 1) / 64 + 1)) ws) ∧ Turns (fun j => j = g ∨ j = b ∨ av.ownBlock = some j) w w' ∧ (av'.ownBlock = av.ownBlock ∨ ∃ j, w.heap.size ≤ j ∧ av'.ownBlock = some j)) w h.dev h.L1 hk (by unfold hasB; exact decide_eq_true (by omega)) ?_
  intro av' W' hdk ht h3
  have hbl : Below w.heap.size w (flW w g (at_ : Int) (n : Int)) := by
    unfold flW
    exact (((Below.refl w.heap.size w).alloc (Nat.le_refl _) _).alloc (by simp) _).alloc (by simp; omega) _
  have hm := h.kept ht hbl
  have hlt := h.dev.own.lt
  have hgl := h.dev.dev.lt
  have hsz : (flW w g (at_ : Int) (n : Int)).heap.size = w.heap.size + 1 + 1 + 1 := by unfold flW; simp
  have hcell : ∀ i, i < 3 → W'.cell? ⟨w.heap.size + i, 0, none⟩ = (flW w g (at_ : Int) (n : Int)).cell? ⟨w.heap.size + i, 0, none⟩ := fun i hi =>
    World.cell?_of_block (ht.block (w.heap.size + i) (by omega) (by
      rintro (q | q)
      · omega
      · have := (hlt _ q).2; omega))
  have c0 : W'.cell? ⟨w.heap.size, 0, none⟩ = some (.pointer (some ⟨g, 0, none⟩)) := (hcell 0 (by omega)).trans (by unfold flW; go_simp)
  have c1 : W'.cell? ⟨w.heap.size + 1, 0, none⟩ = some (.int .i64 (at_ : Int)) := (hcell 1 (by omega)).trans (by unfold flW; go_simp)
  have c2 : W'.cell? ⟨w.heap.size + 1 + 1, 0, none⟩ = some (.int .i64 (n : Int)) := (hcell 2 (by omega)).trans (by unfold flW; go_simp)
  refine (flush1_any _ _ _ g b L c at_ n ws W' c0 c1 c2 hn0 hn h.L1 hdk.dev.lines hdk.dev.lt (by have := h.bg; omega) h.len hm).mono ?_
  rintro e w1 ⟨he, hg1, hm1⟩
  exact ⟨he, av', ⟨hdk.memory h.bg (grown_turns hg1), hm1, by rw [turnW_len]; exact h.len, h.bg, h.L1⟩, turns_act hbl ht (grown_turns hg1), h3⟩
theorem fence_M (g b L c k : Nat) (av pv : Value) (al : List Value) (ws : List Wd) (w : World) (h : DevM w g b L c false av k al 0 pv ws) (hk : k < 16384) (hL0 : 0 < L) :
    Calls Try.prog 15 #[.pointer (some ⟨g, 0, none⟩)] w (ActedM w g b L c av (k + 1) (al ++ actV 3 0 0) pv (turnW (fun _ => Wd.fe) 0 (8 * L) ws)) := by
  refine fence_do g k L c (some ⟨b, 0, none⟩) av pv al (fun w' => ∃ av', DevM w' g b L c false av' (k + 1) (al ++ actV 3 0 0) 0 pv (turnW (fun _ => Wd.fe) 0 (8 * L) ws) ∧ Turns (fun j => j = g ∨ j = b ∨ av.ownBlock = some j) w w' ∧ (av'.ownBlock = av.ownBlock ∨ ∃ j, w.heap.size ≤ j ∧ av'.ownBlock = some j)) w h.dev h.L1 hk ?_
  intro av' W' hdk ht h3
  have hbl : Below w.heap.size w (w.alloc (.cells #[.pointer (some ⟨g, 0, none⟩)] 23)) := (Below.refl w.heap.size w).alloc (Nat.le_refl _) _
  have hm := h.kept ht hbl
  have hlt := h.dev.own.lt
  have hgl := h.dev.dev.lt
  have hsz : (w.alloc (.cells #[.pointer (some ⟨g, 0, none⟩)] 23)).heap.size = w.heap.size + 1 := by simp
  have c0 : W'.cell? ⟨w.heap.size, 0, none⟩ = some (.pointer (some ⟨g, 0, none⟩)) := (World.cell?_of_block (ht.block w.heap.size (by omega) (by
      rintro (q | q)
      · omega
      · have := (hlt _ q).2; omega))).trans (by go_simp)
  refine (fence1_any _ g b L c _ _ _ _ ws W' c0 hL0 h.L1 hdk.dev (by have := h.bg; omega) h.len hm).mono ?_
  rintro e w1 ⟨he, hg1, hm1⟩
  exact ⟨he, av', ⟨hdk.memory h.bg (grown_turns hg1), hm1, by rw [turnW_len]; exact h.len, h.bg, h.L1⟩, turns_act hbl ht (grown_turns hg1), h3⟩
end Go.Proofs.Ythigknolpdohoaa
