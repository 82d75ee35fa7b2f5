/-
  The words of a device: each of some lines, all of them; bytes that are put into them.
-/
import Derived.Test.YthigknolpdohoaaNvQ
import Derived.Test.YthigknolpdohoaaNvY
import Derived.Test.YthigknolpdohoaaNvG
namespace Go.Proofs.Ythigknolpdohoaa
open Go.RowKit Go
set_option linter.unusedVariables false
set_option linter.unusedSimpArgs false
set_option maxRecDepth 100000
/-- an act on one word, for every word -/
def ActW (f : FuncId) (F : Nat → Wd → Wd) (b : Nat) (t : TypeId) : Prop :=
  ∀ (j : Nat) (x : Wd) (W : World) (ws : List Wd), MemB W b t ws → ws[j]? = some x → Calls Try.prog f #[.pointer (some ⟨b, 18 * j, none⟩)] W (Wt W b t (ws.set j (F j x)))
def EachI (w : World) (b : Nat) (t : TypeId) (F : Nat → Wd → Wd) (a : Nat) (ws : List Wd) (m : Nat) (W : World) : Prop := Turns (fun j => j = b) w W ∧ MemB W b t (turnW F a m ws)
theorem turns_cell0 {w W : World} {b g : Nat} (h : Turns (fun j => j = b) w W) (hg : g < w.heap.size) (hgb : g ≠ b) (i : Nat) : W.cell? ⟨g, i, none⟩ = w.cell? ⟨g, i, none⟩ :=
  World.cell?_of_block (h.block g hg hgb)
theorem eachI_turns {f : FuncId} {F : Nat → Wd → Wd} {b lo z L : Nat} {t : TypeId} {w : World} {ws : List Wd} (hA : ActW f F b t) (hlen : ws.length = 8 * L) (hz : z < L) : TurnsW f [] b lo z (EachI w b t F (8 * lo) ws) := by
  intro l k W h1 h2 h3 hi
  obtain ⟨ht, hm⟩ := hi
  obtain ⟨x, hx⟩ : ∃ x, ws[8 * l + k]? = some x := ⟨_, List.getElem?_eq_getElem (by omega)⟩
  have := hA (8 * l + k) x W _ hm (turnW_here F hx)
  rw [show 18 * (8 * l + k) = l * 144 + k * 18 by omega, turnW_next F (by omega) hx] at this
  refine this.mono ?_
  rintro e w1 ⟨he, ht1, hm1⟩
  exact ⟨he, ht.trans ht1 (fun _ _ q => q), hm1⟩
/-- each word of the lines of some bytes -/
theorem each_m (g b L c at_ n : Nat) (f : FuncId) (F : Nat → Wd → Wd) (t : TypeId) (ws : List Wd) (w : World) (hf : EntersF f) (hn : 0 < n) (hL : at_ + n ≤ 64 * L) (hL2 : L ≤ 1024)
    (hd : w.cell? ⟨g, 0, none⟩ = some (.slice (some ⟨b, 0, none⟩) L c)) (hg : g < w.heap.size) (hgb : g ≠ b) (hlen : ws.length = 8 * L) (hm : MemB w b t ws) (hA : ActW f F b t) :
    Calls Try.prog 42 #[.pointer (some ⟨g, 0, none⟩), .int .i64 (at_ : Int), .int .i64 (n : Int), .func (Fn.func f) #[] #[]] w (Wt w b t (turnW F (8 * (at_ / 64)) (8 * ((at_ + n - 1) / 64 + 1)) ws)) := by
  have h := each8_any g b L c at_ n (at_ / 64) ((at_ + n - 1) / 64) f [] (EachI w b t F (8 * (at_ / 64)) ws) w hf hn rfl rfl hL hL2
    (fun m W hi => by rw [turns_cell0 hi.1 hg hgb]; exact hd) (eachI_turns hA hlen (by omega)) ⟨Turns.of_below (Below.refl _ _), by rw [turnW_none]; exact hm⟩
  refine h.mono ?_
  rintro e w1 ⟨he, hi⟩
  exact ⟨he, hi.1, hi.2⟩
/-- all words -/
theorem all_m (g b L c : Nat) (off : Bool) (av pv : Value) (u : Int) (f : FuncId) (F : Nat → Wd → Wd) (t : TypeId) (ws : List Wd) (w : World) (hf : EntersF f) (hL0 : 0 < L) (hL2 : L ≤ 1024)
    (hd : DevB w g (.slice (some ⟨b, 0, none⟩) L c) off av u pv) (hgb : g ≠ b) (hlen : ws.length = 8 * L) (hm : MemB w b t ws) (hA : ActW f F b t) :
    Calls Try.prog 45 #[.pointer (some ⟨g, 0, none⟩), .func (Fn.func f) #[] #[]] w (Wt w b t (turnW F 0 (8 * L) ws)) := by
  have h := all8_any g b L c f [] (EachI w b t F 0 ws) w off av pv u hf hd hL0 hL2
    (fun m W hi => by rw [turns_cell0 hi.1 hd.lt hgb]; exact hd.lines) (eachI_turns (lo := 0) hA hlen (by omega)) ⟨Turns.of_below (Below.refl _ _), by rw [turnW_none]; exact hm⟩
  refine h.mono ?_
  rintro e w1 ⟨he, hi⟩
  exact ⟨he, hi.1, hi.2⟩
/-- what a word becomes when bytes are put at a place: those of them that lie in it -/
def putB (u : Wd → Nat → List Nat → Wd) (at_ : Nat) (q : List Nat) (i : Nat) (x : Wd) : Wd :=
  if max (8 * i) at_ < min (8 * i + 8) (at_ + q.length) then u x (max (8 * i) at_ - 8 * i) ((q.drop (max (8 * i) at_ - at_)).take (min (8 * i + 8) (at_ + q.length) - max (8 * i) at_)) else x
def putW (u : Wd → Nat → List Nat → Wd) (at_ : Nat) (q : List Nat) (ws : List Wd) : List Wd := ws.mapIdx (putB u at_ q)
theorem putW_len (u : Wd → Nat → List Nat → Wd) (at_ : Nat) (q : List Nat) (ws : List Wd) : (putW u at_ q ws).length = ws.length := by simp [putW]
theorem putW_at (u : Wd → Nat → List Nat → Wd) (at_ : Nat) (q : List Nat) (ws : List Wd) (i : Nat) : (putW u at_ q ws)[i]? = (ws[i]?).map (putB u at_ q i) := by
  unfold putW; rw [List.getElem?_mapIdx]
theorem putB_none (u : Wd → Nat → List Nat → Wd) (at_ : Nat) (i : Nat) (x : Wd) : putB u at_ [] i x = x := by
  unfold putB; rw [if_neg (by simp only [List.length_nil]; omega)]
theorem putW_none (u : Wd → Nat → List Nat → Wd) (at_ : Nat) (ws : List Wd) : putW u at_ [] ws = ws := by
  refine List.ext_getElem? fun i => ?_
  rw [putW_at]
  cases ws[i]? with
  | none => rfl
  | some x => rw [Option.map_some, putB_none]
theorem putB_take (u : Wd → Nat → List Nat → Wd) (at_ k : Nat) (l : List Nat) (hk : k ≤ l.length) (i : Nat) (x : Wd) :
    putB u at_ (l.take k) i x = if max (8 * i) at_ < min (8 * i + 8) (at_ + k) then u x (max (8 * i) at_ - 8 * i) ((l.drop (max (8 * i) at_ - at_)).take (min (8 * i + 8) (at_ + k) - max (8 * i) at_)) else x := by
  have hl : (l.take k).length = k := by rw [List.length_take]; omega
  unfold putB
  rw [hl]
  by_cases c : max (8 * i) at_ < min (8 * i + 8) (at_ + k)
  · rw [if_pos c, if_pos c, List.drop_take, List.take_take, Nat.min_eq_left (by omega)]
  · rw [if_neg c, if_neg c]
/-- the next bytes go into one word -/
theorem putW_next (u : Wd → Nat → List Nat → Wd) (at_ k : Nat) (l : List Nat) (hk : k < l.length) (hw : k = 0 ∨ (at_ + k) % 8 = 0) {ws : List Wd} {x : Wd} (hx : ws[(at_ + k) / 8]? = some x) :
    (putW u at_ (l.take k) ws)[(at_ + k) / 8]? = some x ∧
    (putW u at_ (l.take k) ws).set ((at_ + k) / 8) (u x ((at_ + k) % 8) ((l.drop k).take (min (l.length - k) (8 - (at_ + k) % 8)))) = putW u at_ (l.take (k + min (l.length - k) (8 - (at_ + k) % 8))) ws := by
  have hl := wd_lt hx
  refine ⟨?_, ?_⟩
  · rw [putW_at, hx, Option.map_some, putB_take u at_ k l (by omega), if_neg (by omega)]
  · refine List.ext_getElem? fun i => ?_
    by_cases e : i = (at_ + k) / 8
    · subst e
      rw [List.getElem?_set_self (by rw [putW_len]; exact hl), putW_at, hx, Option.map_some, putB_take u at_ _ l (by omega), if_pos (by omega)]
      have e1 : max (8 * ((at_ + k) / 8)) at_ = at_ + k := by omega
      rw [e1, show at_ + k - 8 * ((at_ + k) / 8) = (at_ + k) % 8 by omega, show at_ + k - at_ = k by omega,
        show min (8 * ((at_ + k) / 8) + 8) (at_ + (k + min (l.length - k) (8 - (at_ + k) % 8))) - (at_ + k) = min (l.length - k) (8 - (at_ + k) % 8) by omega]
    · rw [List.getElem?_set_ne (fun q => e q.symm), putW_at, putW_at]
      cases ws[i]? with
      | none => rfl
      | some y =>
        rw [Option.map_some, Option.map_some, putB_take u at_ k l (by omega), putB_take u at_ _ l (by omega)]
        by_cases h : i < (at_ + k) / 8
        · have e1 : min (8 * i + 8) (at_ + (k + min (l.length - k) (8 - (at_ + k) % 8))) = min (8 * i + 8) (at_ + k) := by omega
          rw [e1]
        · rw [if_neg (by omega), if_neg (by omega)]
/-- an act that puts bytes into one word -/
def ActP (f : FuncId) (u : Wd → Nat → List Nat → Wd) (b : Nat) (t : TypeId) : Prop :=
  ∀ (j : Nat) (x : Wd) (W : World) (ws : List Wd) (o : Nat) (A : Option Addr) (n c : Nat) (l : List Nat), MemB W b t ws → ws[j]? = some x → o < 8 → BS W W.heap.size A n c l → Off n A b →
    Calls Try.prog f #[.pointer (some ⟨b, 18 * j, none⟩), .int .i64 (o : Int), .slice A n c] W fun e w' => e = .returned (.int .i64 ((min n (8 - o) : Nat) : Int)) ∧ W.grownBy w' (some b) ∧ MemB w' b t (ws.set j (u x o (l.take (min n (8 - o)))))
theorem store_act (b : Nat) (t : TypeId) : ActP 40 Wd.st b t := fun j x W ws o A n c l h hj ho hb hoff => store_m h hj o ho A n c l hb hoff
theorem tamper_act (b : Nat) (t : TypeId) : ActP 60 Wd.tam b t := fun j x W ws o A n c l h hj ho hb hoff => tamper_m h hj o ho A n c l hb hoff
theorem mark_act (b : Nat) (t : TypeId) : ActW 43 (fun _ => Wd.fl) b t := fun j x W ws h hj => mark_m h hj
theorem fence_act (b : Nat) (t : TypeId) : ActW 46 (fun _ => Wd.fe) b t := fun j x W ws h hj => fence_m h hj
def PutI (w : World) (b : Nat) (t : TypeId) (u : Wd → Nat → List Nat → Wd) (at_ : Nat) (l : List Nat) (ws : List Wd) (k : Nat) (W : World) : Prop :=
  k ≤ l.length ∧ (k = 0 ∨ (at_ + k) % 8 = 0 ∨ k = l.length) ∧ w.grownBy W (some b) ∧ MemB W b t (putW u at_ (l.take k) ws)
theorem grown_drew {w W : World} {r : Option Nat} (h : w.grownBy W r) : w.grownBy W.drew r := ⟨h.os, h.tape, h.output, h.size, h.block⟩
theorem put_m (g b L c at_ n c9 : Nat) (A : Option Addr) (l : List Nat) (f : FuncId) (u : Wd → Nat → List Nat → Wd) (t : TypeId) (ws : List Wd) (w : World) (hf : EntersF f) (hn : at_ + n ≤ 64 * L) (hL2 : L ≤ 1024)
    (hd : w.cell? ⟨g, 0, none⟩ = some (.slice (some ⟨b, 0, none⟩) L c)) (hg : g < w.heap.size) (hgb : g ≠ b) (hlen : ws.length = 8 * L) (hm : MemB w b t ws) (hb : BS w w.heap.size A n c9 l) (hoff : Off n A b) (hA : ActP f u b t) :
    Calls Try.prog 39 #[.pointer (some ⟨g, 0, none⟩), .int .i64 (at_ : Int), .slice A n c9, .func (Fn.func f) #[] #[]] w fun e w' => e = .returned (.tuple #[]) ∧ w.grownBy w' (some b) ∧ MemB w' b t (putW u at_ l ws) := by
  have hln := hb.len
  have h := put8_any g b L c at_ n c9 A f (PutI w b t u at_ l ws) w hf hn hL2 hb.cap.1
    (fun m W hi => by rw [World.cell?_of_block (hi.2.2.1.block g hg (fun e => hgb (by injection e)))]; exact hd)
    (fun m W hi => ⟨hi.1, hi.2.1, grown_drew hi.2.2.1, hi.2.2.2.drew⟩)
    (fun k W hk hi => by
      obtain ⟨h1, h2, h3, h4⟩ := hi
      obtain ⟨x, hx⟩ : ∃ x, ws[(at_ + k) / 8]? = some x := ⟨_, List.getElem?_eq_getElem (by omega)⟩
      have hnext := putW_next u at_ k l (by omega) (by omega) hx
      have hbs : BS W W.heap.size (cutA A c9 k) (n - k) (c9 - k) (l.drop k) := (hb.only hoff h3).cut (by omega)
      have := hA ((at_ + k) / 8) x W _ ((at_ + k) % 8) (cutA A c9 k) (n - k) (c9 - k) (l.drop k) h4 hnext.1 (by omega) hbs (hoff.cut c9 k (by omega))
      rw [← hln, hnext.2, hln, show 18 * ((at_ + k) / 8) = (at_ + k) / 64 * 144 + (at_ + k) % 64 / 8 * 18 by omega] at this
      refine this.mono ?_
      rintro e w1 ⟨he, hg1, hm1⟩
      exact ⟨he, by omega, by omega, only_trans h3 hg1, hm1⟩)
    ⟨by omega, .inl rfl, World.grownBy.refl w _, by rw [List.take_zero, putW_none]; exact hm⟩
  refine h.mono ?_
  rintro e w1 ⟨he, hi⟩
  refine ⟨he, hi.2.2.1, ?_⟩
  have := hi.2.2.2
  rwa [List.take_of_length_le (by omega)] at this
end Go.Proofs.Ythigknolpdohoaa
