/-
  A word of a device, with the words as a list: mark, keep, lose, fence, store, tamper; each and all of them.
-/
import Derived.Test.YthigknolpdohoaaNvP
import Derived.Test.YthigknolpdohoaaNvX
import Derived.Test.YthigknolpdohoaaNvF
namespace Go.Proofs.Ythigknolpdohoaa
open Go.RowKit Go
set_option linter.unusedVariables false
set_option linter.unusedSimpArgs false
set_option maxRecDepth 100000
theorem eight {l : List Nat} (h : l.length = 8) : l = [l.getD 0 0, l.getD 1 0, l.getD 2 0, l.getD 3 0, l.getD 4 0, l.getD 5 0, l.getD 6 0, l.getD 7 0] := by
  match l, h with
  | [a, b, c, d, e, f, g, i], _ => rfl
/-- what a turn of one word leaves -/
def Wt (w : World) (b : Nat) (t : TypeId) (ws : List Wd) (e : Ending) (w' : World) : Prop := e = .returned (.tuple #[]) ∧ Turns (fun j => j = b) w w' ∧ MemB w' b t ws
theorem keep_cells {x : Wd} (h : x.now.length = 8) : #[Value.int .u8 (x.now.getD 0 0 : Int), Value.int .u8 (x.now.getD 1 0 : Int), Value.int .u8 (x.now.getD 2 0 : Int), Value.int .u8 (x.now.getD 3 0 : Int), Value.int .u8 (x.now.getD 4 0 : Int), Value.int .u8 (x.now.getD 5 0 : Int), Value.int .u8 (x.now.getD 6 0 : Int), Value.int .u8 (x.now.getD 7 0 : Int), Value.int .u8 (x.now.getD 0 0 : Int), Value.int .u8 (x.now.getD 1 0 : Int), Value.int .u8 (x.now.getD 2 0 : Int), Value.int .u8 (x.now.getD 3 0 : Int), Value.int .u8 (x.now.getD 4 0 : Int), Value.int .u8 (x.now.getD 5 0 : Int), Value.int .u8 (x.now.getD 6 0 : Int), Value.int .u8 (x.now.getD 7 0 : Int), Value.bool false, Value.bool false].toList = wdC x.keep := by
  have := eight h
  unfold wdC Wd.keep
  generalize x.now = l at *
  match l, h with
  | [a, b, c, d, e, f, g, i], _ => rfl
theorem turns_cells {W : World} (b o : Nat) (l : List Value) : Turns (fun j => j = b) W (W.drew.setCells b o l) :=
  ⟨os_setCells b l o W.drew, tape_setCells b l o W.drew, output_setCells b l o W.drew, by rw [size_setCells]; exact Nat.le_refl _, fun k _ hk => heap_setCells b l o W.drew k hk⟩
variable {w : World} {b : Nat} {t : TypeId} {ws : List Wd} {j : Nat} {x : Wd}
theorem mark_m (h : MemB w b t ws) (hj : ws[j]? = some x) : Calls Try.prog 43 #[.pointer (some ⟨b, 18 * j, none⟩)] w (Wt w b t (ws.set j x.fl)) := by
  refine (mark_any b (18 * j) x.pend (.bool x.mark) w (h.pend hj) (h.mark hj) (h.free _)).mono ?_
  rintro e w1 ⟨rfl, rfl⟩
  exact ⟨rfl, Turns.set _ _ rfl, h.fl hj⟩
theorem keep_m (h : MemB w b t ws) (hj : ws[j]? = some x) : Calls Try.prog 48 #[.pointer (some ⟨b, 18 * j, none⟩)] w (Wt w b t (ws.set j x.keep)) := by
  have hx := h.1 x (wd_mem hj)
  refine (keep8_any b (18 * j) _ _ _ _ _ _ _ _ w (h.now hj 0 (by omega)) (h.now hj 1 (by omega)) (h.now hj 2 (by omega)) (h.now hj 3 (by omega)) (h.now hj 4 (by omega)) (h.now hj 5 (by omega)) (h.now hj 6 (by omega)) (h.now hj 7 (by omega)) (h.there hj)).mono ?_
  rintro e w1 ⟨rfl, rfl⟩
  exact ⟨rfl, turns_cells _ _ _, by rw [keep_cells hx.n]; exact h.drew.all hj hx.keep⟩
theorem lose_m (h : MemB w b t ws) (hj : ws[j]? = some x) : Calls Try.prog 49 #[.pointer (some ⟨b, 18 * j, none⟩)] w (Wt w b t (ws.set j x.lose)) := by
  have hx := h.1 x (wd_mem hj)
  refine (lose8_any b (18 * j) _ _ _ _ _ _ _ _ w (h.last hj 0 (by omega)) (h.last hj 1 (by omega)) (h.last hj 2 (by omega)) (h.last hj 3 (by omega)) (h.last hj 4 (by omega)) (h.last hj 5 (by omega)) (h.last hj 6 (by omega)) (h.last hj 7 (by omega)) (h.there hj)).mono ?_
  rintro e w1 ⟨rfl, rfl⟩
  exact ⟨rfl, turns_cells _ _ _, by have := keep_cells (x := ⟨x.lasts, x.lasts, false, false⟩) hx.l; dsimp only at this; rw [this]; exact h.drew.all hj hx.lose⟩
theorem set_same (hj : ws[j]? = some x) : ws.set j x = ws := by
  obtain ⟨hl, he⟩ := List.getElem?_eq_some_iff.mp hj
  rw [← he, List.set_getElem_self]
theorem fence_m (h : MemB w b t ws) (hj : ws[j]? = some x) : Calls Try.prog 46 #[.pointer (some ⟨b, 18 * j, none⟩)] w (Wt w b t (ws.set j x.fe)) := by
  have hx := h.1 x (wd_mem hj)
  have hm := h.mark hj
  cases hk : x.mark
  · rw [hk] at hm
    refine (fence8_off b (18 * j) w hm).mono ?_
    rintro e w1 ⟨rfl, rfl⟩
    exact ⟨rfl, Turns.of_below (Below.refl _ _), by rw [show x.fe = x by unfold Wd.fe; rw [hk]; rfl, set_same hj]; exact h⟩
  · rw [hk] at hm
    refine (fence8_on b (18 * j) _ _ _ _ _ _ _ _ w hm (h.now hj 0 (by omega)) (h.now hj 1 (by omega)) (h.now hj 2 (by omega)) (h.now hj 3 (by omega)) (h.now hj 4 (by omega)) (h.now hj 5 (by omega)) (h.now hj 6 (by omega)) (h.now hj 7 (by omega)) (h.there hj)).mono ?_
    rintro e w1 ⟨rfl, rfl⟩
    exact ⟨rfl, turns_cells _ _ _, by rw [keep_cells hx.n, show x.fe = x.keep by unfold Wd.fe; rw [hk]; rfl]; exact h.drew.all hj hx.keep⟩
theorem bs_lt {W : World} {B n c : Nat} {A : Option Addr} {l : List Nat} (h : BS W B A n c l) : ∀ v ∈ l, v < 256 := fun v hv => by
  obtain ⟨i, hi, rfl⟩ := List.mem_iff_getElem.mp hv
  have := h.byte i
  rwa [List.getD_eq_getElem?_getD, List.getElem?_eq_getElem hi] at this
theorem store_m (h : MemB w b t ws) (hj : ws[j]? = some x) (f : Nat) (hf : f < 8) (A : Option Addr) (n c : Nat) (l : List Nat) (hbs : BS w w.heap.size A n c l) (ho : Off n A b) :
    Calls Try.prog 40 #[.pointer (some ⟨b, 18 * j, none⟩), .int .i64 (f : Int), .slice A n c] w fun e w' => e = .returned (.int .i64 ((min n (8 - f) : Nat) : Int)) ∧ w.grownBy w' (some b) ∧ MemB w' b t (ws.set j (x.st f (l.take (min n (8 - f))))) := by
  have hx := h.1 x (wd_mem hj)
  have hl := wd_lt hj
  have hq : (l.take (min n (8 - f))).length = min n (8 - f) := by rw [List.length_take, hbs.len]; omega
  refine (store8_any b (18 * j) f hf (encM ws) t A n c l w h.2 (by rw [encM_len h.1]; omega) hbs ho (fun v => h.free v) _ _ (h.pend hj) (h.mark hj)).mono ?_
  rintro e w1 ⟨rfl, hg, hc⟩
  refine ⟨rfl, hg, h.1.set j (hx.st (by omega) (fun v hv => bs_lt hbs v (List.mem_of_mem_take hv))), ?_⟩
  rw [hc]
  unfold stored
  rw [encM_st h.1 hj (by omega)]
theorem tamper_m (h : MemB w b t ws) (hj : ws[j]? = some x) (f : Nat) (hf : f < 8) (A : Option Addr) (n c : Nat) (l : List Nat) (hbs : BS w w.heap.size A n c l) (ho : Off n A b) :
    Calls Try.prog 60 #[.pointer (some ⟨b, 18 * j, none⟩), .int .i64 (f : Int), .slice A n c] w fun e w' => e = .returned (.int .i64 ((min n (8 - f) : Nat) : Int)) ∧ w.grownBy w' (some b) ∧ MemB w' b t (ws.set j (x.tam f (l.take (min n (8 - f))))) := by
  have hx := h.1 x (wd_mem hj)
  have hl := wd_lt hj
  have hq : (l.take (min n (8 - f))).length = min n (8 - f) := by rw [List.length_take, hbs.len]; omega
  have hb : ∀ v ∈ l.take (min n (8 - f)), v < 256 := fun v hv => bs_lt hbs v (List.mem_of_mem_take hv)
  refine (tamper8_any b (18 * j) f hf (encM ws) t A n c l w h.2 (by rw [encM_len h.1]; omega) hbs ho).mono ?_
  rintro e w1 ⟨rfl, hg, hc⟩
  refine ⟨rfl, hg, h.1.set j (hx.tam (by omega) hb), ?_⟩
  rw [hc]
  unfold tampered
  rw [encM_tam h.1 hj (by omega) hb]
/-- the words from a on and below j have become what F makes of them -/
def turnW (F : Nat → Wd → Wd) (a j : Nat) (ws : List Wd) : List Wd := ws.mapIdx fun i x => if a ≤ i ∧ i < j then F i x else x
theorem turnW_len (F : Nat → Wd → Wd) (a j : Nat) (ws : List Wd) : (turnW F a j ws).length = ws.length := by simp [turnW]
theorem turnW_at (F : Nat → Wd → Wd) (a j i : Nat) (ws : List Wd) : (turnW F a j ws)[i]? = (ws[i]?).map fun x => if a ≤ i ∧ i < j then F i x else x := by
  unfold turnW; rw [List.getElem?_mapIdx]
theorem turnW_none (F : Nat → Wd → Wd) (a : Nat) (ws : List Wd) : turnW F a a ws = ws := by
  refine List.ext_getElem? fun i => ?_
  rw [turnW_at]
  cases ws[i]? with
  | none => rfl
  | some x => rw [Option.map_some, if_neg (by omega)]
theorem turnW_here (F : Nat → Wd → Wd) {a j : Nat} {ws : List Wd} {x : Wd} (hj : ws[j]? = some x) : (turnW F a j ws)[j]? = some x := by
  rw [turnW_at, hj, Option.map_some, if_neg (by omega)]
theorem turnW_next (F : Nat → Wd → Wd) {a j : Nat} {ws : List Wd} {x : Wd} (ha : a ≤ j) (hj : ws[j]? = some x) : (turnW F a j ws).set j (F j x) = turnW F a (j + 1) ws := by
  have hl := wd_lt hj
  refine List.ext_getElem? fun i => ?_
  by_cases e : i = j
  · subst e
    rw [List.getElem?_set_self (by rw [turnW_len]; exact hl), turnW_at, hj, Option.map_some, if_pos ⟨ha, by omega⟩]
  · rw [List.getElem?_set_ne (fun q => e q.symm), turnW_at, turnW_at]
    cases ws[i]? with
    | none => rfl
    | some y =>
      rw [Option.map_some, Option.map_some]
      by_cases c : a ≤ i ∧ i < j
      · rw [if_pos c, if_pos ⟨c.1, by omega⟩]
      · rw [if_neg c, if_neg (by omega)]
end Go.Proofs.Ythigknolpdohoaa
