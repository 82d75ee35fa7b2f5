/-
  What is laid: the kinds' table lies in block 0.
-/
import Derived.Test.YtcaogiaoabdkdaaDoorZLqG
import Derived.LaidMore
import Derived.LaidOnce
import Derived.Lay
import Derived.Test.YtcaogiaoabdkdaaDoorRows
import Derived.ChangeSame
namespace Go.Proofs.YtcaogiaoabdkdaaDoor
open Go.RowKit Go Go.ChangeShapes
set_option maxRecDepth 100000
set_option linter.unusedVariables false
set_option linter.unusedSimpArgs false
def laidL : List (String × DataW Unit) := [("unicode/utf8.acceptRanges", Rows.laid_unicode_utf8_acceptRanges), ("garderobe/lines.kinds", Rows.laid_garderobe_lines_kinds), ("unicode/utf8.first", Rows.laid_unicode_utf8_first)]
theorem two_ext {l m : List Value} (n : Nat) (hl : l.length = 2 * n) (hm : m.length = 2 * n) (h : ∀ i, i < n → (l.drop (i * 2)).take 2 = (m.drop (i * 2)).take 2) : l = m := by
  apply List.ext_getElem?
  intro j
  by_cases hj : j < 2 * n
  · have e := congrArg (fun x : List Value => x[j % 2]?) (h (j / 2) (by omega))
    simp only [List.getElem?_take, List.getElem?_drop] at e
    rw [if_pos (by omega), if_pos (by omega), show j / 2 * 2 + j % 2 = j by omega] at e
    exact e
  · rw [List.getElem?_eq_none (by omega), List.getElem?_eq_none (by omega)]
theorem bytes_eq {s : ByteArray} {l : List UInt8} (h : s.data.toList = l) : s = ⟨⟨l⟩⟩ := by
  apply ByteArray.ext
  apply Array.ext'
  exact h
theorem pair_of {W : World} {fuel : Nat} {cs : List Value} {x : DataW Unit × List MemPlace} {a b : List UInt8} (h : DataW.trod (fun _ => ()) Tryd.prog W 0 (fun _ => true) false fuel 74 cs = some x) (hx : x.1 = .agg [.lit (.string a), .lit (.string b)]) : cs = [.string ⟨⟨a⟩⟩, .string ⟨⟨b⟩⟩] := by
  obtain ⟨y0, y1, n, rfl, hl, h0, h1⟩ := trod_struct2 Tryd.underlying74 h
  have c9 : Tryd.prog.cellsOf 9 = 1 := by kernel_rfl
  have c2 : Tryd.prog.cellsOf 74 = 2 := by kernel_rfl
  rw [c2] at hl
  dsimp only at h0 h1
  rw [c9] at h0 h1
  obtain ⟨s0, e0, rfl, _⟩ := DataW.trod_string Tryd.underlying9 h0
  obtain ⟨s1, e1, rfl, _⟩ := DataW.trod_string Tryd.underlying9 h1
  dsimp only at hx
  injection hx with hx
  injection hx with k0 hx
  injection hx with k1 hx
  injection k0 with k0
  injection k0 with k0
  injection k1 with k1
  injection k1 with k1
  match cs, hl with
  | [v0, v1], _ =>
    simp at e0 e1
    rw [e0, e1, bytes_eq k0, bytes_eq k1]
theorem kn_of {W : World} {cs : Array Value} {fuel : Nat} {p : List MemPlace} (hv : W.var? Tryd.prog "garderobe/lines.kinds" = some cs)
    (hd : DataW.trod (fun _ => ()) Tryd.prog W 0 (fun _ => true) false fuel 75 cs.toList = some (Rows.laid_garderobe_lines_kinds, p)) : Kn W := by
  have c2 : Tryd.prog.cellsOf 74 = 2 := by kernel_rfl
  have c40 : Tryd.prog.cellsOf 75 = 40 := by kernel_rfl
  obtain ⟨xs, m, _, ex, hlen, hl, hel⟩ := DataW.trod_array Tryd.underlying75 hd
  rw [c40] at hlen
  rw [c2] at hel
  have e3 := (DataW.agg.inj (Prod.mk.inj ex).1)
  have hxs : ∀ i a b, i < 20 → (xs.map (·.1))[i]? = some (.agg [.lit (.string a), .lit (.string b)]) → ((cs.toList.drop (i * 2)).take 2) = [.string ⟨⟨a⟩⟩, .string ⟨⟨b⟩⟩] := fun i a b hi he => by
    rw [List.getElem?_map] at he
    have hi2 : i < xs.length := by omega
    rw [List.getElem?_eq_getElem hi2] at he
    have h1 := hel i hi
    rw [List.getElem?_eq_getElem hi2] at h1
    exact pair_of h1 (Option.some.inj he)
  rw [← e3] at hxs
  have key : cs.toList = knV.toList := by
    refine two_ext 20 hlen (by kernel_rfl) (fun i hi => ?_)
    match i, hi with
    | 0, _ => exact (hxs 0 _ _ (by omega) rfl).trans (by first | rfl | kernel_rfl)
    | 1, _ => exact (hxs 1 _ _ (by omega) rfl).trans (by first | rfl | kernel_rfl)
    | 2, _ => exact (hxs 2 _ _ (by omega) rfl).trans (by first | rfl | kernel_rfl)
    | 3, _ => exact (hxs 3 _ _ (by omega) rfl).trans (by first | rfl | kernel_rfl)
    | 4, _ => exact (hxs 4 _ _ (by omega) rfl).trans (by first | rfl | kernel_rfl)
    | 5, _ => exact (hxs 5 _ _ (by omega) rfl).trans (by first | rfl | kernel_rfl)
    | 6, _ => exact (hxs 6 _ _ (by omega) rfl).trans (by first | rfl | kernel_rfl)
    | 7, _ => exact (hxs 7 _ _ (by omega) rfl).trans (by first | rfl | kernel_rfl)
    | 8, _ => exact (hxs 8 _ _ (by omega) rfl).trans (by first | rfl | kernel_rfl)
    | 9, _ => exact (hxs 9 _ _ (by omega) rfl).trans (by first | rfl | kernel_rfl)
    | 10, _ => exact (hxs 10 _ _ (by omega) rfl).trans (by first | rfl | kernel_rfl)
    | 11, _ => exact (hxs 11 _ _ (by omega) rfl).trans (by first | rfl | kernel_rfl)
    | 12, _ => exact (hxs 12 _ _ (by omega) rfl).trans (by first | rfl | kernel_rfl)
    | 13, _ => exact (hxs 13 _ _ (by omega) rfl).trans (by first | rfl | kernel_rfl)
    | 14, _ => exact (hxs 14 _ _ (by omega) rfl).trans (by first | rfl | kernel_rfl)
    | 15, _ => exact (hxs 15 _ _ (by omega) rfl).trans (by first | rfl | kernel_rfl)
    | 16, _ => exact (hxs 16 _ _ (by omega) rfl).trans (by first | rfl | kernel_rfl)
    | 17, _ => exact (hxs 17 _ _ (by omega) rfl).trans (by first | rfl | kernel_rfl)
    | 18, _ => exact (hxs 18 _ _ (by omega) rfl).trans (by first | rfl | kernel_rfl)
    | 19, _ => exact (hxs 19 _ _ (by omega) rfl).trans (by first | rfl | kernel_rfl)
    | i + 20, h => exact absurd h (by omega)
  have hg : Tryd.prog.globalNamed "garderobe/lines.kinds" = some 0 := by kernel_rfl
  simp only [World.var?, hg, Option.bind_some] at hv
  split at hv
  · rename_i cs' t m hb
    injection hv with hv
    subst hv
    exact ⟨t, m, by rw [hb, ← Array.ext' key]⟩
  · cases hv
theorem kinds_isL {W : World} (h : laidMetH Tryd.prog laidL W) : Kn W := by
  rw [MakeChecks.laidMetH_plain _ _ _ (by kernel_rfl)] at h
  obtain ⟨ps, ⟨_, _, _, _, _, _, _, _, _, _, ⟨g, t, cs, fuel, p, q, hg, ht, hv, hd, _, _⟩, _⟩, _, _⟩ := h
  obtain rfl := Option.some.inj ((show Tryd.prog.globalNamed "garderobe/lines.kinds" = some 0 by kernel_rfl).symm.trans hg)
  obtain rfl := Option.some.inj ((show (Tryd.prog.globals[0]?).map (·.type) = some 75 by kernel_rfl).symm.trans ht)
  exact kn_of hv hd
end Go.Proofs.YtcaogiaoabdkdaaDoor
