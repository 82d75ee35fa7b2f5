/-
  GeomPlaces, any geometry; the kinds' variable as the row lays it.
-/
import Derived.Test.YtokekhiibbhamaaDoorGeoJ
import Derived.Test.YtokekhiibbhamaaDoorRows
import Derived.ProofKit
import Derived.OpenShut
import Derived.LaidMore
import Derived.LaidOnce
import Derived.Lay
namespace Go.Proofs.YtokekhiibbhamaaDoor
open Go.RowKit Go.Shelf Go Go.ChangeShapes Go.WideShapes Go.ChangeAt
set_option linter.unusedVariables false
theorem geomPlaces_any (p t k : Int) (w : World) (hK : KindsIs w) :
    Calls Tryd.prog 3 #[.agg #[.int .i64 p, .int .i64 t], .int .i64 k] w fun e w' => e = .returned (.bool true) ∧ Below w.heap.size w w' := by
  have HBY : ∃ bb, Gives1 12 #[.int .i64 k] (.int .i64 bb) ∧ bb = if 0 ≤ k ∧ k < 65536 then 256 * k else 0 := by
    by_cases h : 0 ≤ k ∧ k < 65536
    · exact ⟨256 * k, fun W => calls_low (bytes_in k h W), by rw [if_pos h]⟩
    · exact ⟨0, fun W => calls_low (bytes_out k (by omega) W), by rw [if_neg h]⟩
  obtain ⟨bb, HB1, HB2⟩ := HBY
  by_cases h : Geo.May p t
  · have h' := h
    obtain ⟨h1, h2, h3, h4⟩ := h
    obtain ⟨p, rfl⟩ : ∃ n : Nat, p = (n : Int) := ⟨p.toNat, by omega⟩
    obtain ⟨t, rfl⟩ : ∃ n : Nat, t = (n : Int) := ⟨t.toNat, by omega⟩
    have hp : p ≤ 64 := by omega
    have ht : t ≤ 24 := by omega
    have hgo := geo_yes p t hp ht h'
    have hm : Geo.mp p ≤ 5 := by unfold Geo.mp; omega
    refine places_core p t k (Geo.mp p) (Geo.at0 (Geo.all p t) 2 k) (Geo.at0 (Geo.all p t) 3 k) (Geo.at0 (Geo.all p t) 4 k) (pageOf p k) bb true ⟨by omega, by omega⟩ (fun _ => by omega)
      (fun W => rmay_yes _ _ h' W) (fun _ W => rmaps p _ hp W) (fun W hW => ?_) (fun W hW => ?_) (fun W hW => ?_)
      (fun W => rat_yes p t 2 k hp ht h' W) (fun W => rat_yes p t 3 k hp ht h' W) (fun W => rat_yes p t 4 k hp ht h' W)
      (fun W => pageAt_yes p t k hp ht h' W) HB1 ?_ HB2 w hK
    · have := epochAt_any p t k _ _ _ _ hgo W hW
      rw [Geo.lst_all] at this; exact this
    · have := sealedAt_any p t k _ _ _ _ hgo W hW
      rw [Geo.lst_all] at this; exact this
    · have := logAt_any p t k _ _ _ _ hgo W hW
      rw [Geo.lst_all] at this; exact this
    · unfold pageOf
      by_cases hk : 0 ≤ k ∧ k < (p : Int)
      · rw [if_pos hk, if_pos ⟨rfl, hk⟩]
      · rw [if_neg hk, if_neg (fun h => hk h.2)]
  · have hgo := geo_no p t h
    exact places_core p t k 0 (-1) (-1) (-1) (-1) bb false ⟨by omega, by omega⟩ (fun h => by cases h)
      (fun W => rmay_no _ _ h W) (fun h => by cases h) (fun W hW => epochAt_any p t k _ _ _ _ hgo W hW) (fun W hW => sealedAt_any p t k _ _ _ _ hgo W hW) (fun W hW => logAt_any p t k _ _ _ _ hgo W hW)
      (fun W => rat_no p t 2 k h W) (fun W => rat_no p t 3 k h W) (fun W => rat_no p t 4 k h W)
      (fun W => pageAt_no p t k h W) HB1 (by rw [if_neg (fun h => by cases h.1)]) HB2 w hK
/-! the variable -/
def laidK : List (String × DataW Unit) := [("garderobe/geom.kinds", Rows.laid_garderobe_geom_kinds)]
theorem kinds_var {W : World} (h : laidMetH Tryd.prog laidK W) : W.var? Tryd.prog "garderobe/geom.kinds" = some #[.int .i64 1, .int .i64 2, .int .i64 3, .int .i64 4] := by
  rw [MakeChecks.laidMetH_plain _ _ _ (by kernel_rfl)] at h
  obtain ⟨ps, ⟨g, t, cs, fuel, p, q, hg, ht, hv, hd, _, _⟩, _, _⟩ := h
  obtain rfl := Option.some.inj ((show Tryd.prog.globalNamed "garderobe/geom.kinds" = some 0 by kernel_rfl).symm.trans hg)
  obtain rfl := Option.some.inj ((show (Tryd.prog.globals[0]?).map (·.type) = some 50 by kernel_rfl).symm.trans ht)
  have c5 : Tryd.prog.cellsOf 3 = 1 := by kernel_rfl
  have c29 : Tryd.prog.cellsOf 50 = 4 := by kernel_rfl
  obtain ⟨xs, m, _, ex, hlen, hl, hel⟩ := DataW.trod_array Tryd.underlying50 hd
  rw [c29] at hlen
  obtain ⟨l⟩ := cs
  match l, hlen with
  | [a, b, c, d], _ =>
    match xs, hl with
    | [x0, x1, x2, x3], _ =>
      have e3 := (DataW.agg.inj (Prod.mk.inj ex).1)
      simp only [List.map_cons, List.map_nil, List.cons.injEq, and_true] at e3
      have k0 := hel 0 (by omega); have k1 := hel 1 (by omega); have k2 := hel 2 (by omega); have k3 := hel 3 (by omega)
      rw [c5] at k0 k1 k2 k3
      obtain ⟨z0, a0, b0, _⟩ := DataW.trod_int Tryd.underlying3 k0
      obtain ⟨z1, a1, b1, _⟩ := DataW.trod_int Tryd.underlying3 k1
      obtain ⟨z2, a2, b2, _⟩ := DataW.trod_int Tryd.underlying3 k2
      obtain ⟨z3, a3, b3, _⟩ := DataW.trod_int Tryd.underlying3 k3
      rw [hv]
      simp_all
theorem kinds_is {W : World} (h : laidMetH Tryd.prog laidK W) : KindsIs W := by
  have hv := kinds_var h
  have hg : Tryd.prog.globalNamed "garderobe/geom.kinds" = some 0 := by kernel_rfl
  simp only [World.var?, hg, Option.bind_some] at hv
  split at hv
  · rename_i cs t m hb
    injection hv with hv
    exact ⟨cs, t, m, hb, by rw [hv]; rfl, by rw [hv]; rfl, by rw [hv]; rfl, by rw [hv]; rfl⟩
  · cases hv
end Go.Proofs.YtokekhiibbhamaaDoor
