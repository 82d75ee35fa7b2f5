/-
  EpochAt, SealedAt, LogAt, PageAt.
-/
import Derived.Test.YtokekhiibbhamaaDoorGeoG
namespace Go.Proofs.YtokekhiibbhamaaDoor
open Go.RowKit Go.Shelf Go
set_option linter.unusedVariables false
set_option linter.unusedSimpArgs false
theorem epochAt_any (p t k : Int) (c1 c2 c3 c4 : Nat) (hgo : GeoOK p t c1 c2 c3 c4) (w : World) (hK : KindsIs w) :
    Calls Tryd.prog 7 #[.agg #[.int .i64 p, .int .i64 t], .int .i64 k] w fun e w' => e = .returned (.int .i64 (Geo.at0 (Geo.lst c1 c2 c3 c4) 2 k)) ∧ Below w.heap.size w w' := by
  have hb : Below w.heap.size w (w.alloc (.cells #[.int .i64 p, .int .i64 t] 23)) := (Below.refl _ _).alloc (Nat.le_refl _) _
  have HB := Lib.hid hb
  have HF := Lib.hid (fun W hW => find_any p t 2 k c1 c2 c3 c4 hgo W hW)
  have HK := Lib.hid hK
  clear hb hgo hK
  generalize Geo.at0 (Geo.lst c1 c2 c3 c4) 2 k = r at *
  go_enter Tryd.func7, Tryd.ntmps7
  go_wp2_with fail
  refine (HF.out _ (HK.out.ck (CK.below HB.out))).mono ?_
  rintro e w1 ⟨rfl, hb1⟩
  have HB1 := Lib.hid (HB.out.trans (hb1.mono HB.out.size))
  clear hb1
  go_wp2
  go_ret
  exact ⟨rfl, HB1.out⟩
theorem sealedAt_any (p t k : Int) (c1 c2 c3 c4 : Nat) (hgo : GeoOK p t c1 c2 c3 c4) (w : World) (hK : KindsIs w) :
    Calls Tryd.prog 9 #[.agg #[.int .i64 p, .int .i64 t], .int .i64 k] w fun e w' => e = .returned (.int .i64 (Geo.at0 (Geo.lst c1 c2 c3 c4) 3 k)) ∧ Below w.heap.size w w' := by
  have hb : Below w.heap.size w (w.alloc (.cells #[.int .i64 p, .int .i64 t] 23)) := (Below.refl _ _).alloc (Nat.le_refl _) _
  have HB := Lib.hid hb
  have HF := Lib.hid (fun W hW => find_any p t 3 k c1 c2 c3 c4 hgo W hW)
  have HK := Lib.hid hK
  clear hb hgo hK
  generalize Geo.at0 (Geo.lst c1 c2 c3 c4) 3 k = r at *
  go_enter Tryd.func9, Tryd.ntmps9
  go_wp2_with fail
  refine (HF.out _ (HK.out.ck (CK.below HB.out))).mono ?_
  rintro e w1 ⟨rfl, hb1⟩
  have HB1 := Lib.hid (HB.out.trans (hb1.mono HB.out.size))
  clear hb1
  go_wp2
  go_ret
  exact ⟨rfl, HB1.out⟩
theorem logAt_any (p t k : Int) (c1 c2 c3 c4 : Nat) (hgo : GeoOK p t c1 c2 c3 c4) (w : World) (hK : KindsIs w) :
    Calls Tryd.prog 10 #[.agg #[.int .i64 p, .int .i64 t], .int .i64 k] w fun e w' => e = .returned (.int .i64 (Geo.at0 (Geo.lst c1 c2 c3 c4) 4 k)) ∧ Below w.heap.size w w' := by
  have hb : Below w.heap.size w (w.alloc (.cells #[.int .i64 p, .int .i64 t] 23)) := (Below.refl _ _).alloc (Nat.le_refl _) _
  have HB := Lib.hid hb
  have HF := Lib.hid (fun W hW => find_any p t 4 k c1 c2 c3 c4 hgo W hW)
  have HK := Lib.hid hK
  clear hb hgo hK
  generalize Geo.at0 (Geo.lst c1 c2 c3 c4) 4 k = r at *
  go_enter Tryd.func10, Tryd.ntmps10
  go_wp2_with fail
  refine (HF.out _ (HK.out.ck (CK.below HB.out))).mono ?_
  rintro e w1 ⟨rfl, hb1⟩
  have HB1 := Lib.hid (HB.out.trans (hb1.mono HB.out.size))
  clear hb1
  go_wp2
  go_ret
  exact ⟨rfl, HB1.out⟩
theorem plan_pages (p t : Int) (w : World) : Calls Tryd.prog 18 #[.agg #[.int .i64 p, .int .i64 t]] w fun e w' => e = .returned (.int .i64 p) ∧ Below w.heap.size w w' := by
  have hb : Below w.heap.size w (w.alloc (.cells #[.int .i64 p, .int .i64 t] 41)) := (Below.refl _ _).alloc (Nat.le_refl _) _
  have HB := Lib.hid hb
  clear hb
  go_enter Tryd.func18, Tryd.ntmps18
  go_wp2
  go_ret
  exact ⟨rfl, HB.out⟩
/-- the sealed block of page k -/
def pageOf (p : Nat) (k : Int) : Int := if 0 ≤ k ∧ k < (p : Int) then 1 + (Geo.mp p : Int) + k else -1
theorem pageAt_yes (p t : Nat) (k : Int) (hp : p ≤ 64) (ht24 : t ≤ 24) (h : Geo.May p t) (w : World) :
    Calls Tryd.prog 11 #[.agg #[.int .i64 (p : Int), .int .i64 (t : Int)], .int .i64 k] w fun e w' => e = .returned (.int .i64 (pageOf p k)) ∧ Below w.heap.size w w' := by
  have hb : Below w.heap.size w (w.alloc (.cells #[.int .i64 (p : Int), .int .i64 (t : Int)] 23)) := (Below.refl _ _).alloc (Nat.le_refl _) _
  have ht := Two.new w 23 (p : Int) (t : Int)
  have HB := Lib.hid hb
  have HT := Lib.hid ht
  have HC : Hid (∀ W, Calls Tryd.prog 17 #[.agg #[.int .i64 (p : Int), .int .i64 (t : Int)], .func (Fn.func 18) #[] #[]] W fun e w' => e = .returned (.int .i64 (p : Int)) ∧ Below W.heap.size W w') :=
    Lib.hid (fun W => count_yes _ _ _ _ (enters_of Tryd.func18 (by kernel_rfl) rfl) (fun W => plan_pages _ _ W) h W)
  have HM := Lib.hid (fun W => geo_Maps_yes p t hp ht24 h W)
  have hm : Geo.mp p ≤ 5 := by unfold Geo.mp; omega
  clear hb ht h
  by_cases hk : 0 ≤ k
  · have hk0 : ¬ k < 0 := by omega
    by_cases hkp : k < (p : Int)
    · have hle : ¬ (p : Int) ≤ k := by omega
      have HR : Hid (pageOf p k = 1 + (Geo.mp p : Int) + k) := Lib.hid (by unfold pageOf; rw [if_pos ⟨hk, hkp⟩])
      generalize Geo.mp p = m at *
      have hw1 : IntKind.i64.wrap (1 + (m : Int)) = 1 + (m : Int) := IntWalk.i64_in _ (by omega)
      have hw2 : IntKind.i64.wrap (1 + (m : Int) + k) = 1 + (m : Int) + k := IntWalk.i64_in _ (by omega)
      go_enter Tryd.func11, Tryd.ntmps11
      go_wp2_with fail
      refine (HC.out _).mono ?_
      rintro e w1 ⟨rfl, hb1⟩
      have HB1 := Lib.hid (HB.out.trans (hb1.mono HB.out.size))
      have HT1 := Lib.hid (HT.out.ck (CK.below hb1))
      have c0 := HT1.out.fst
      have c1 := HT1.out.snd
      clear hb1
      go_wp2_with fail
      refine (HM.out _).mono ?_
      rintro e w2 ⟨rfl, hb2⟩
      have HB2 := Lib.hid (HB1.out.trans (hb2.mono HB1.out.size))
      clear hb2
      go_wp2
      go_ret
      exact ⟨by rw [HR.out]; rfl, HB2.out⟩
    · have hle : (p : Int) ≤ k := by omega
      have HR : Hid (pageOf p k = -1) := Lib.hid (by unfold pageOf; rw [if_neg (fun h => hkp h.2)])
      go_enter Tryd.func11, Tryd.ntmps11
      go_wp2_with fail
      refine (HC.out _).mono ?_
      rintro e w1 ⟨rfl, hb1⟩
      have HB1 := Lib.hid (HB.out.trans (hb1.mono HB.out.size))
      clear hb1
      go_wp2
      go_ret
      exact ⟨by rw [HR.out]; rfl, HB1.out⟩
  · have hk0 : k < 0 := by omega
    have HR : Hid (pageOf p k = -1) := Lib.hid (by unfold pageOf; rw [if_neg (fun h => hk h.1)])
    go_enter Tryd.func11, Tryd.ntmps11
    go_wp2
    go_ret
    exact ⟨by rw [HR.out]; rfl, HB.out⟩
theorem pageAt_no (p t k : Int) (h : ¬ Geo.May p t) (w : World) :
    Calls Tryd.prog 11 #[.agg #[.int .i64 p, .int .i64 t], .int .i64 k] w fun e w' => e = .returned (.int .i64 (-1)) ∧ Below w.heap.size w w' := by
  have hb : Below w.heap.size w (w.alloc (.cells #[.int .i64 p, .int .i64 t] 23)) := (Below.refl _ _).alloc (Nat.le_refl _) _
  have HB := Lib.hid hb
  have HC : Hid (∀ W, Calls Tryd.prog 17 #[.agg #[.int .i64 p, .int .i64 t], .func (Fn.func 18) #[] #[]] W fun e w' => e = .returned (.int .i64 0) ∧ Below W.heap.size W w') := Lib.hid (fun W => count_no _ _ _ h W)
  clear hb h
  by_cases hk : 0 ≤ k
  · have hk0 : ¬ k < 0 := by omega
    go_enter Tryd.func11, Tryd.ntmps11
    go_wp2_with fail
    refine (HC.out _).mono ?_
    rintro e w1 ⟨rfl, hb1⟩
    have HB1 := Lib.hid (HB.out.trans (hb1.mono HB.out.size))
    clear hb1
    go_wp2
    go_ret
    exact ⟨rfl, HB1.out⟩
  · have hk0 : k < 0 := by omega
    go_enter Tryd.func11, Tryd.ntmps11
    go_wp2
    go_ret
    exact ⟨rfl, HB.out⟩
end Go.Proofs.YtokekhiibbhamaaDoor
