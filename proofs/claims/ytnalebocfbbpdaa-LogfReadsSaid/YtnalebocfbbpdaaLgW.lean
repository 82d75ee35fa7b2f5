/-
  Package logf: blocks that are not as long as they ought to be; May of any log.
-/
import Derived.Test.YtnalebocfbbpdaaLgV
namespace Go.Proofs.Ytnalebocfbbpdaa
open Go.RowKit Go
set_option linter.unusedVariables false
set_option linter.unusedSimpArgs false
set_option maxRecDepth 100000
set_option maxHeartbeats 1000000 in
theorem bindex_no (b c : Nat) (Ls : List (List Nat)) (w : World) (h : Blk w b Ls) (hc : Ls.length ≤ 1000) (ha : ∀ i, i < Ls.length → (Ls.getD i []).length = 256) :
    Calls Try.prog 40 #[.slice (some ⟨b, 0, none⟩) Ls.length c, .func (Fn.func 29) #[] #[]] w fun e w' => e = .returned (.int .i64 (-1)) ∧ w = w' := by
  have HK := Lib.hid h
  have HA := Lib.hid ha
  clear h ha
  go_enter Try.func40, Try.ntmps40
  go_wp2
  go_loop [8] (fun i => ∃ k : Nat, i = .int .i64 (k : Int) ∧ k ≤ Ls.length) (fun i => (Ls.length - intOf i).toNat)
  case atStart => exact ⟨0, rfl, by omega⟩
  case round =>
    obtain ⟨k, rfl, hk⟩ := hrel
    by_cases hlt : k < Ls.length
    · obtain ⟨A, c1, k1, k2⟩ := HK.out.2 k hlt
      rw [HA.out k hlt] at k1
      clear k2
      go_wp2_with fail
      refine (lodd_no A c1 _).mono ?_
      rintro e w' ⟨rfl, rfl⟩
      go_wp2
      go_round
      case rel => exact ⟨k + 1, rfl, by omega⟩
      case measure => simp [intOf]; omega
    · obtain rfl : k = Ls.length := by omega
      go_wp2
      go_ret
      exact ⟨rfl, rfl⟩
def SomeIdxB (w : World) (e : Ending) (w' : World) : Prop := ∃ k : Nat, e = .returned (.int .i64 (k : Int)) ∧ k < 1000 ∧ w = w'
set_option maxHeartbeats 1000000 in
theorem bindex_yes (b c i0 : Nat) (Ls : List (List Nat)) (w : World) (h : Blk w b Ls) (hc : Ls.length ≤ 1000) (hi : i0 < Ls.length) (ho : (Ls.getD i0 []).length ≠ 256) :
    Calls Try.prog 40 #[.slice (some ⟨b, 0, none⟩) Ls.length c, .func (Fn.func 29) #[] #[]] w (SomeIdxB w) := by
  have HK := Lib.hid h
  have HO := Lib.hid ho
  clear h ho
  go_enter Try.func40, Try.ntmps40
  go_wp2
  go_loop [8] (fun i => ∃ k : Nat, i = .int .i64 (k : Int) ∧ k ≤ i0) (fun i => (Ls.length - intOf i).toNat)
  case atStart => exact ⟨0, rfl, by omega⟩
  case round =>
    obtain ⟨k, rfl, hk⟩ := hrel
    have hlt : k < Ls.length := by omega
    obtain ⟨A, c1, k1, k2⟩ := HK.out.2 k hlt
    by_cases hl : (Ls.getD k []).length = 256
    · have hne : k ≠ i0 := fun e => HO.out (e ▸ hl)
      rw [hl] at k1
      clear k2 hl
      go_wp2_with fail
      refine (lodd_no A c1 _).mono ?_
      rintro e w' ⟨rfl, rfl⟩
      go_wp2
      go_round
      case rel => exact ⟨k + 1, rfl, by omega⟩
      case measure => simp [intOf]; omega
    · have HL := Lib.hid hl
      generalize (Ls.getD k []).length = n at *
      have HF : Hid (SomeIdxB w (.returned (.int .i64 (k : Int))) w) := Lib.hid ⟨k, rfl, by omega, rfl⟩
      clear k2 hl
      go_wp2_with fail
      refine (lodd_yes A n c1 HL.out _).mono ?_
      rintro e w' ⟨rfl, rfl⟩
      go_wp2
      go_ret
      exact HF.out
theorem bcontains_no (b c : Nat) (Ls : List (List Nat)) (w : World) (h : Blk w b Ls) (hc : Ls.length ≤ 1000) (ha : ∀ i, i < Ls.length → (Ls.getD i []).length = 256) :
    Calls Try.prog 28 #[.slice (some ⟨b, 0, none⟩) Ls.length c, .func (Fn.func 29) #[] #[]] w fun e w' => e = .returned (.bool false) ∧ w = w' := by
  have HI := Lib.hid (bindex_no b c Ls w h hc ha)
  clear h ha
  go_enter Try.func28, Try.ntmps28
  go_wp2_with fail
  refine HI.out.mono ?_
  rintro e w' ⟨rfl, rfl⟩
  go_wp2
  go_ret
  exact ⟨rfl, rfl⟩
theorem bcontains_yes (b c i0 : Nat) (Ls : List (List Nat)) (w : World) (h : Blk w b Ls) (hc : Ls.length ≤ 1000) (hi : i0 < Ls.length) (ho : (Ls.getD i0 []).length ≠ 256) :
    Calls Try.prog 28 #[.slice (some ⟨b, 0, none⟩) Ls.length c, .func (Fn.func 29) #[] #[]] w fun e w' => e = .returned (.bool true) ∧ w = w' := by
  have HI := Lib.hid (bindex_yes b c i0 Ls w h hc hi ho)
  clear h ho
  go_enter Try.func28, Try.ntmps28
  go_wp2_with fail
  refine HI.out.mono ?_
  rintro e w' ⟨k, rfl, hk, rfl⟩
  go_wp2
  go_ret
  exact ⟨by first | rfl | exact ret_bool (decide_eq_true (by omega)), rfl⟩
theorem lmay_any (p t : Int) (cnt n c : Nat) (A : Option Addr) (es : List (Int × List Nat)) (hn : n ≤ 1000) (w : World) (hE : EsV w A n es) :
    Calls Try.prog 8 #[.agg #[.int .i64 p, .int .i64 t], .agg #[.int .u64 (cnt : Int), .slice A n c]] w (MayTo w (MayG p t es)) := by
  by_cases hm : MayG p t es
  · have hg := hm.1
    have hml := hm.2
    obtain ⟨p', rfl⟩ : ∃ q : Nat, p = q := ⟨p.toNat, by unfold Geo.May at hg; omega⟩
    obtain ⟨t', rfl⟩ : ∃ q : Nat, t = q := ⟨t.toNat, by unfold Geo.May at hg; omega⟩
    have hml2 : MayL t' (Geo.se p') es := by simpa using hml
    have hl := hE.1
    subst hl
    obtain ⟨b, o, rfl, hEB⟩ := hE.2 hml2.1
    refine (lmay_yes p' t' cnt b o c es hg hml2 w hEB).mono ?_
    rintro e w' ⟨rfl, hb⟩
    exact MayTo.yes hm hb
  · refine (lmay_no p t cnt n c A es hm hn w hE).mono ?_
    rintro e w' ⟨rfl, hb⟩
    exact MayTo.no hm hb
end Go.Proofs.Ytnalebocfbbpdaa
