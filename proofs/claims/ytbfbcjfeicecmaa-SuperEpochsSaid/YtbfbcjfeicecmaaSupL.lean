/-
  Package super: what Epochs answers.
-/
import Derived.Test.YtbfbcjfeicecmaaSupK
import Derived.Deep.RegionWith
namespace Go.Proofs.Ytbfbcjfeicecmaa
open Go.RowKit Go
set_option linter.unusedVariables false
set_option linter.unusedSimpArgs false
def NoEps (w : World) (e : Ending) (w' : World) : Prop := e = .returned (.tuple #[.slice none 0 0, .int .i64 1]) ∧ Below w.heap.size w w'
set_option maxHeartbeats 1000000 in
theorem epochs_geo (p t : Int) (v : Value) (h : ¬ Geo.May p t) (w : World) : Calls Try.prog 17 #[.agg #[.int .i64 p, .int .i64 t], v] w (NoEps w) := by
  have hb : Below w.heap.size w (w.alloc (.cells #[.int .i64 p, .int .i64 t] 23)) := (Below.refl _ _).alloc (Nat.le_refl _) _
  have ht := Two.new w 23 p t
  have HB := Lib.hid hb
  have HT := Lib.hid ht
  have HM := Lib.hid h
  have HI : Hid ((Try.prog.info? 23).map (·.size) = some (#[Value.int .i64 p, Value.int .i64 t] : Array Value).size) := Lib.hid (info_geo2 p t)
  clear hb ht h
  go_enter Try.func17, Try.ntmps17
  go_wp2_with fail
  generalize w.alloc (.cells #[.int .i64 p, .int .i64 t] 23) = W0 at *
  refine (check_no p t HM.out _).mono ?_
  rintro e w1 ⟨rfl, hb1⟩
  have HB1 := Lib.hid (HB.out.trans (hb1.mono HB.out.size))
  clear hb1
  go_wp2
  exact bodyPost_ret (v := .tuple #[.slice none 0 0, .int .i64 1]) (by simp [results, Try.results17, go_sem]) rfl ⟨rfl, HB1.out⟩
set_option maxHeartbeats 1000000 in
theorem epochs_few (p t : Nat) (A : Option Addr) (n c : Nat) (h : Geo.May p t) (hn : n ≠ Geo.ep p) (hn9 : n ≤ 1000) (w : World) : Calls Try.prog 17 #[.agg #[.int .i64 (p : Int), .int .i64 (t : Int)], .slice A n c] w (NoEps w) := by
  have hp : p ≤ 64 := by unfold Geo.May at h; omega
  have ht24 : t ≤ 24 := by unfold Geo.May at h; omega
  have hb : Below w.heap.size w (w.alloc (.cells #[.int .i64 (p : Int), .int .i64 (t : Int)] 23)) := (Below.refl _ _).alloc (Nat.le_refl _) _
  have ht := Two.new w 23 (p : Int) (t : Int)
  have HB := Lib.hid hb
  have HT := Lib.hid ht
  have HM := Lib.hid h
  have HI : Hid ((Try.prog.info? 23).map (·.size) = some (#[Value.int .i64 (p : Int), Value.int .i64 (t : Int)] : Array Value).size) := Lib.hid (info_geo2 p t)
  have HE := Lib.hid (fun W => geo_Epochs_yes p t hp ht24 h W)
  have hne : ((n : Int) != ((Geo.ep p : Nat) : Int)) = true := by rw [bne_iff_ne]; omega
  generalize Geo.ep p = ee at *
  clear hb ht h hn
  go_enter Try.func17, Try.ntmps17
  go_wp2_with fail
  generalize w.alloc (.cells #[.int .i64 (p : Int), .int .i64 (t : Int)] 23) = W0 at *
  refine (check_yes p t HM.out _).mono ?_
  rintro e w1 ⟨rfl, hb1⟩
  have HB1 := Lib.hid (HB.out.trans (hb1.mono HB.out.size))
  have HT1 := Lib.hid (HT.out.after hb1)
  have c0 := HT1.out.fst
  have c1 := HT1.out.snd
  clear hb1
  go_wp2_with fail
  refine (HE.out _).mono ?_
  rintro e w2 ⟨rfl, hb2⟩
  have HB2 := Lib.hid (HB1.out.trans (hb2.mono HB1.out.size))
  clear hb2 c0 c1
  go_wp2
  exact bodyPost_ret (v := .tuple #[.slice none 0 0, .int .i64 1]) (by simp [results, Try.results17, go_sem]) rfl ⟨rfl, HB2.out⟩
set_option maxHeartbeats 1000000 in
theorem epochs_odd (p t : Nat) (b o c i0 : Nat) (Ls : List (List Nat)) (h : Geo.May p t) (hn : Ls.length = Geo.ep p) (w : World) (hk : Bks w b o Ls) (hi : i0 < Ls.length) (ho : (Ls.getD i0 []).length ≠ 256) :
    Calls Try.prog 17 #[.agg #[.int .i64 (p : Int), .int .i64 (t : Int)], .slice (some ⟨b, o, none⟩) Ls.length c] w (NoEps w) := by
  have hp : p ≤ 64 := by unfold Geo.May at h; omega
  have ht24 : t ≤ 24 := by unfold Geo.May at h; omega
  have hl3 : Ls.length ≤ 3 := by rw [hn]; unfold Geo.ep Geo.se Geo.mp; omega
  have hb : Below w.heap.size w (w.alloc (.cells #[.int .i64 (p : Int), .int .i64 (t : Int)] 23)) := (Below.refl _ _).alloc (Nat.le_refl _) _
  have ht := Two.new w 23 (p : Int) (t : Int)
  have HB := Lib.hid hb
  have HT := Lib.hid ht
  have HM := Lib.hid h
  have HK := Lib.hid hk
  have HI : Hid ((Try.prog.info? 23).map (·.size) = some (#[Value.int .i64 (p : Int), Value.int .i64 (t : Int)] : Array Value).size) := Lib.hid (info_geo2 p t)
  have HE := Lib.hid (fun W => geo_Epochs_yes p t hp ht24 h W)
  have HC := Lib.hid (fun W hW => contains_yes b o c i0 Ls W hW (by omega) hi ho)
  have hne : (((Ls.length : Nat) : Int) != ((Geo.ep p : Nat) : Int)) = false := by rw [hn]; simp
  generalize Geo.ep p = ee at *
  generalize Ls.length = n at *
  clear hb ht h hn hk hi ho
  go_enter Try.func17, Try.ntmps17
  go_wp2_with fail
  generalize w.alloc (.cells #[.int .i64 (p : Int), .int .i64 (t : Int)] 23) = W0 at *
  refine (check_yes p t HM.out _).mono ?_
  rintro e w1 ⟨rfl, hb1⟩
  have HB1 := Lib.hid (HB.out.trans (hb1.mono HB.out.size))
  have HT1 := Lib.hid (HT.out.after hb1)
  have c0 := HT1.out.fst
  have c1 := HT1.out.snd
  clear hb1
  go_wp2_with fail
  refine (HE.out _).mono ?_
  rintro e w2 ⟨rfl, hb2⟩
  have HB2 := Lib.hid (HB1.out.trans (hb2.mono HB1.out.size))
  clear hb2 c0 c1
  go_wp2_with fail
  refine (HC.out _ (HK.out.below HB2.out)).mono ?_
  rintro e w3 ⟨rfl, rfl⟩
  go_wp2
  exact bodyPost_ret (v := .tuple #[.slice none 0 0, .int .i64 1]) (by simp [results, Try.results17, go_sem]) rfl ⟨rfl, HB2.out⟩
def EpsTo (w : World) (se : Nat) (FL : List Nat) (e : Ending) (w' : World) : Prop :=
  ∃ g, e = .returned (.tuple #[.slice (some ⟨g, 0, none⟩) se se, .int .i64 0]) ∧ Below w.heap.size w w' ∧ Row w' g 41 (fun i => u64v (numAt FL 8 i)) se
theorem numsPost_row {w' : World} {g : Nat} {t : TypeId} {f : Nat → Value} {n : Nat} (h : Row w' g t f n) : ∃ X, g = X ∧ Row w' X t f n := ⟨g, rfl, h⟩
set_option maxRecDepth 100000 in
set_option maxHeartbeats 4000000 in
theorem epochs_yes (p t : Nat) (b o c : Nat) (Ls : List (List Nat)) (h : Geo.May p t) (hn : Ls.length = Geo.ep p) (hcc : Ls.length ≤ c) (w : World) (hk : Bks w b o Ls) (ha : All256 Ls) :
    Calls Try.prog 17 #[.agg #[.int .i64 (p : Int), .int .i64 (t : Int)], .slice (some ⟨b, o, none⟩) Ls.length c] w (EpsTo w (Geo.se p) Ls.flatten) := by
  have hp : p ≤ 64 := by unfold Geo.May at h; omega
  have ht24 : t ≤ 24 := by unfold Geo.May at h; omega
  have hl3 : Ls.length ≤ 3 := by rw [hn]; unfold Geo.ep Geo.se Geo.mp; omega
  have hl1 : 1 ≤ Ls.length := by rw [hn]; unfold Geo.ep Geo.se Geo.mp; omega
  have hse : Geo.se p ≤ 69 := by unfold Geo.se Geo.mp; omega
  have hfl := flat_len ha
  have hfit : 8 * Geo.se p ≤ Ls.flatten.length := by rw [hfl, hn]; unfold Geo.ep; omega
  have hf9 : Ls.flatten.length ≤ 1000 := by omega
  have hb : Below w.heap.size w (w.alloc (.cells #[.int .i64 (p : Int), .int .i64 (t : Int)] 23)) := (Below.refl _ _).alloc (Nat.le_refl _) _
  have ht := Two.new w 23 (p : Int) (t : Int)
  have HB := Lib.hid hb
  have HT := Lib.hid ht
  have HM := Lib.hid h
  have HK := Lib.hid hk
  have HI : Hid ((Try.prog.info? 23).map (·.size) = some (#[Value.int .i64 (p : Int), Value.int .i64 (t : Int)] : Array Value).size) := Lib.hid (info_geo2 p t)
  have HE := Lib.hid (fun W => geo_Epochs_yes p t hp ht24 h W)
  have HSE := Lib.hid (fun W => geo_Sealed_yes p t hp ht24 h W)
  have HC := Lib.hid (fun W hW => contains_no b o c Ls W hW (by omega) ha)
  have HJ := Lib.hid (fun W hW => join_any b o c Ls W hW hl1 hl3 hcc ha)
  have hne : (((Ls.length : Nat) : Int) != ((Geo.ep p : Nat) : Int)) = false := by rw [hn]; simp
  have HFIT := Lib.hid hfit
  generalize Geo.ep p = ee at *
  generalize Geo.se p = se at *
  generalize Ls.flatten = FL at *
  generalize Ls.length = n at *
  have HNU : Hid (∀ W g, RowSt W g 103 FL 0 → Calls Try.prog 45 #[.func (Fn.func 48) #[.pointer (some ⟨g, 0, none⟩)] #[], .int .i64 8, .int .i64 (se : Int)] W (NumsPost W g 8 se FL)) := Lib.hid (fun W g hW => numbers_any g 8 se FL (by omega) (by omega) (by omega) HFIT.out W hW)
  have HOF := Lib.hid (fun W A c hW => of_any A FL.length c FL W hW hf9)
  clear hb ht h hn hk ha hfl hfit
  go_enter Try.func17, Try.ntmps17
  go_wp2_with fail
  generalize w.alloc (.cells #[.int .i64 (p : Int), .int .i64 (t : Int)] 23) = W0 at *
  refine (check_yes p t HM.out _).mono ?_
  rintro e w1 ⟨rfl, hb1⟩
  have HB1 := Lib.hid (HB.out.trans (hb1.mono HB.out.size))
  have HT1 := Lib.hid (HT.out.after hb1)
  have c0 := HT1.out.fst
  have c1 := HT1.out.snd
  clear hb1
  go_wp2_with fail
  refine (HE.out _).mono ?_
  rintro e w2 ⟨rfl, hb2⟩
  have HB2 := Lib.hid (HB1.out.trans (hb2.mono HB1.out.size))
  have HT2 := Lib.hid (HT1.out.after hb2)
  clear hb2 c0 c1
  go_wp2_with fail
  refine (HC.out _ (HK.out.below HB2.out)).mono ?_
  rintro e w3 ⟨rfl, rfl⟩
  go_wp2_with fail
  have hA : After w2 w2.drew := After.drew w2
  have HKW := Lib.hid (HK.out.below HB2.out)
  have c0 := HT2.out.fst
  have c1 := HT2.out.snd
  have hd : Two w2.drew w.heap.size 23 (p : Int) (t : Int) := HT2.out
  go_region_with (first
    | (go_at_call 47; have hKj := HKW.out.below hA; (with_reducible refine (HJ.out _ hKj).mono ?_); rintro e w5 ⟨A5, c5, rfl, hb5, hxj⟩; have hA := hA.next hb5; have d0 := (HT2.out.after hA).fst; have d1 := (HT2.out.after hA).snd)
    | (go_at_call 46; (with_reducible refine (HOF.out _ _ _ hxj).mono ?_); rintro e w6 ⟨g, rfl, hg, hb6, hst⟩; have hgw := Nat.le_trans (Below.size hA) hg; have hA := hA.next hb6; have d0 := (HT2.out.after hA).fst; have d1 := (HT2.out.after hA).snd)
    | (go_at_call 42; (with_reducible refine (HSE.out _).mono ?_); rintro e w7 ⟨rfl, hb7⟩; have hA := hA.next hb7; (try have hxj := (hxj.below hb7).more hb7.size); (try have hst := hst.below hb7))
    | (go_at_call 45; (with_reducible refine (HNU.out _ _ hst).mono ?_); rintro e w8 ⟨rfl, hb8, hr8⟩))
  all_goals
    have HBX := Lib.hid (HB2.out.trans (Below.mono hA HB2.out.size))
    have HB8 := Lib.hid (below_only HBX.out (Nat.le_trans HB2.out.size hgw) HBX.out.size hb8)
    have hr9 := numsPost_row hr8
    obtain ⟨X, hX, hr9⟩ := hr9
    have HF : Hid (EpsTo w se FL (.returned (.tuple #[.slice (some ⟨X, 0, none⟩) se se, .int .i64 0])) w8) := Lib.hid ⟨X, rfl, HB8.out, hr9⟩
    rw [hX]
    clear hr8 hr9 hb8 hA hX c0 c1 hd hKj hst
    (try clear d0 d1)
    clear hxj
    go_wp2
    exact bodyPost_ret (v := .tuple #[.slice (some ⟨X, 0, none⟩) se se, .int .i64 0]) (by simp [results, Try.results17, go_sem]) rfl HF.out
end Go.Proofs.Ytbfbcjfeicecmaa
