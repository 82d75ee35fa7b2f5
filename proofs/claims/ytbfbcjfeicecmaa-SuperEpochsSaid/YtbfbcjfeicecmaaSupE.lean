/-
  Package super: what Parse answers.
-/
import Derived.Test.YtbfbcjfeicecmaaSupD
namespace Go.Proofs.Ytbfbcjfeicecmaa
open Go.RowKit Go
set_option linter.unusedVariables false
theorem odd_no (A : Option Addr) (c : Nat) (w : World) : Calls Try.prog 38 #[.slice A 256 c] w fun e w' => e = .returned (.bool false) ∧ w = w' := by
  go_enter Try.func38, Try.ntmps38
  go_wp2
  go_ret
  exact ⟨rfl, rfl⟩
theorem odd_yes (A : Option Addr) (n c : Nat) (hn : n ≠ 256) (w : World) : Calls Try.prog 38 #[.slice A n c] w fun e w' => e = .returned (.bool true) ∧ w = w' := by
  have hb : ((n : Int) != 256) = true := by rw [bne_iff_ne]; omega
  go_enter Try.func38, Try.ntmps38
  go_wp2
  go_ret
  exact ⟨by first | rfl | exact ret_bool (decide_eq_true (by omega)), rfl⟩
theorem sameB_iff {l l2 : List Nat} (h : ∀ i, l.getD i 0 < 256) (h2 : ∀ i, l2.getD i 0 < 256) : sameB l l2 = true ↔ l = l2 := by
  unfold sameB
  rw [beq_iff_eq]
  constructor
  · intro e
    refine str_inj h h2 ?_
    have hd : (str l).toList = (str l2).toList := e
    exact ByteArray.ext (Array.toList_inj.mp (by simpa [ByteArray.toList_eq] using hd))
  · rintro rfl; rfl
/-- the super whose super l is -/
def IsSup (l : List Nat) : Prop := Geo.May (pF l) (tF l) ∧ supL (pF l) (tF l) = l
theorem parse_short (A : Option Addr) (n c : Nat) (hn : n ≠ 256) (w : World) :
    Calls Try.prog 14 #[.slice A n c] w fun e w' => e = .returned (.tuple #[.agg #[.int .i64 0, .int .i64 0], .int .i64 4]) ∧ Below w.heap.size w w' := by
  have hb : Below w.heap.size w (w.alloc (.cells #[.int .i64 0, .int .i64 0] 23)) := (Below.refl _ _).alloc (Nat.le_refl _) _
  have ht2 := Two.new w 23 0 0
  have HB := Lib.hid hb
  have HT := Lib.hid ht2
  clear hb ht2
  go_enter Try.func14, Try.ntmps14
  go_wp2_with fail
  generalize w.alloc (.cells #[.int .i64 0, .int .i64 0] 23) = W0 at *
  refine (odd_yes A n c hn _).mono ?_
  rintro e w1 ⟨rfl, rfl⟩
  have c0 := HT.out.fst
  have c1 := HT.out.snd
  have f0 : W0.frozen? ⟨w.heap.size, 0, none⟩ = false := blk_free HT.out 0
  have f1 : W0.frozen? ⟨w.heap.size, 1, none⟩ = false := blk_free HT.out 1
  have ht5 := HT.out.set 0 0
  have HB5 := Lib.hid (below_set2 HB.out (Nat.le_refl _) (.int .i64 0) (.int .i64 0))
  have d0 := ht5.fst
  have d1 := ht5.snd
  clear ht5
  go_wp2
  exact bodyPost_ret (v := .tuple #[.agg #[.int .i64 0, .int .i64 0], .int .i64 4]) (by simp [results, Try.results14, go_sem, d0, d1]) rfl ⟨rfl, HB5.out⟩
theorem two_twice {w : World} {g : Nat} {t : TypeId} {x y : Int} (h : Two w g t 0 0) : (w.setCell ⟨g, 0, none⟩ (.int .i64 x)).cell? ⟨g, 1, none⟩ = some (.int .i64 0) := by
  rw [World.cell?_setCell_other w ⟨g, 0, none⟩ ⟨g, 1, none⟩ _ (by simp)]
  exact h.snd
def ParseTo (w : World) (p t : Int) (e9 : Int) (e : Ending) (w' : World) : Prop := e = .returned (.tuple #[.agg #[.int .i64 p, .int .i64 t], .int .i64 e9]) ∧ Below w.heap.size w w'
set_option maxRecDepth 100000 in
set_option maxHeartbeats 2000000 in
theorem parse_256 (A : Option Addr) (c : Nat) (l : List Nat) (w : World) (hs : BS w w.heap.size A 256 c l) :
    Calls Try.prog 14 #[.slice A 256 c] w fun e w' => (IsSup l → ParseTo w (pF l) (tF l) 0 e w') ∧ (¬ IsSup l → ParseTo w 0 0 4 e w') := by
  have hb : Below w.heap.size w (w.alloc (.cells #[.int .i64 0, .int .i64 0] 23)) := (Below.refl _ _).alloc (Nat.le_refl _) _
  have ht2 := Two.new w 23 0 0
  have hs0 := (hs.below hb).more (show w.heap.size ≤ (w.alloc (.cells #[.int .i64 0, .int .i64 0] 23)).heap.size from hb.size)
  have HB := Lib.hid hb
  have HT := Lib.hid ht2
  have HS := Lib.hid hs0
  have HBY := Lib.hid hs.byte
  have HI := Lib.hid fun x y => info_geo2 x y
  have hpf : pF l < 65536 := numAt_lt (drop_byte hs.byte 8) 2 1
  have htf : tF l < 65536 := numAt_lt (drop_byte hs.byte 8) 2 2
  have HG := Lib.hid (fun W h => geometry_any A c l W h)
  have HIS : Hid (IsSup l ↔ Geo.May (pF l) (tF l) ∧ supL (pF l) (tF l) = l) := Lib.hid Iff.rfl
  generalize IsSup l = IS at *
  generalize pF l = p at *
  generalize tF l = t at *
  clear hs hb ht2 hs0
  go_enter Try.func14, Try.ntmps14
  go_wp2_with fail
  generalize w.alloc (.cells #[.int .i64 0, .int .i64 0] 23) = W0 at *
  refine (odd_no A c _).mono ?_
  rintro e w1 ⟨rfl, rfl⟩
  go_wp2_with fail
  refine (HG.out _ HS.out).mono ?_
  rintro e w2 ⟨rfl, hb2⟩
  have HT2 := Lib.hid (HT.out.after hb2)
  have HB2 := Lib.hid (HB.out.trans (hb2.mono HB.out.size))
  have HS2 := Lib.hid ((HS.out.below hb2).more hb2.size)
  have ha := Two.new w2 23 (p : Int) (t : Int)
  have hba : Below w.heap.size w (w2.alloc (.cells #[.int .i64 (p : Int), .int .i64 (t : Int)] 23)) := HB2.out.alloc HB2.out.size _
  have hta : After w2 (w2.alloc (.cells #[.int .i64 (p : Int), .int .i64 (t : Int)] 23)) := (Below.refl _ _).alloc (Nat.le_refl _) _
  have HA := Lib.hid ha
  have HBA := Lib.hid hba
  have HTA := Lib.hid (HT2.out.after hta)
  have HSA := Lib.hid ((HS2.out.below hta).more hta.size)
  have hlt9 : w.heap.size < w2.heap.size := HT2.out.lt
  clear ha hba hta hb2
  go_wp2_with fail
  generalize w2.alloc (.cells #[.int .i64 (p : Int), .int .i64 (t : Int)] 23) = W3 at *
  by_cases hm : Geo.May (p : Int) (t : Int)
  · refine (bytes_yes p t (by unfold Geo.May at hm; omega) (by unfold Geo.May at hm; omega) hm _).mono ?_
    rintro e w4 ⟨A4, c4, rfl, hb4, hx4⟩
    have HT4 := Lib.hid (HTA.out.after hb4)
    have HA4 := Lib.hid (HA.out.after hb4)
    have HB4 := Lib.hid (HBA.out.trans (hb4.mono HBA.out.size))
    have HS4 := Lib.hid ((HSA.out.below hb4).more hb4.size)
    have HX4 := Lib.hid hx4
    have HSB := Lib.hid (sameB_iff (supL_byte p t) HBY.out)
    clear hb4 hx4
    rw [supL_len] at HX4 ⊢
    go_wp2_with fail
    refine (same_any A4 A 256 c4 256 c _ (supL p t) l _ HX4.out HS4.out).mono ?_
    rintro e w5 ⟨rfl, rfl⟩
    have c0 := HT4.out.fst
    have c1 := HT4.out.snd
    have f0 : w4.frozen? ⟨w.heap.size, 0, none⟩ = false := blk_free HT4.out 0
    have f1 : w4.frozen? ⟨w.heap.size, 1, none⟩ = false := blk_free HT4.out 1
    cases hsb : sameB (supL p t) l
    · have hne : ¬ IS := fun h => by
        have h2 := HSB.out.mpr (HIS.out.mp h).2
        rw [hsb] at h2; cases h2
      have ht5 := HT4.out.set 0 0
      have HB5 := Lib.hid (below_set2 HB4.out (Nat.le_refl _) (.int .i64 0) (.int .i64 0))
      have d0 := ht5.fst
      have d1 := ht5.snd
      clear ht5
      go_wp2
      exact bodyPost_ret (v := .tuple #[.agg #[.int .i64 0, .int .i64 0], .int .i64 4]) (by simp [results, Try.results14, go_sem, d0, d1]) rfl ⟨fun h => absurd h hne, fun _ => ⟨rfl, HB5.out⟩⟩
    · have hye : IS := HIS.out.mpr ⟨hm, HSB.out.mp hsb⟩
      have e0 := HA4.out.fst
      have e1 := HA4.out.snd
      have ht5 := HT4.out.set (p : Int) (t : Int)
      have HB5 := Lib.hid (below_set2 HB4.out (Nat.le_refl _) (.int .i64 (p : Int)) (.int .i64 (t : Int)))
      have d0 := ht5.fst
      have d1 := ht5.snd
      clear ht5
      go_wp2
      exact bodyPost_ret (v := .tuple #[.agg #[.int .i64 (p : Int), .int .i64 (t : Int)], .int .i64 0]) (by simp [results, Try.results14, go_sem, d0, d1]) rfl ⟨fun _ => ⟨rfl, HB5.out⟩, fun h => absurd hye h⟩
  · have hne : ¬ IS := fun h => hm (HIS.out.mp h).1
    refine (bytes_no p t hm _).mono ?_
    rintro e w4 ⟨rfl, hb4⟩
    have HT4 := Lib.hid (HTA.out.after hb4)
    have HB4 := Lib.hid (HBA.out.trans (hb4.mono HBA.out.size))
    have c0 := HT4.out.fst
    have c1 := HT4.out.snd
    have f0 : w4.frozen? ⟨w.heap.size, 0, none⟩ = false := blk_free HT4.out 0
    have f1 : w4.frozen? ⟨w.heap.size, 1, none⟩ = false := blk_free HT4.out 1
    have ht5 := HT4.out.set 0 0
    have HB5 := Lib.hid (below_set2 HB4.out (Nat.le_refl _) (.int .i64 0) (.int .i64 0))
    have d0 := ht5.fst
    have d1 := ht5.snd
    clear ht5 hb4
    go_wp2
    exact bodyPost_ret (v := .tuple #[.agg #[.int .i64 0, .int .i64 0], .int .i64 4]) (by simp [results, Try.results14, go_sem, d0, d1]) rfl ⟨fun h => absurd h hne, fun _ => ⟨rfl, HB5.out⟩⟩
end Go.Proofs.Ytbfbcjfeicecmaa
