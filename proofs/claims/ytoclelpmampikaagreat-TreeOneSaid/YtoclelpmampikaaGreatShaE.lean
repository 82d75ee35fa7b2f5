/-
  The table.
-/
import Derived.Test.YtoclelpmampikaaGreatShaC
import Derived.Test.YtoclelpmampikaaGreatVal
import Derived.Deep.RegionWith
import Derived.Below
namespace Go.Proofs.YtoclelpmampikaaGreat
open Go.RowKit
set_option linter.unusedVariables false
/-- the table's cells, k words and m first words of which are laid -/
def tabF (k m i : Nat) : Value := if i < 64 then (if i < k then u32 (Sha.K.getD i 0) else u32 0) else (if i - 64 < m then u32 (Sha.H0.getD (i - 64) 0) else u32 0)
theorem zero_tab (w : World) : (zeroValue 84).run Tryz.prog w = .ok (.agg (rowV (tabF 0 0) 72)) w := by kernel_rfl
def TabRel (w : World) (k : Nat) (m : Nat) (wr : World) : Prop := Below w.heap.size w wr ∧ Row wr w.heap.size 84 (tabF k m) 72
def TabK (w : World) (v : Value) (wr : World) : Prop := ∃ k : Nat, v = .int .i64 (k : Int) ∧ k ≤ 64 ∧ TabRel w k 0 wr
def TabM (w : World) (v : Value) (wr : World) : Prop := ∃ m : Nat, v = .int .i64 (m : Int) ∧ m ≤ 8 ∧ TabRel w 64 m wr
theorem tab_start (w : World) : TabK w (.int .i64 0) (w.alloc (.cells (rowV (tabF 0 0) 72) 84)) :=
  ⟨0, rfl, by omega, (Below.refl _ _).alloc (Nat.le_refl _) _, Row.new w _ _ _⟩
theorem tab_word {w W : World} {k : Nat} (hk : k < 64) (h : TabRel w k 0 W) : TabK w (.int .i64 ((k : Int) + 1)) ((W.setCell ⟨w.heap.size, k, none⟩ (.int .u32 ((Sha.rootW 3 (prI k) : Nat) : Int))).drew) := by
  refine ⟨k + 1, rfl, by omega, (h.1.setCell (Nat.le_refl _) _).drew, ?_⟩
  refine ((h.2.set_ k _).congr fun i hi => ?_).drew
  rw [prI_in k hk, Sha.root_K hk]
  unfold tabF
  by_cases e : i = k
  · subst e; rw [if_pos rfl, if_pos hk, if_pos (by omega)]; rfl
  · rw [if_neg e]
    by_cases h6 : i < 64
    · rw [if_pos h6, if_pos h6]
      by_cases h7 : i < k
      · rw [if_pos h7, if_pos (by omega)]
      · rw [if_neg h7, if_neg (by omega)]
    · rw [if_neg h6, if_neg h6]
theorem tab_first {w W : World} {m : Nat} (hm : m < 8) (h : TabRel w 64 m W) : TabM w (.int .i64 ((m : Int) + 1)) ((W.setCell ⟨w.heap.size, 64 + m, none⟩ (.int .u32 ((Sha.rootW 2 (prI m) : Nat) : Int))).drew) := by
  refine ⟨m + 1, rfl, by omega, (h.1.setCell (Nat.le_refl _) _).drew, ?_⟩
  refine ((h.2.set_ (64 + m) _).congr fun i hi => ?_).drew
  rw [prI_in m (by omega), Sha.root_H hm]
  unfold tabF
  by_cases e : i = 64 + m
  · subst e; rw [if_pos rfl, if_neg (by omega), if_pos (by omega), Nat.add_sub_cancel_left]; rfl
  · rw [if_neg e]
    by_cases h6 : i < 64
    · rw [if_pos h6, if_pos h6, if_pos h6]
    · rw [if_neg h6, if_neg h6]
      by_cases h7 : i - 64 < m
      · rw [if_pos h7, if_pos (by omega)]
      · rw [if_neg h7, if_neg (by omega)]
/-- block g is the table -/
def IsTab (w : World) (g : Nat) : Prop := Row w g 84 (tabF 64 8) 72
theorem prI_lt (k : Int) : prI k < 4294967296 := by
  unfold prI; split
  · have := (Sha.pr_at (k := k.toNat) (by omega)).2.1; omega
  · omega
attribute [local irreducible] Sha.rootW Sha.pr prI tabF rowV
set_option maxHeartbeats 1000000 in
set_option maxRecDepth 100000 in
theorem make_any (w : World) :
    Calls Tryz.prog 19 #[] w fun e w' => e = .returned (.pointer (some ⟨w.heap.size, 0, none⟩)) ∧ Below w.heap.size w w' ∧ IsTab w' w.heap.size := by
  have hz := zero_tab
  have H0 := Lib.hid (tab_start w)
  go_enter Tryz.func19, Tryz.ntmps19
  go_wp2
  go_loopw [6] (fun k wr => TabK w k wr) (fun k _ => (64 - intOf k).toNat)
  case atStart => exact H0.out
  case round =>
    obtain ⟨k, rfl, hk, hr⟩ := hrel
    have HR := Lib.hid hr
    clear hr hz H0
    by_cases hlt : k < 64
    · have hc := HR.out.2.cell (i := k) (by omega)
      have hf := HR.out.2.free k
      have HS := Lib.hid (tab_word hlt HR.out)
      have hp := prI_lt (k : Int)
      clear HR
      generalize tabF k 0 k = old at hc
      go_wp2
      go_region_with (first
        | (go_at_call 40; refine (Prime_any _ _).mono ?_; rintro e w' ⟨rfl, rfl⟩)
        | (go_at_call 39; refine (root_3 _ hp _).mono ?_; rintro e w' ⟨rfl, rfl⟩))
      all_goals
        go_wp2
        go_roundw
        case rel => exact HS.out
        case measure => simp [intOf]; omega
    · obtain rfl : k = 64 := by omega
      have H1 : Hid (TabM w (.int .i64 0) wr) := Lib.hid ⟨0, rfl, by omega, HR.out⟩
      clear HR
      rw [show ((64 : Nat) : Int) = 64 from rfl]
      go_wp2
      obtain ⟨wo, hwo⟩ : ∃ wo : World, wo = wr := ⟨_, rfl⟩
      subst hwo
      go_loopw [18] (fun k wr => TabM w k wr) (fun k _ => (8 - intOf k).toNat)
      case atStart => exact H1.out
      case round =>
        obtain ⟨m, rfl, hm, hr⟩ := hrel
        have HR := Lib.hid hr
        clear hr H1
        by_cases hlt : m < 8
        · have hc := HR.out.2.cell (i := 64 + m) (by omega)
          have hf := HR.out.2.free (64 + m)
          have HS := Lib.hid (tab_first hlt HR.out)
          have hp := prI_lt (m : Int)
          clear HR
          generalize tabF 64 m (64 + m) = old at hc
          go_wp2
          go_region_with (first
            | (go_at_call 40; refine (Prime_any _ _).mono ?_; rintro e w' ⟨rfl, rfl⟩)
            | (go_at_call 39; refine (root_2 _ hp _).mono ?_; rintro e w' ⟨rfl, rfl⟩))
          all_goals
            go_wp2
            go_roundw
            case rel => exact HS.out
            case measure => simp [intOf]; omega
        · obtain rfl : m = 8 := by omega
          go_wp2
          go_ret
          exact ⟨rfl, HR.out.1, HR.out.2⟩
end Go.Proofs.YtoclelpmampikaaGreat
