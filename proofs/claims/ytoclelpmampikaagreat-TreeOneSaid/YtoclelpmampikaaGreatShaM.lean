/-
  A new sum; parts that are written; the length.
-/
import Derived.Test.YtoclelpmampikaaGreatShaL
namespace Go.Proofs.YtoclelpmampikaaGreat
open Go.RowKit Go
set_option linter.unusedVariables false
theorem take_some (g : Nat) (W : World) : (binOp .eql 124 (.func (Fn.func 68) #[.pointer (some ⟨g, 0, none⟩)] #[]) .nilFunc).run Tryz.prog W = .ok (.bool false) W := by kernel_rfl
set_option maxHeartbeats 400000 in
set_option maxRecDepth 100000 in
theorem none_no (hb g : Nat) (m : List Nat) (w : World) (h : IsSum w hb g m) :
    Calls Tryz.prog 69 #[.pointer (some ⟨hb, 0, none⟩)] w fun e w' => e = .returned (.bool false) ∧ w = w' := by
  obtain ⟨tail, _, hh, _⟩ := h
  have kh : w.cell? ⟨hb, 0, none⟩ = some (.func (Fn.func 68) #[.pointer (some ⟨g, 0, none⟩)] #[]) := (Row.cell hh (i := 0) (by omega)).trans (congrArg some hash_zero)
  have hq := take_some g
  clear hh
  go_enter Tryz.func69, Tryz.ntmps69
  go_wp2
  go_ret
  exact ⟨rfl, rfl⟩
set_option maxHeartbeats 400000 in
theorem none_nil (w : World) :
    Calls Tryz.prog 69 #[.pointer none] w fun e w' => e = .returned (.bool true) ∧ w = w' := by
  go_enter Tryz.func69, Tryz.ntmps69
  go_wp2
  go_ret
  exact ⟨rfl, rfl⟩
/-- the slice V has the parts ls, which lie elsewhere than in block X -/
def Parts (w : World) (X : Nat) (V : Value) (ls : List (List Nat)) : Prop :=
  ∃ P c, V = .slice P ls.length c ∧ ls.length ≤ c ∧ c ≤ 9223372036854775807 ∧ (0 < ls.length → ∃ b o, P = some ⟨b, o, none⟩ ∧ b ≠ X ∧ b < w.heap.size ∧
    ∀ i l, ls[i]? = some l → ∃ A n cc, w.cell? ⟨b, o + i, none⟩ = some (.slice A n cc) ∧ BS w w.heap.size A n cc l ∧ Off n A X)
theorem Parts.only {w w' : World} {X : Nat} {V : Value} {ls : List (List Nat)} (h : Parts w X V ls) (hg : w.grownBy w' (some X)) : Parts w' X V ls := by
  obtain ⟨P, c, hV, h1, h2, h3⟩ := h
  refine ⟨P, c, hV, h1, h2, fun h0 => ?_⟩
  obtain ⟨b, o, hP, hne, hlt, hall⟩ := h3 h0
  refine ⟨b, o, hP, hne, Nat.lt_of_lt_of_le hlt hg.size, fun i l hl => ?_⟩
  obtain ⟨A, n, cc, hc, hbs, hoff⟩ := hall i l hl
  exact ⟨A, n, cc, (World.cell?_of_block (hg.block b hlt (fun e => by injection e with e; exact hne e))).trans hc, hbs.only hoff hg, hoff⟩
theorem flat_take {ls : List (List Nat)} {i : Nat} {l : List Nat} (h : ls[i]? = some l) : (ls.take (i + 1)).flatten = (ls.take i).flatten ++ l := by
  have hi : i < ls.length := by
    rcases Nat.lt_or_ge i ls.length with hlt | hge
    · exact hlt
    · rw [List.getElem?_eq_none hge] at h; cases h
  rw [List.take_succ_eq_append_getElem hi, List.flatten_append]
  rw [List.getElem?_eq_getElem hi] at h
  injection h with h
  simp [h]
theorem flat_len (ls : List (List Nat)) (i : Nat) : (ls.take i).flatten.length ≤ ls.flatten.length := by
  have h := List.take_append_drop i ls
  have e : ls.flatten = (ls.take i).flatten ++ (ls.drop i).flatten := by rw [← List.flatten_append, h]
  rw [e, List.length_append]
  omega
def WsRel (w : World) (hb g : Nat) (m : List Nat) (ls : List (List Nat)) (v : Value) (wr : World) : Prop :=
  ∃ i : Nat, v = .int .i64 (i : Int) ∧ i ≤ ls.length ∧ w.grownBy wr (some hb) ∧ IsSum wr hb g (m ++ (ls.take i).flatten)
set_option maxHeartbeats 1000000 in
theorem writes_any (hb g : Nat) (m : List Nat) (ls : List (List Nat)) (V : Value) (w : World) (hm : IsSum w hb g m) (hp : Parts w hb V ls) (hl : m.length + ls.flatten.length ≤ 1000000) (hn : ls.length ≤ 1000000) :
    Calls Tryz.prog 54 #[.pointer (some ⟨hb, 0, none⟩), V] w fun e w' => e = .returned (.tuple #[]) ∧ w.grownBy w' (some hb) ∧ IsSum w' hb g (m ++ ls.flatten) := by
  have HP := Lib.hid hp
  have HM := Lib.hid hm
  obtain ⟨P, c, rfl, hc1, hc2, hrest⟩ := hp
  have H0 : Hid (WsRel w hb g m ls (.int .i64 0) w) := Lib.hid ⟨0, rfl, by omega, World.grownBy.refl w _, by simpa using hm⟩
  clear hm hrest
  go_enter Tryz.func54, Tryz.ntmps54
  go_wp2_with fail
  refine (none_no hb g m _ HM.out).mono ?_
  rintro e w' ⟨rfl, rfl⟩
  clear HM
  go_wp2
  go_loopw [10] (fun v wr => WsRel w hb g m ls v wr) (fun v _ => (ls.length - intOf v).toNat)
  case atStart => exact H0.out
  case round =>
    obtain ⟨i, rfl, hi, hgb, hs⟩ := hrel
    have HG := Lib.hid hgb
    have HS := Lib.hid hs
    clear hgb hs H0
    by_cases hlt : i < ls.length
    · obtain ⟨l, hl0⟩ : ∃ l, ls[i]? = some l := ⟨_, List.getElem?_eq_getElem hlt⟩
      obtain ⟨P2, c2, hV, _, _, h3⟩ := HP.out.only HG.out
      injection hV with hP _ hcc
      subst hP hcc
      obtain ⟨b, o, rfl, hne, hbl, hall⟩ := h3 (by omega)
      obtain ⟨A, n, cc, hcell, hbs, hoff⟩ := hall i l hl0
      have HBS := Lib.hid hbs
      have HOF := Lib.hid hoff
      have hfl := flat_len ls (i + 1)
      rw [flat_take hl0, List.length_append] at hfl
      have hsum : (m ++ (ls.take i).flatten).length + n ≤ 1000000 := by rw [List.length_append, ← hbs.len]; omega
      have HSU := Lib.hid hsum
      have HFT := Lib.hid (flat_take hl0)
      clear hall hbs hoff h3 hfl hsum hl0
      go_wp2_with fail
      refine (write_any hb g _ l A n cc _ HS.out HBS.out HOF.out HSU.out).mono ?_
      rintro e w2 ⟨rfl, hg2, hs2⟩
      have hr : WsRel w hb g m ls (.int .i64 ((i : Int) + 1)) w2 := ⟨i + 1, rfl, by omega, only_trans HG.out hg2, by rw [HFT.out, ← List.append_assoc]; exact hs2⟩
      have HR := Lib.hid hr
      clear hg2 hs2 hr hcell
      go_wp2
      go_roundw
      case rel => exact HR.out
      case measure => simp [intOf]; omega
    · obtain rfl : i = ls.length := by omega
      rw [List.take_length] at HS
      go_wp2
      go_end0
      exact ⟨rfl, HG.out, HS.out⟩
end Go.Proofs.YtoclelpmampikaaGreat
