/-
  The walk through all blocks: the iterator's contract.
-/
import Derived.RangeFuncNested
import Derived.RangeFuncBound
import Derived.RangeFuncCalls
import Derived.RangeFuncLeaves
import Derived.Shelf.Abstract
import Derived.Shelf.RegionOpen
import Derived.WalkKit
import Derived.OwnWalkIn
import Derived.TacticsInMore
import Derived.LoopNIn
import Derived.LoopIn
import Derived.Test.YtokekhiibbhamaaDoorGeoE
import Derived.Test.YtokekhiibbhamaaDoorClsC
namespace Go.Proofs.YtokekhiibbhamaaDoor
open Go.RowKit Go.Shelf Go
set_option linter.unusedVariables false
set_option linter.unusedSimpArgs false
attribute [local go_sem] Oper.semAt_some
/-- all cells lie as they lay -/
def CK (W W' : World) : Prop := W.heap.size ≤ W'.heap.size ∧ ∀ (b : Nat) (cs : Array Value) (t : TypeId) (m : Nat × Nat), W.heap[b]? = some (.cells cs t m) → W'.heap[b]? = some (.cells cs t m)
theorem CK.refl (W : World) : CK W W := ⟨Nat.le_refl _, fun _ _ _ _ h => h⟩
theorem CK.trans {A B C : World} (h : CK A B) (k : CK B C) : CK A C := ⟨Nat.le_trans h.1 k.1, fun b cs t m hb => k.2 b cs t m (h.2 b cs t m hb)⟩
theorem CK.below {A B : World} (h : Below A.heap.size A B) : CK A B := ⟨h.size, fun b cs t m hb => (h.block b (Array.getElem?_eq_some_iff.1 hb).1).trans hb⟩
theorem ck_put (W : World) (l : Nat) (o o' : Obj) (h : W.heap[l]? = some o) (hc : o.isCells = false) : CK W (W.putObj l o') :=
  ⟨(grownBy_putObj' W l o').size, fun b cs t m hb => (World.putObj_heap_other (fun e => by subst e; rw [h] at hb; injection hb with hb; subst hb; cases hc)).trans hb⟩
theorem Two.ck {W w : World} {g : Nat} {t : TypeId} {x y : Int} (h : Two W g t x y) (hw : CK W w) : Two w g t x y := hw.2 _ _ _ _ h
/-- the kinds' variable holds what the text lays -/
def KindsIs (W : World) : Prop := ∃ (cs : Array Value) (t : TypeId) (m : Nat × Nat), W.heap[0]? = some (.cells cs t m) ∧ cs[0]? = some (.int .i64 1) ∧ cs[1]? = some (.int .i64 2) ∧ cs[2]? = some (.int .i64 3) ∧ cs[3]? = some (.int .i64 4)
theorem KindsIs.ck {W w : World} (h : KindsIs W) (hw : CK W w) : KindsIs w := by
  obtain ⟨cs, t, m, hb, h⟩ := h
  exact ⟨cs, t, m, hw.2 _ _ _ _ hb, h⟩
theorem KindsIs.cells {W : World} (h : KindsIs W) : W.cell? ⟨0, 0, none⟩ = some (.int .i64 1) ∧ W.cell? ⟨0, 1, none⟩ = some (.int .i64 2) ∧ W.cell? ⟨0, 2, none⟩ = some (.int .i64 3) ∧ W.cell? ⟨0, 3, none⟩ = some (.int .i64 4) := by
  obtain ⟨cs, t, m, hb, h0, h1, h2, h3⟩ := h
  refine ⟨?_, ?_, ?_, ?_⟩ <;> simp [World.cell?, hb, h0, h1, h2, h3]
/-- block g holds the steps -/
def StepsIs (W : World) (g : Nat) : Prop := W.heap[g]? = some (.cells stepV 48 (0, 0))
theorem StepsIs.ck {W w : World} {g : Nat} (h : StepsIs W g) (hw : CK W w) : StepsIs w g := hw.2 _ _ _ _ h
def upto (n : Nat) : List Nat := List.range n
theorem upto_succ (n : Nat) : upto (n + 1) = upto n ++ [n] := List.range_succ
namespace Geo
def lst (c1 c2 c3 c4 : Nat) : List (Nat × Nat) := kinds 1 c1 ++ (kinds 2 c2 ++ (kinds 3 c3 ++ kinds 4 c4))
theorem lst_len (c1 c2 c3 c4 : Nat) : (lst c1 c2 c3 c4).length = c1 + c2 + c3 + c4 := by unfold lst; simp only [List.length_append, kinds_len]; omega
theorem kinds_at (k n i : Nat) (h : i < n) : (kinds k n)[i]? = some (k, i) := by unfold kinds; simp [h]
theorem lst_1 (c1 c2 c3 c4 k : Nat) (h : k < c1) : (lst c1 c2 c3 c4).getD k (0, 0) = (1, k) := by
  rw [List.getD_eq_getElem?_getD]; unfold lst
  rw [List.getElem?_append_left (by rw [kinds_len]; omega), kinds_at _ _ _ h]; rfl
theorem lst_2 (c1 c2 c3 c4 k : Nat) (h : k < c2) : (lst c1 c2 c3 c4).getD (c1 + k) (0, 0) = (2, k) := by
  rw [List.getD_eq_getElem?_getD]; unfold lst
  rw [List.getElem?_append_right (by rw [kinds_len]; omega), kinds_len, show c1 + k - c1 = k by omega, List.getElem?_append_left (by rw [kinds_len]; omega), kinds_at _ _ _ h]; rfl
theorem lst_3 (c1 c2 c3 c4 k : Nat) (h : k < c3) : (lst c1 c2 c3 c4).getD (c1 + c2 + k) (0, 0) = (3, k) := by
  rw [List.getD_eq_getElem?_getD]; unfold lst
  rw [List.getElem?_append_right (by rw [kinds_len]; omega), kinds_len, show c1 + c2 + k - c1 = c2 + k by omega, List.getElem?_append_right (by rw [kinds_len]; omega), kinds_len, show c2 + k - c2 = k by omega, List.getElem?_append_left (by rw [kinds_len]; omega), kinds_at _ _ _ h]; rfl
theorem lst_4 (c1 c2 c3 c4 k : Nat) (h : k < c4) : (lst c1 c2 c3 c4).getD (c1 + c2 + c3 + k) (0, 0) = (4, k) := by
  rw [List.getD_eq_getElem?_getD]; unfold lst
  rw [List.getElem?_append_right (by rw [kinds_len]; omega), kinds_len, show c1 + c2 + c3 + k - c1 = c2 + c3 + k by omega, List.getElem?_append_right (by rw [kinds_len]; omega), kinds_len, show c2 + c3 + k - c2 = c3 + k by omega, List.getElem?_append_right (by rw [kinds_len]; omega), kinds_len, show c3 + k - c3 = k by omega, kinds_at _ _ _ h]; rfl
end Geo
abbrev encP (l : List (Nat × Nat)) (i : Nat) : Array Value := #[.int .i64 (i : Int), .agg #[.int .i64 ((l.getD i (0, 0)).1 : Int), .int .i64 ((l.getD i (0, 0)).2 : Int)]]
theorem encP_is {l : List (Nat × Nat)} {i a b : Nat} (h : l.getD i (0, 0) = (a, b)) : encP l i = #[.int .i64 (i : Int), .agg #[.int .i64 (a : Int), .int .i64 (b : Int)]] := by unfold encP; rw [h]
def YOne (ok : Bool) (a b : Prop) : Prop := if ok = true then a else b
theorem yielded_one {en : Ending} {a b : Prop} (h : (en = .returned (.bool true) ∧ a) ∨ (en = .returned (.bool false) ∧ b)) : ∃ ok, en = .returned (.bool ok) ∧ YOne ok a b := by
  rcases h with ⟨rfl, h⟩ | ⟨rfl, h⟩
  · exact ⟨true, rfl, by unfold YOne; rw [if_pos rfl]; exact h⟩
  · exact ⟨false, rfl, by unfold YOne; rw [if_neg (by decide)]; exact h⟩
abbrev CountsTo (p t : Int) (f : FuncId) (c : Nat) : Prop := ∀ W, Calls Tryd.prog 17 #[.agg #[.int .i64 p, .int .i64 t], .func (Fn.func f) #[] #[]] W fun e w' => e = .returned (.int .i64 (c : Int)) ∧ Below W.heap.size W w'
/-- where the blocks of the kind q + 1 begin -/
def OffIs (c1 c2 c3 c4 q m : Nat) : Prop := (q = 0 ∧ m = 0) ∨ (q = 1 ∧ m = c1) ∨ (q = 2 ∧ m = c1 + c2) ∨ (q = 3 ∧ m = c1 + c2 + c3) ∨ (q = 4 ∧ m = c1 + c2 + c3 + c4)
set_option maxRecDepth 100000 in
set_option maxHeartbeats 2000000 in
theorem walk1_in (n0 : Nat) (hn0 : 1 ≤ n0) (l bg : Nat) (p t : Int) (c1 c2 c3 c4 : Nat) (h1 : c1 ≤ 100) (h2 : c2 ≤ 100) (h3 : c3 ≤ 100) (h4 : c4 ≤ 100)
    (H1 : CountsTo p t 36 c1) (H2 : CountsTo p t 30 c2) (H3 : CountsTo p t 29 c3) (H4 : CountsTo p t 37 c4)
    (J Jx : List Nat → World → Prop)
    (hY : ∀ pre x W, x < (Geo.lst c1 c2 c3 c4).length → J pre W → pre.length < (Geo.lst c1 c2 c3 c4).length → YieldAt Fence.wide (n0 - 1) Tryd.prog l (encP (Geo.lst c1 c2 c3 c4) x) W fun en W' =>
      (en = .returned (.bool true) ∧ J (pre ++ [x]) W' ∧ CK W W') ∨ (en = .returned (.bool false) ∧ Jx (pre ++ [x]) W'))
    (W : World) (hJ : AbidesFrom W.heap.size J) (hK : KindsIs W) (hG : Two W bg 23 p t) (h0 : J [] W) :
    CallsIn Fence.wide n0 Tryd.prog 33 #[.func (.yield l) #[] #[], .pointer (some ⟨bg, 0, none⟩)] W fun en W' => (∃ v, en = .returned v) ∧
      ((∃ ys, ys = upto (Geo.lst c1 c2 c3 c4).length ∧ J ys W') ∨ (∃ pre, (∃ k, k ≤ (Geo.lst c1 c2 c3 c4).length ∧ pre = upto k) ∧ Jx pre W')) := by
  have hlen := Geo.lst_len c1 c2 c3 c4
  have G1 := Geo.lst_1 c1 c2 c3 c4
  have G2 := Geo.lst_2 c1 c2 c3 c4
  have G3 := Geo.lst_3 c1 c2 c3 c4
  have G4 := Geo.lst_4 c1 c2 c3 c4
  generalize Geo.lst c1 c2 c3 c4 = al at *
  have HLEN := Lib.hid hlen
  have HG1 := Lib.hid G1
  have HG2 := Lib.hid G2
  have HG3 := Lib.hid G3
  have HG4 := Lib.hid G4
  have HC1 := Lib.hid H1
  have HC2 := Lib.hid H2
  have HC3 := Lib.hid H3
  have HC4 := Lib.hid H4
  have HYY := Lib.hid hY
  have HJJ := Lib.hid hJ
  have HI := Lib.hid (info_geo2 p t)
  have hb0 : ∀ w1, Below W.heap.size W w1 → Below W.heap.size W ((w1.alloc (.cells stepZ 48)).setRow w1.heap.size stepV) ∧ StepsIs ((w1.alloc (.cells stepZ 48)).setRow w1.heap.size stepV) w1.heap.size := fun w1 hb =>
    ⟨below_setRow (hb.alloc hb.size _) hb.size _, setRow_heap (w1.alloc (.cells stepZ 48)) w1.heap.size stepZ stepV _ _ (heap_alloc_new w1 _)⟩
  have HB0 := Lib.hid hb0
  have HIS := Lib.hid info_steps
  have HZ : Hid (stepZ.size = stepV.size) := Lib.hid rfl
  have HO : Hid (stepV.all (·.oneCell') = true) := Lib.hid (by simp [Value.oneCell'])
  clear hlen G1 G2 G3 G4 H1 H2 H3 H4 hY hJ hb0
  refine callsIn_of_wp Tryd.func33 rfl trivial ?_ rfl
  simp only [Tryd.ntmps33, List.size_toArray, List.length_cons, List.length_nil, Nat.reduceAdd, Nat.reduceSub, Array.replicate_succ, Array.replicate_zero, List.push_toArray, List.append_toArray, List.nil_append, List.cons_append]
  refine wpIn_seq ?_
  refine wpIn_wide.2 ?_
  go_wp2_with fail
  refine (steps_any _).mono ?_
  rintro e w1 ⟨rfl, hb1⟩
  obtain ⟨hb2, hst⟩ := HB0.out w1 hb1
  have HB2 := Lib.hid hb2
  have HST := Lib.hid hst
  have HS := Lib.hid (heap_alloc_new w1 (.cells stepZ 48))
  clear hb1 hb2 hst
  go_wp2_with (with_reducible refine wpList_store_row rfl 48 (.tmp 3) (.tmp 8) rfl w1.heap.size stepV rfl rfl 48 stepZ HS.out HIS.out HZ.out HO.out ?_)
  generalize (w1.alloc (.cells stepZ 48)).setRow w1.heap.size stepV = W2 at *
  generalize w1.heap.size = gm at *
  have HCK := Lib.hid (CK.below HB2.out)
  have HKI := Lib.hid (hK.ck HCK.out)
  have HGB := Lib.hid (hG.ck HCK.out)
  obtain ⟨k0, k1, k2, k3⟩ := HKI.out.cells
  have HJ0 : Hid (J (upto 0) W2) := Lib.hid (HJJ.out _ _ _ none h0 ⟨HB2.out.os, HB2.out.tape, HB2.out.output, HB2.out.size, fun k hk _ => HB2.out.block k hk⟩ (fun r e => by cases e))
  have HJS : Hid (∀ pre w w', W.heap.size ≤ w.heap.size → J pre w → Below w.heap.size w w' → J pre w') := Lib.hid (fun pre w w' hs hj hb => HJJ.out _ _ _ none hj ⟨hb.os, hb.tape, hb.output, hb.size, fun k hk _ => hb.block k hk⟩ (fun r e => by cases e))
  clear hK hG h0 HS
  gi_wp2
  clear k0 k1 k2 k3
  gi_loopw [4, 10] (fun v4 v10 wr => ∃ q m : Nat, v10 = .int .i64 (q : Int) ∧ v4 = .int .i64 (m : Int) ∧ OffIs c1 c2 c3 c4 q m ∧ J (upto m) wr ∧ CK W2 wr) (fun _ v _ => (4 - intOf v).toNat)
  case atStart => exact ⟨0, 0, rfl, rfl, .inl ⟨rfl, rfl⟩, HJ0.out, CK.refl _⟩
  case round =>
    obtain ⟨q, m, rfl, rfl, hq, hj, hck⟩ := hrel
    have HJ1 := Lib.hid hj
    have HCK1 := Lib.hid hck
    have HGW := Lib.hid (HGB.out.ck hck)
    have HSW := Lib.hid (HST.out.ck hck)
    have HWS : Hid (W.heap.size ≤ wr.heap.size) := Lib.hid (Nat.le_trans HCK.out.1 hck.1)
    have HQ := Lib.hid hq
    clear hj hck HJ0
    rcases hq with ⟨rfl, hm⟩ | ⟨rfl, hm⟩ | ⟨rfl, hm⟩ | ⟨rfl, hm⟩ | ⟨rfl, hm⟩
    rotate_left 4
    · have HM := Lib.hid hm
      clear hm
      gi_wp2
      go_end0
      exact ⟨⟨_, rfl⟩, .inl ⟨_, by rw [HLEN.out, ← HM.out], HJ1.out⟩⟩
    · obtain ⟨c, HC, HN, HP, hc⟩ : ∃ c, Hid (CountsTo p t 36 c) ∧ Hid (∀ m', m' = m + c → OffIs c1 c2 c3 c4 1 m' ∧ m' ≤ al.length) ∧ Hid (∀ k m', k < c → m' = m + k → encP al m' = #[.int .i64 (m' : Int), .agg #[.int .i64 1, .int .i64 (k : Int)]]) ∧ c ≤ 100 :=
        ⟨c1, HC1, Lib.hid (fun m' h => by have := HLEN.out; unfold OffIs; omega), Lib.hid (fun k m' hk h => encP_is (by rw [h, hm, Nat.zero_add]; exact HG1.out k hk)), h1⟩
      have hidx : ∀ w, (Instr.index 50 (.agg #[.int .i64 1, .int .i64 2, .int .i64 3, .int .i64 4]) (.int .i64 0)).run Tryd.prog w = .ok (.int .i64 1) w := fun w => run_index_arr 50 3 4 #[.int .i64 1, .int .i64 2, .int .i64 3, .int .i64 4] 0 _ w Tryd.underlying50 (by kernel_rfl) (by kernel_rfl) (by kernel_rfl) (by omega) rfl
      have hml : (m : Int) ≤ 300 := by omega
      have HCL : Hid (∀ w, After wr w → w.cell? ⟨gm, 1, none⟩ = some (.func (Fn.func 36) #[] #[])) := Lib.hid (fun w h => by have hh := HSW.out.ck (CK.below h); unfold StepsIs at hh; exact (blk_cell hh 1).trans rfl)
      clear hm HQ
      rw [show ((0 : Nat) : Int) = 0 from rfl]
      gi_wp2
      refine wpIn_wide.2 ?_
      refine wp_region_class (After wr) (by kernel_rfl) (by kernel_rfl) (After.drew wr) ?_
      repeat (first
        | go_big_quiet_skip
        | (go_big_quiet_want; first
          | (with_reducible refine quiet_load 23 (.tmp 1) rfl _ _ rfl [.int .i64 p, .int .i64 t] _ (fun w h => (HGW.out.after h).range) Tryd.underlying23 rfl HI.out ?_; (simp only [Act.put, List.setIfInBounds_toArray, List.set_cons_zero, List.set_cons_succ]); go_big_quiet_on)
          | (with_reducible refine quiet_cell 39 (.tmp 15) rfl gm 1 rfl _ _ HCL.out Tryd.underlying39 rfl ?_; (simp only [Act.put, List.setIfInBounds_toArray, List.set_cons_zero, List.set_cons_succ]); go_big_quiet_on)
          | (go_big_quiet_op; first
            | go_big_quiet_on
            | ((with_reducible refine ⟨_, fun _ _ => rfl, ?_⟩); go_big_quiet_on)
            | ((with_reducible refine ⟨_, fun _ _ => ⟨rfl, rfl⟩, ?_⟩); go_big_quiet_on)
            | ((with_reducible refine ⟨_, fun W hW => calls_after hW (HC.out W), ?_⟩); go_big_quiet_on))))
      refine wpQuiet_nil ?_
      intro W4 hW4
      have HCK4 := Lib.hid (HCK1.out.trans (CK.below hW4))
      have HJ4 := Lib.hid (HJS.out _ _ _ HWS.out HJ1.out hW4)
      have HWS4 : Hid (W.heap.size ≤ W4.heap.size) := Lib.hid (Nat.le_trans HWS.out hW4.size)
      clear hW4 HJ1 HCK1 HGW HSW HWS HCL hidx
      gi_wp2
      gi_loopw [4, 18] (fun v4 v18 wr => ∃ k m' : Nat, v18 = .int .i64 (k : Int) ∧ v4 = .int .i64 (m' : Int) ∧ m' = m + k ∧ k ≤ c ∧ J (upto m') wr ∧ CK W2 wr) (fun _ v _ => (c - intOf v).toNat)
      case atStart => exact ⟨0, m, rfl, rfl, rfl, Nat.zero_le _, HJ4.out, HCK4.out⟩
      case round =>
        obtain ⟨k, m', rfl, rfl, hm', hk, hj', hck'⟩ := hrel
        have HJ5 := Lib.hid hj'
        have HCK5 := Lib.hid hck'
        have HM5 := Lib.hid hm'
        have HK5 := Lib.hid hk
        by_cases hlt : k < c
        · have hltI : (k : Int) < (c : Int) := by omega
          have hle := (HN.out (m + c) rfl).2
          obtain ⟨fn, tmps, assign, body, hy, hR⟩ := HYY.out (upto m') m' _ (by omega) hj' (by unfold upto; rw [List.length_range]; omega)
          rw [HP.out k m' hlt hm'] at hy
          have hmw : (m' : Int) ≤ 400 := by omega
          have HLE : Hid (m' + 1 ≤ al.length) := Lib.hid (by omega)
          clear hj' hck' hm' hk hle
          gi_wp2
          refine hR.mono ?_
          rintro e3 w3 hh3
          obtain ⟨ok3, rfl, hh4⟩ := yielded_one hh3
          cases ok3
          · have hh5 : Jx (upto m' ++ [m']) w3 := hh4
            have H5 := Lib.hid hh5
            clear hh4 hh5
            gi_wp2
            refine bodyPost_ret (results_none rfl _ _ _) rfl ?_
            exact ⟨⟨_, rfl⟩, .inr ⟨upto m' ++ [m'], ⟨m' + 1, HLE.out, (List.range_succ).symm⟩, H5.out⟩⟩
          · have hh5 : J (upto m' ++ [m']) w3 ∧ CK _ w3 := hh4
            have H5 := Lib.hid hh5
            clear hh4 hh5
            gi_wp2
            go_roundw
            case rel => exact ⟨k + 1, m' + 1, by go_num, by go_num, by have := HM5.out; omega, by omega, by rw [upto_succ]; exact H5.out.1, HCK5.out.trans H5.out.2⟩
            case measure => simp [intOf]; omega
        · have hltI : ¬ (k : Int) < (c : Int) := by omega
          have HKC : Hid (m' = m + c) := Lib.hid (by omega)
          clear hj' hck' hm' hk
          gi_wp2
          go_roundw
          case rel => exact ⟨_, m', rfl, rfl, (HN.out m' HKC.out).1, HJ5.out, HCK5.out⟩
          case measure => simp [intOf]
    · obtain ⟨c, HC, HN, HP, hc⟩ : ∃ c, Hid (CountsTo p t 30 c) ∧ Hid (∀ m', m' = m + c → OffIs c1 c2 c3 c4 2 m' ∧ m' ≤ al.length) ∧ Hid (∀ k m', k < c → m' = m + k → encP al m' = #[.int .i64 (m' : Int), .agg #[.int .i64 2, .int .i64 (k : Int)]]) ∧ c ≤ 100 :=
        ⟨c2, HC2, Lib.hid (fun m' h => by have := HLEN.out; unfold OffIs; omega), Lib.hid (fun k m' hk h => encP_is (by rw [h, hm]; exact HG2.out k hk)), h2⟩
      have hidx : ∀ w, (Instr.index 50 (.agg #[.int .i64 1, .int .i64 2, .int .i64 3, .int .i64 4]) (.int .i64 1)).run Tryd.prog w = .ok (.int .i64 2) w := fun w => run_index_arr 50 3 4 #[.int .i64 1, .int .i64 2, .int .i64 3, .int .i64 4] 1 _ w Tryd.underlying50 (by kernel_rfl) (by kernel_rfl) (by kernel_rfl) (by omega) rfl
      have hml : (m : Int) ≤ 300 := by omega
      have HCL : Hid (∀ w, After wr w → w.cell? ⟨gm, 2, none⟩ = some (.func (Fn.func 30) #[] #[])) := Lib.hid (fun w h => by have hh := HSW.out.ck (CK.below h); unfold StepsIs at hh; exact (blk_cell hh 2).trans rfl)
      clear hm HQ
      rw [show ((1 : Nat) : Int) = 1 from rfl]
      gi_wp2
      refine wpIn_wide.2 ?_
      refine wp_region_class (After wr) (by kernel_rfl) (by kernel_rfl) (After.drew wr) ?_
      repeat (first
        | go_big_quiet_skip
        | (go_big_quiet_want; first
          | (with_reducible refine quiet_load 23 (.tmp 1) rfl _ _ rfl [.int .i64 p, .int .i64 t] _ (fun w h => (HGW.out.after h).range) Tryd.underlying23 rfl HI.out ?_; (simp only [Act.put, List.setIfInBounds_toArray, List.set_cons_zero, List.set_cons_succ]); go_big_quiet_on)
          | (with_reducible refine quiet_cell 39 (.tmp 15) rfl gm 2 rfl _ _ HCL.out Tryd.underlying39 rfl ?_; (simp only [Act.put, List.setIfInBounds_toArray, List.set_cons_zero, List.set_cons_succ]); go_big_quiet_on)
          | (go_big_quiet_op; first
            | go_big_quiet_on
            | ((with_reducible refine ⟨_, fun _ _ => rfl, ?_⟩); go_big_quiet_on)
            | ((with_reducible refine ⟨_, fun _ _ => ⟨rfl, rfl⟩, ?_⟩); go_big_quiet_on)
            | ((with_reducible refine ⟨_, fun W hW => calls_after hW (HC.out W), ?_⟩); go_big_quiet_on))))
      refine wpQuiet_nil ?_
      intro W4 hW4
      have HCK4 := Lib.hid (HCK1.out.trans (CK.below hW4))
      have HJ4 := Lib.hid (HJS.out _ _ _ HWS.out HJ1.out hW4)
      have HWS4 : Hid (W.heap.size ≤ W4.heap.size) := Lib.hid (Nat.le_trans HWS.out hW4.size)
      clear hW4 HJ1 HCK1 HGW HSW HWS HCL hidx
      gi_wp2
      gi_loopw [4, 18] (fun v4 v18 wr => ∃ k m' : Nat, v18 = .int .i64 (k : Int) ∧ v4 = .int .i64 (m' : Int) ∧ m' = m + k ∧ k ≤ c ∧ J (upto m') wr ∧ CK W2 wr) (fun _ v _ => (c - intOf v).toNat)
      case atStart => exact ⟨0, m, rfl, rfl, rfl, Nat.zero_le _, HJ4.out, HCK4.out⟩
      case round =>
        obtain ⟨k, m', rfl, rfl, hm', hk, hj', hck'⟩ := hrel
        have HJ5 := Lib.hid hj'
        have HCK5 := Lib.hid hck'
        have HM5 := Lib.hid hm'
        have HK5 := Lib.hid hk
        by_cases hlt : k < c
        · have hltI : (k : Int) < (c : Int) := by omega
          have hle := (HN.out (m + c) rfl).2
          obtain ⟨fn, tmps, assign, body, hy, hR⟩ := HYY.out (upto m') m' _ (by omega) hj' (by unfold upto; rw [List.length_range]; omega)
          rw [HP.out k m' hlt hm'] at hy
          have hmw : (m' : Int) ≤ 400 := by omega
          have HLE : Hid (m' + 1 ≤ al.length) := Lib.hid (by omega)
          clear hj' hck' hm' hk hle
          gi_wp2
          refine hR.mono ?_
          rintro e3 w3 hh3
          obtain ⟨ok3, rfl, hh4⟩ := yielded_one hh3
          cases ok3
          · have hh5 : Jx (upto m' ++ [m']) w3 := hh4
            have H5 := Lib.hid hh5
            clear hh4 hh5
            gi_wp2
            refine bodyPost_ret (results_none rfl _ _ _) rfl ?_
            exact ⟨⟨_, rfl⟩, .inr ⟨upto m' ++ [m'], ⟨m' + 1, HLE.out, (List.range_succ).symm⟩, H5.out⟩⟩
          · have hh5 : J (upto m' ++ [m']) w3 ∧ CK _ w3 := hh4
            have H5 := Lib.hid hh5
            clear hh4 hh5
            gi_wp2
            go_roundw
            case rel => exact ⟨k + 1, m' + 1, by go_num, by go_num, by have := HM5.out; omega, by omega, by rw [upto_succ]; exact H5.out.1, HCK5.out.trans H5.out.2⟩
            case measure => simp [intOf]; omega
        · have hltI : ¬ (k : Int) < (c : Int) := by omega
          have HKC : Hid (m' = m + c) := Lib.hid (by omega)
          clear hj' hck' hm' hk
          gi_wp2
          go_roundw
          case rel => exact ⟨_, m', rfl, rfl, (HN.out m' HKC.out).1, HJ5.out, HCK5.out⟩
          case measure => simp [intOf]
    · obtain ⟨c, HC, HN, HP, hc⟩ : ∃ c, Hid (CountsTo p t 29 c) ∧ Hid (∀ m', m' = m + c → OffIs c1 c2 c3 c4 3 m' ∧ m' ≤ al.length) ∧ Hid (∀ k m', k < c → m' = m + k → encP al m' = #[.int .i64 (m' : Int), .agg #[.int .i64 3, .int .i64 (k : Int)]]) ∧ c ≤ 100 :=
        ⟨c3, HC3, Lib.hid (fun m' h => by have := HLEN.out; unfold OffIs; omega), Lib.hid (fun k m' hk h => encP_is (by rw [h, hm]; exact HG3.out k hk)), h3⟩
      have hidx : ∀ w, (Instr.index 50 (.agg #[.int .i64 1, .int .i64 2, .int .i64 3, .int .i64 4]) (.int .i64 2)).run Tryd.prog w = .ok (.int .i64 3) w := fun w => run_index_arr 50 3 4 #[.int .i64 1, .int .i64 2, .int .i64 3, .int .i64 4] 2 _ w Tryd.underlying50 (by kernel_rfl) (by kernel_rfl) (by kernel_rfl) (by omega) rfl
      have hml : (m : Int) ≤ 300 := by omega
      have HCL : Hid (∀ w, After wr w → w.cell? ⟨gm, 3, none⟩ = some (.func (Fn.func 29) #[] #[])) := Lib.hid (fun w h => by have hh := HSW.out.ck (CK.below h); unfold StepsIs at hh; exact (blk_cell hh 3).trans rfl)
      clear hm HQ
      rw [show ((2 : Nat) : Int) = 2 from rfl]
      gi_wp2
      refine wpIn_wide.2 ?_
      refine wp_region_class (After wr) (by kernel_rfl) (by kernel_rfl) (After.drew wr) ?_
      repeat (first
        | go_big_quiet_skip
        | (go_big_quiet_want; first
          | (with_reducible refine quiet_load 23 (.tmp 1) rfl _ _ rfl [.int .i64 p, .int .i64 t] _ (fun w h => (HGW.out.after h).range) Tryd.underlying23 rfl HI.out ?_; (simp only [Act.put, List.setIfInBounds_toArray, List.set_cons_zero, List.set_cons_succ]); go_big_quiet_on)
          | (with_reducible refine quiet_cell 39 (.tmp 15) rfl gm 3 rfl _ _ HCL.out Tryd.underlying39 rfl ?_; (simp only [Act.put, List.setIfInBounds_toArray, List.set_cons_zero, List.set_cons_succ]); go_big_quiet_on)
          | (go_big_quiet_op; first
            | go_big_quiet_on
            | ((with_reducible refine ⟨_, fun _ _ => rfl, ?_⟩); go_big_quiet_on)
            | ((with_reducible refine ⟨_, fun _ _ => ⟨rfl, rfl⟩, ?_⟩); go_big_quiet_on)
            | ((with_reducible refine ⟨_, fun W hW => calls_after hW (HC.out W), ?_⟩); go_big_quiet_on))))
      refine wpQuiet_nil ?_
      intro W4 hW4
      have HCK4 := Lib.hid (HCK1.out.trans (CK.below hW4))
      have HJ4 := Lib.hid (HJS.out _ _ _ HWS.out HJ1.out hW4)
      have HWS4 : Hid (W.heap.size ≤ W4.heap.size) := Lib.hid (Nat.le_trans HWS.out hW4.size)
      clear hW4 HJ1 HCK1 HGW HSW HWS HCL hidx
      gi_wp2
      gi_loopw [4, 18] (fun v4 v18 wr => ∃ k m' : Nat, v18 = .int .i64 (k : Int) ∧ v4 = .int .i64 (m' : Int) ∧ m' = m + k ∧ k ≤ c ∧ J (upto m') wr ∧ CK W2 wr) (fun _ v _ => (c - intOf v).toNat)
      case atStart => exact ⟨0, m, rfl, rfl, rfl, Nat.zero_le _, HJ4.out, HCK4.out⟩
      case round =>
        obtain ⟨k, m', rfl, rfl, hm', hk, hj', hck'⟩ := hrel
        have HJ5 := Lib.hid hj'
        have HCK5 := Lib.hid hck'
        have HM5 := Lib.hid hm'
        have HK5 := Lib.hid hk
        by_cases hlt : k < c
        · have hltI : (k : Int) < (c : Int) := by omega
          have hle := (HN.out (m + c) rfl).2
          obtain ⟨fn, tmps, assign, body, hy, hR⟩ := HYY.out (upto m') m' _ (by omega) hj' (by unfold upto; rw [List.length_range]; omega)
          rw [HP.out k m' hlt hm'] at hy
          have hmw : (m' : Int) ≤ 400 := by omega
          have HLE : Hid (m' + 1 ≤ al.length) := Lib.hid (by omega)
          clear hj' hck' hm' hk hle
          gi_wp2
          refine hR.mono ?_
          rintro e3 w3 hh3
          obtain ⟨ok3, rfl, hh4⟩ := yielded_one hh3
          cases ok3
          · have hh5 : Jx (upto m' ++ [m']) w3 := hh4
            have H5 := Lib.hid hh5
            clear hh4 hh5
            gi_wp2
            refine bodyPost_ret (results_none rfl _ _ _) rfl ?_
            exact ⟨⟨_, rfl⟩, .inr ⟨upto m' ++ [m'], ⟨m' + 1, HLE.out, (List.range_succ).symm⟩, H5.out⟩⟩
          · have hh5 : J (upto m' ++ [m']) w3 ∧ CK _ w3 := hh4
            have H5 := Lib.hid hh5
            clear hh4 hh5
            gi_wp2
            go_roundw
            case rel => exact ⟨k + 1, m' + 1, by go_num, by go_num, by have := HM5.out; omega, by omega, by rw [upto_succ]; exact H5.out.1, HCK5.out.trans H5.out.2⟩
            case measure => simp [intOf]; omega
        · have hltI : ¬ (k : Int) < (c : Int) := by omega
          have HKC : Hid (m' = m + c) := Lib.hid (by omega)
          clear hj' hck' hm' hk
          gi_wp2
          go_roundw
          case rel => exact ⟨_, m', rfl, rfl, (HN.out m' HKC.out).1, HJ5.out, HCK5.out⟩
          case measure => simp [intOf]
    · obtain ⟨c, HC, HN, HP, hc⟩ : ∃ c, Hid (CountsTo p t 37 c) ∧ Hid (∀ m', m' = m + c → OffIs c1 c2 c3 c4 4 m' ∧ m' ≤ al.length) ∧ Hid (∀ k m', k < c → m' = m + k → encP al m' = #[.int .i64 (m' : Int), .agg #[.int .i64 4, .int .i64 (k : Int)]]) ∧ c ≤ 100 :=
        ⟨c4, HC4, Lib.hid (fun m' h => by have := HLEN.out; unfold OffIs; omega), Lib.hid (fun k m' hk h => encP_is (by rw [h, hm]; exact HG4.out k hk)), h4⟩
      have hidx : ∀ w, (Instr.index 50 (.agg #[.int .i64 1, .int .i64 2, .int .i64 3, .int .i64 4]) (.int .i64 3)).run Tryd.prog w = .ok (.int .i64 4) w := fun w => run_index_arr 50 3 4 #[.int .i64 1, .int .i64 2, .int .i64 3, .int .i64 4] 3 _ w Tryd.underlying50 (by kernel_rfl) (by kernel_rfl) (by kernel_rfl) (by omega) rfl
      have hml : (m : Int) ≤ 300 := by omega
      have HCL : Hid (∀ w, After wr w → w.cell? ⟨gm, 4, none⟩ = some (.func (Fn.func 37) #[] #[])) := Lib.hid (fun w h => by have hh := HSW.out.ck (CK.below h); unfold StepsIs at hh; exact (blk_cell hh 4).trans rfl)
      clear hm HQ
      rw [show ((3 : Nat) : Int) = 3 from rfl]
      gi_wp2
      refine wpIn_wide.2 ?_
      refine wp_region_class (After wr) (by kernel_rfl) (by kernel_rfl) (After.drew wr) ?_
      repeat (first
        | go_big_quiet_skip
        | (go_big_quiet_want; first
          | (with_reducible refine quiet_load 23 (.tmp 1) rfl _ _ rfl [.int .i64 p, .int .i64 t] _ (fun w h => (HGW.out.after h).range) Tryd.underlying23 rfl HI.out ?_; (simp only [Act.put, List.setIfInBounds_toArray, List.set_cons_zero, List.set_cons_succ]); go_big_quiet_on)
          | (with_reducible refine quiet_cell 39 (.tmp 15) rfl gm 4 rfl _ _ HCL.out Tryd.underlying39 rfl ?_; (simp only [Act.put, List.setIfInBounds_toArray, List.set_cons_zero, List.set_cons_succ]); go_big_quiet_on)
          | (go_big_quiet_op; first
            | go_big_quiet_on
            | ((with_reducible refine ⟨_, fun _ _ => rfl, ?_⟩); go_big_quiet_on)
            | ((with_reducible refine ⟨_, fun _ _ => ⟨rfl, rfl⟩, ?_⟩); go_big_quiet_on)
            | ((with_reducible refine ⟨_, fun W hW => calls_after hW (HC.out W), ?_⟩); go_big_quiet_on))))
      refine wpQuiet_nil ?_
      intro W4 hW4
      have HCK4 := Lib.hid (HCK1.out.trans (CK.below hW4))
      have HJ4 := Lib.hid (HJS.out _ _ _ HWS.out HJ1.out hW4)
      have HWS4 : Hid (W.heap.size ≤ W4.heap.size) := Lib.hid (Nat.le_trans HWS.out hW4.size)
      clear hW4 HJ1 HCK1 HGW HSW HWS HCL hidx
      gi_wp2
      gi_loopw [4, 18] (fun v4 v18 wr => ∃ k m' : Nat, v18 = .int .i64 (k : Int) ∧ v4 = .int .i64 (m' : Int) ∧ m' = m + k ∧ k ≤ c ∧ J (upto m') wr ∧ CK W2 wr) (fun _ v _ => (c - intOf v).toNat)
      case atStart => exact ⟨0, m, rfl, rfl, rfl, Nat.zero_le _, HJ4.out, HCK4.out⟩
      case round =>
        obtain ⟨k, m', rfl, rfl, hm', hk, hj', hck'⟩ := hrel
        have HJ5 := Lib.hid hj'
        have HCK5 := Lib.hid hck'
        have HM5 := Lib.hid hm'
        have HK5 := Lib.hid hk
        by_cases hlt : k < c
        · have hltI : (k : Int) < (c : Int) := by omega
          have hle := (HN.out (m + c) rfl).2
          obtain ⟨fn, tmps, assign, body, hy, hR⟩ := HYY.out (upto m') m' _ (by omega) hj' (by unfold upto; rw [List.length_range]; omega)
          rw [HP.out k m' hlt hm'] at hy
          have hmw : (m' : Int) ≤ 400 := by omega
          have HLE : Hid (m' + 1 ≤ al.length) := Lib.hid (by omega)
          clear hj' hck' hm' hk hle
          gi_wp2
          refine hR.mono ?_
          rintro e3 w3 hh3
          obtain ⟨ok3, rfl, hh4⟩ := yielded_one hh3
          cases ok3
          · have hh5 : Jx (upto m' ++ [m']) w3 := hh4
            have H5 := Lib.hid hh5
            clear hh4 hh5
            gi_wp2
            refine bodyPost_ret (results_none rfl _ _ _) rfl ?_
            exact ⟨⟨_, rfl⟩, .inr ⟨upto m' ++ [m'], ⟨m' + 1, HLE.out, (List.range_succ).symm⟩, H5.out⟩⟩
          · have hh5 : J (upto m' ++ [m']) w3 ∧ CK _ w3 := hh4
            have H5 := Lib.hid hh5
            clear hh4 hh5
            gi_wp2
            go_roundw
            case rel => exact ⟨k + 1, m' + 1, by go_num, by go_num, by have := HM5.out; omega, by omega, by rw [upto_succ]; exact H5.out.1, HCK5.out.trans H5.out.2⟩
            case measure => simp [intOf]; omega
        · have hltI : ¬ (k : Int) < (c : Int) := by omega
          have HKC : Hid (m' = m + c) := Lib.hid (by omega)
          clear hj' hck' hm' hk
          gi_wp2
          go_roundw
          case rel => exact ⟨_, m', rfl, rfl, (HN.out m' HKC.out).1, HJ5.out, HCK5.out⟩
          case measure => simp [intOf]
end Go.Proofs.YtokekhiibbhamaaDoor
