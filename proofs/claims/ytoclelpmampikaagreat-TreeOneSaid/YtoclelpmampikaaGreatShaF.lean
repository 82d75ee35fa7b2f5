/-
  A chunk's words.
-/
import Derived.Test.YtoclelpmampikaaGreatShaE
import Derived.BigRegion
import Derived.StillTailTactics
namespace Go.Proofs.YtoclelpmampikaaGreat
open Go.RowKit
set_option linter.unusedVariables false
/-- the words of the chunk l, j of which are laid -/
def spF (l : List Nat) (j i : Nat) : Value := if i < j then u32 ((Sha.wl l 64).getD i 0) else u32 0
def SpRel (w : World) (gw : Nat) (l : List Nat) (j : Nat) (wr : World) : Prop := w.grownBy wr (some gw) ∧ Row wr gw 80 (spF l j) 64
def SpA (w : World) (gw : Nat) (l : List Nat) (v : Value) (wr : World) : Prop := ∃ j : Nat, v = .int .i64 (j : Int) ∧ j ≤ 16 ∧ SpRel w gw l j wr
def SpB (w : World) (gw : Nat) (l : List Nat) (v : Value) (wr : World) : Prop := ∃ j : Nat, v = .int .i64 (j : Int) ∧ 16 ≤ j ∧ j ≤ 64 ∧ SpRel w gw l j wr
attribute [local irreducible] Sha.wl rowV
theorem sp_step {w W : World} {gw j x : Nat} {l : List Nat} (h : SpRel w gw l j W) (hx : x = (Sha.wl l 64).getD j 0) : SpRel w gw l (j + 1) (W.setCell ⟨gw, j, none⟩ (.int .u32 (x : Int))) := by
  refine ⟨only_set (p := ⟨gw, j, none⟩) h.1 (.inl rfl) (.int .u32 (x : Int)), ?_⟩
  refine (h.2.set_ j (.int .u32 (x : Int))).congr fun i hi => ?_
  subst hx
  unfold spF
  by_cases e : i = j
  · subst e; rw [if_pos rfl, if_pos (by omega)]; rfl
  · rw [if_neg e]
    by_cases h7 : i < j
    · rw [if_pos h7, if_pos (by omega)]
    · rw [if_neg h7, if_neg (by omega)]
theorem SpRel.drew {w W : World} {gw j : Nat} {l : List Nat} (h : SpRel w gw l j W) : SpRel w gw l j W.drew := ⟨only_drew h.1, h.2.drew⟩
theorem word_or {a b c d : Nat} (ha : a < 256) (hb : b < 256) (hc : c < 256) (hd : d < 256) :
    bits .or .u32 (bits .or .u32 (bits .or .u32 ((a : Int) * 16777216) ((b : Int) * 65536)) ((c : Int) * 256)) (d : Int) = ((a * 16777216 + b * 65536 + c * 256 + d : Nat) : Int) := by
  have e1 : (a : Int) * 16777216 = ((2 ^ 24 * a : Nat) : Int) := by omega
  have e2 : (b : Int) * 65536 = ((b * 65536 : Nat) : Int) := by omega
  have e3 : (c : Int) * 256 = ((c * 256 : Nat) : Int) := by omega
  have f1 : 2 ^ 24 * a ||| b * 65536 = 2 ^ 24 * a + b * 65536 := (Nat.two_pow_add_eq_or_of_lt (by omega) a).symm
  have f2 : 2 ^ 24 * a + b * 65536 ||| c * 256 = 2 ^ 24 * a + b * 65536 + c * 256 := by
    rw [show 2 ^ 24 * a + b * 65536 = 2 ^ 16 * (256 * a + b) by omega]
    exact (Nat.two_pow_add_eq_or_of_lt (by omega) _).symm
  have f3 : 2 ^ 24 * a + b * 65536 + c * 256 ||| d = 2 ^ 24 * a + b * 65536 + c * 256 + d := by
    rw [show 2 ^ 24 * a + b * 65536 + c * 256 = 2 ^ 8 * (65536 * a + 256 * b + c) by omega]
    exact (Nat.two_pow_add_eq_or_of_lt (by omega) _).symm
  rw [e1, e2, e3, or32 (by omega) (by omega), f1, or32 (by omega) (by omega), f2, or32 (by omega) (by omega), f3]
  omega
theorem spF_at (l : List Nat) {j i : Nat} (h : i < j) : spF l j i = .int .u32 (((Sha.wl l 64).getD i 0 : Nat) : Int) := by unfold spF; rw [if_pos h]; rfl
theorem sum4 {a b c d : Nat} : ((a : Int) + (b : Int) + (c : Int) + (d : Int)) % 4294967296 = (((a + b + c + d) % 4294967296 : Nat) : Int) := by omega
attribute [local irreducible] spF Sha.s0 Sha.s1
set_option maxHeartbeats 1000000 in
set_option maxRecDepth 100000 in
theorem spread_any (gw B : Nat) (A : Option Addr) (c : Nat) (l : List Nat) (w : World) (hw : Row w gw 80 (spF l 0) 64) (hs : BS w B A 64 c l) (hB : B ≤ gw) :
    Calls Tryz.prog 82 #[.pointer (some ⟨gw, 0, none⟩), .slice A 64 c, .func (Fn.func 83) #[] #[], .func (Fn.func 84) #[] #[]] w fun e w' => e = .returned (.tuple #[]) ∧ SpRel w gw l 64 w' := by
  have H0 : Hid (SpA w gw l (.int .i64 0) w) := Lib.hid ⟨0, rfl, by omega, World.grownBy.refl w _, hw⟩
  have hgw := hw.lt
  have HS := Lib.hid hs
  clear hs hw
  have hcap := HS.out.cap
  obtain ⟨b, o, rfl, hbB, hcell⟩ := HS.out.at_ (by omega)
  have HC := Lib.hid hcell
  clear hcell
  go_enter Tryz.func82, Tryz.ntmps82
  go_wp2
  go_loopw [10] (fun k wr => SpA w gw l k wr) (fun k _ => (16 - intOf k).toNat)
  case atStart => exact H0.out
  case round =>
    obtain ⟨j, rfl, hj, hr⟩ := hrel
    have HR := Lib.hid hr
    clear hr H0
    by_cases hlt : j < 16
    · have hcl : ∀ i, i < 64 → wr.cell? ⟨b, o + i, none⟩ = some (.int .u8 ((l.getD i 0 : Nat) : Int)) := fun i hi =>
        (World.cell?_of_block (HR.out.1.block b (by omega) (fun e => by injection e with e; omega))).trans (HC.out i hi)
      have k0 := hcl (4 * j) (by omega)
      have k1 := hcl (4 * j + 1) (by omega)
      have k2 := hcl (4 * j + 2) (by omega)
      have k3 := hcl (4 * j + 3) (by omega)
      have y0 := HS.out.byte (4 * j)
      have y1 := HS.out.byte (4 * j + 1)
      have y2 := HS.out.byte (4 * j + 2)
      have y3 := HS.out.byte (4 * j + 3)
      have HV := Lib.hid (word_or y0 y1 y2 y3)
      have HW := Lib.hid (Sha.w_first l hlt)
      have kc := HR.out.2.cell (i := j) (by omega)
      have kf := HR.out.2.free j
      have HN : Hid (∀ x : Nat, x = (Sha.wl l 64).getD j 0 → SpA w gw l (.int .i64 ((j : Int) + 1)) ((wr.setCell ⟨gw, j, none⟩ (.int .u32 (x : Int))).drew)) :=
        Lib.hid (fun x hx => ⟨j + 1, rfl, by omega, (sp_step HR.out hx).drew⟩)
      clear hcl HR
      rw [HW.out] at HN
      clear HW
      generalize l.getD (4 * j) 0 = x0 at *
      generalize l.getD (4 * j + 1) 0 = x1 at *
      generalize l.getD (4 * j + 2) 0 = x2 at *
      generalize l.getD (4 * j + 3) 0 = x3 at *
      generalize spF l j j = old at kc
      go_wp2
      go_region
      all_goals
        go_wp2
        go_roundw
        case rel => rw [HV.out]; exact HN.out _ rfl
        case measure => simp [intOf]; omega
    · obtain rfl : j = 16 := by omega
      have H1 : Hid (SpB w gw l (.int .i64 16) wr) := Lib.hid ⟨16, rfl, by omega, by omega, HR.out⟩
      clear HR
      rw [show ((16 : Nat) : Int) = 16 from rfl]
      go_wp2
      obtain ⟨wo, hwo⟩ : ∃ wo : World, wo = wr := ⟨_, rfl⟩
      subst hwo
      go_loopw [9] (fun k wr => SpB w gw l k wr) (fun k _ => (64 - intOf k).toNat)
      case atStart => exact H1.out
      case round =>
        obtain ⟨j, rfl, hj16, hj, hr⟩ := hrel
        have HR := Lib.hid hr
        clear hr H1
        by_cases hlt : j < 64
        · obtain ⟨W2, hW2⟩ : ∃ W2 : World, W2 = wr.drew := ⟨_, rfl⟩
          have HR2 : SpRel w gw l j W2 := by rw [hW2]; exact ⟨only_drew HR.out.1, HR.out.2.drew⟩
          have HW2 := Lib.hid hW2
          clear hW2
          have k2 := HR2.2.cell (i := j - 2) (by omega)
          have k7 := HR2.2.cell (i := j - 7) (by omega)
          have k15 := HR2.2.cell (i := j - 15) (by omega)
          have k16 := HR2.2.cell (i := j - 16) (by omega)
          rw [spF_at l (by omega)] at k2 k7 k15 k16
          have HW := Lib.hid (Sha.w_later l hj16 hlt)
          have y2 := Sha.wl_lt HS.out.byte 64 (j - 2)
          have y7 := Sha.wl_lt HS.out.byte 64 (j - 7)
          have y15 := Sha.wl_lt HS.out.byte 64 (j - 15)
          have y16 := Sha.wl_lt HS.out.byte 64 (j - 16)
          have kc := HR2.2.cell (i := j) (by omega)
          have kf := HR2.2.free j
          have HN : Hid (∀ x : Nat, x = (Sha.wl l 64).getD j 0 → SpB w gw l (.int .i64 ((j : Int) + 1)) (W2.setCell ⟨gw, j, none⟩ (.int .u32 (x : Int)))) :=
            Lib.hid (fun x hx => ⟨j + 1, rfl, by omega, by omega, sp_step HR2 hx⟩)
          clear HR HR2
          rw [HW.out] at HN
          clear HW
          generalize (Sha.wl l 64).getD (j - 2) 0 = x2 at *
          generalize (Sha.wl l 64).getD (j - 7) 0 = x7 at *
          generalize (Sha.wl l 64).getD (j - 15) 0 = x15 at *
          generalize (Sha.wl l 64).getD (j - 16) 0 = x16 at *
          generalize spF l j j = old at kc
          have HV := Lib.hid (sum4 (a := Sha.s1 x2) (b := x7) (c := Sha.s0 x15) (d := x16))
          go_wp2
          have n2 : ((j : Int) - 2).toNat = j - 2 := by omega
          have p2 : (0 : Int) ≤ (j : Int) - 2 := by omega
          have r2 : (2 : Int) ≤ (j : Int) := by omega
          have q2 : (j : Int) - 2 < 64 := by omega
          have b2 : j - 2 < 64 := by omega
          have n7 : ((j : Int) - 7).toNat = j - 7 := by omega
          have p7 : (0 : Int) ≤ (j : Int) - 7 := by omega
          have r7 : (7 : Int) ≤ (j : Int) := by omega
          have q7 : (j : Int) - 7 < 64 := by omega
          have b7 : j - 7 < 64 := by omega
          have n15 : ((j : Int) - 15).toNat = j - 15 := by omega
          have p15 : (0 : Int) ≤ (j : Int) - 15 := by omega
          have r15 : (15 : Int) ≤ (j : Int) := by omega
          have q15 : (j : Int) - 15 < 64 := by omega
          have b15 : j - 15 < 64 := by omega
          have n16 : ((j : Int) - 16).toNat = j - 16 := by omega
          have p16 : (0 : Int) ≤ (j : Int) - 16 := by omega
          have r16 : (16 : Int) ≤ (j : Int) := by omega
          have q16 : (j : Int) - 16 < 64 := by omega
          have b16 : j - 16 < 64 := by omega
          have w2 : IntKind.i64.wrap ((j : Int) - 2) = (j : Int) - 2 := IntWalk.i64_in _ (by omega)
          have w7 : IntKind.i64.wrap ((j : Int) - 7) = (j : Int) - 7 := IntWalk.i64_in _ (by omega)
          have w15 : IntKind.i64.wrap ((j : Int) - 15) = (j : Int) - 15 := IntWalk.i64_in _ (by omega)
          have w16 : IntKind.i64.wrap ((j : Int) - 16) = (j : Int) - 16 := IntWalk.i64_in _ (by omega)
          refine wp_region_still_tail 35 (by kernel_rfl) (by kernel_rfl) ?_
          simp only [List.take_succ_cons, List.take_zero, List.drop_succ_cons, List.drop_zero]
          change wpStill _ _ wr.drew (fun a' => wpList _ _ _ _ a' wr.drew) _ _
          rw [← HW2.out]
          clear HW2
          repeat (first
            | still_step
            | still_call ((s1_any _ y2 _).mono fun _ _ h => ⟨h.1, h.2.symm⟩)
            | still_call ((s0_any _ y15 _).mono fun _ _ h => ⟨h.1, h.2.symm⟩))
          refine wpStill_nil ?_
          go_wp2
          go_roundw
          case rel => rw [HV.out]; exact HN.out _ rfl
          case measure => simp [intOf]; omega
        · obtain rfl : j = 64 := by omega
          go_wp2
          go_end0
          exact ⟨rfl, HR.out⟩
end Go.Proofs.YtoclelpmampikaaGreat
