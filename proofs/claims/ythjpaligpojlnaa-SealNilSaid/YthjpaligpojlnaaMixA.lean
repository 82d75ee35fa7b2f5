/-
  Columns of four bytes: the parts of Mix and Unmix.
-/
import Derived.Test.YthjpaligpojlnaaGfB
import Derived.Deep.QuietTactic
import Derived.BigQuiet
namespace Go.Proofs.Ythjpaligpojlnaa
open Go.RowKit
set_option linter.unusedVariables false
theorem tm_two {p : Nat} : Gf.tm p 2 = Gf.xt p := by simp [Gf.tm, Gf.tmR]
theorem tm_three {p : Nat} : Gf.tm p 3 = Gf.xt p ^^^ p := by simp [Gf.tm, Gf.tmR, Nat.xor_comm]
set_option maxHeartbeats 400000 in
theorem once_any (p : Nat) (hp : p < 256) (w : World) :
    Calls Try.prog 100 #[.int .u8 p] w fun e w' => e = .returned (.int .u8 (Gf.tm p 1 : Nat)) ∧ w = w' := by
  have H := Lib.hid (Gf.tm_one hp)
  go_enter Try.func100, Try.ntmps100
  go_wp2
  go_ret
  exact ⟨ret_int (by rw [H.out]), rfl⟩
theorem twice_tm (p : Nat) (hp : p < 256) (w : World) :
    Calls Try.prog 79 #[.int .u8 p] w fun e w' => e = .returned (.int .u8 (Gf.tm p 2 : Nat)) ∧ w = w' :=
  (twice_any p hp w).mono fun _ _ ⟨he, hw⟩ => ⟨he.trans (ret_int (by rw [tm_two])), hw⟩
set_option maxHeartbeats 400000 in
theorem thrice_any (p : Nat) (hp : p < 256) (w : World) :
    Calls Try.prog 99 #[.int .u8 p] w fun e w' => e = .returned (.int .u8 (Gf.tm p 3 : Nat)) ∧ w = w' := by
  have hx := Gf.xt_lt hp
  have H := Lib.hid (xor8 hx hp)
  go_enter Try.func99, Try.ntmps99
  go_wp2_with (go_at_call 79; refine (twice_any p hp _).mono ?_; rintro e w' ⟨rfl, rfl⟩)
  go_ret
  exact ⟨ret_int (by rw [H.out, tm_three]), rfl⟩
/-- a function of a byte that gives so many times it -/
def Enters (f : FuncId) : Prop := ∀ (args : Array Value) (w : World), (callFunc f args).run Try.prog w = .ok (.enter f args) w
def Times (f : FuncId) (k : Nat) : Prop := ∀ (p : Nat), p < 256 → ∀ w : World, Calls Try.prog f #[.int .u8 p] w fun e w' => e = .returned (.int .u8 (Gf.tm p k : Nat)) ∧ w' = w
set_option maxHeartbeats 4000000 in
theorem lit_mix (f : FuncId) (q x j k i : Nat) (hj : j < 4) (hk : k < 4) (hi : i = (k + j) % 4) (hx : x < 256) (hf : Times f q) (hcf : Enters f) (b1 b2 b3 : Nat) (w : World)
    (h1 : w.cell? ⟨b1, j, none⟩ = some (.func (Fn.func f) #[] #[])) (h2 : w.cell? ⟨b2, i, none⟩ = some (.int .u8 x)) (h3 : w.cell? ⟨b3, 0, none⟩ = some (.int .i64 (k : Int))) :
    Calls Try.prog 102 #[.int .i64 (j : Int), .pointer (some ⟨b1, 0, none⟩), .pointer (some ⟨b2, 0, none⟩), .pointer (some ⟨b3, 0, none⟩)] w
      fun e w' => e = .returned (.int .u8 (Gf.tm x q : Nat)) ∧ ∃ n, w' = w.drewN n := by
  have HF := Lib.hid hf
  have e1 : IntKind.i64.wrap ((k : Int) + (j : Int)) = (k : Int) + (j : Int) := IntWalk.i64_in _ (by omega)
  have e2 : ((k : Int) + (j : Int)).tmod 4 = (i : Int) := by rw [Int.tmod_eq_emod_of_nonneg (by omega)]; omega
  have g1 : (i : Int) < 4 := by omega
  have g2 : (j : Int) < 4 := by omega
  unfold Enters at hcf
  clear hf hi hj hk
  go_enter Try.func102, Try.ntmps102
  go_wp2
  go_quiet ((exact Calls.quiet_of_same (HF.out x hx _)))
  go_wp2
  go_ret
  exact ⟨rfl, ⟨_, rfl⟩⟩

/-- the sum of so many products: byte number k and those behind it, each by its own factor -/
def mixS (C fac : Nat → Nat) (k : Nat) : Nat → Nat
  | 0 => 0
  | n + 1 => mixS C fac k n ^^^ Gf.tm (C ((k + n) % 4)) (fac n)
theorem mixS_lt {C fac : Nat → Nat} (hC : ∀ i, C i < 256) (k : Nat) : ∀ n, mixS C fac k n < 256 := by
  intro n
  induction n with
  | zero => simp [mixS]
  | succ n ih => exact Gf.xor_lt ih (Gf.tm_lt (hC _))
def MixRel (w : World) (C fac : Nat → Nat) (k : Nat) (o v : Value) (wr : World) : Prop :=
  ∃ n m : Nat, o = .int .u8 ((mixS C fac k n : Nat) : Int) ∧ v = .int .i64 (n : Int) ∧ n ≤ 4 ∧ wr = w.drewN m
theorem mix_step {w : World} {C fac : Nat → Nat} {k n m : Nat} (hC : ∀ i, C i < 256) (hn : n < 4) :
    MixRel w C fac k (.int .u8 (bits BinOp.xor IntKind.u8 ((mixS C fac k n : Nat) : Int) ((Gf.tm (C ((k + n) % 4)) (fac n) : Nat) : Int))) (.int .i64 ((n : Int) + 1)) (w.drewN m) :=
  ⟨n + 1, m, by rw [xor8 (mixS_lt hC k n) (Gf.tm_lt (hC _))]; rfl, rfl, by omega, rfl⟩
set_option maxHeartbeats 1000000 in
theorem sum_mix (fid : Nat → FuncId) (C fac : Nat → Nat) (k : Nat) (hk : k < 4) (hC : ∀ i, C i < 256) (hT : ∀ j, j < 4 → Times (fid j) (fac j) ∧ Enters (fid j)) (b1 b2 b3 : Nat) (w : World)
    (h1 : ∀ j, j < 4 → w.cell? ⟨b1, j, none⟩ = some (.func (Fn.func (fid j)) #[] #[])) (h2 : ∀ i, i < 4 → w.cell? ⟨b2, i, none⟩ = some (.int .u8 ((C i : Nat) : Int))) (h3 : w.cell? ⟨b3, 0, none⟩ = some (.int .i64 (k : Int))) :
    Calls Try.prog 45 #[.int .i64 4, .func (Fn.func 102) #[] #[.pointer (some ⟨b1, 0, none⟩), .pointer (some ⟨b2, 0, none⟩), .pointer (some ⟨b3, 0, none⟩)]] w
      fun e w' => e = .returned (.int .u8 ((mixS C fac k 4 : Nat) : Int)) ∧ ∃ n, w' = w.drewN n := by
  have H1 := Lib.hid h1
  have H2 := Lib.hid h2
  have H3 := Lib.hid h3
  have HC := Lib.hid hC
  have HT := Lib.hid hT
  clear h1 h2 h3 hC hT
  go_enter Try.func45, Try.ntmps45
  go_wp2
  go_loopw [5, 8] (fun o v wr => MixRel w C fac k o v wr) (fun _ v _ => (4 - intOf v).toNat)
  case atStart => exact ⟨0, 0, rfl, rfl, by omega, rfl⟩
  case round =>
    obtain ⟨n, m, rfl, rfl, hn, hw⟩ := hrel
    subst hw
    by_cases hlt : n < 4
    · have HS : Hid (∀ m, MixRel w C fac k (.int .u8 (bits BinOp.xor IntKind.u8 ((mixS C fac k n : Nat) : Int) ((Gf.tm (C ((k + n) % 4)) (fac n) : Nat) : Int))) (.int .i64 ((n : Int) + 1)) (w.drewN m)) := Lib.hid (fun m => mix_step HC.out hlt)
      have HL : Hid (∀ W : World, (∃ q, W = w.drewN q) → Calls Try.prog 102 #[.int .i64 (n : Int), .pointer (some ⟨b1, 0, none⟩), .pointer (some ⟨b2, 0, none⟩), .pointer (some ⟨b3, 0, none⟩)] W
          fun e w' => e = .returned (.int .u8 (Gf.tm (C ((k + n) % 4)) (fac n) : Nat)) ∧ ∃ q, w' = w.drewN q) := Lib.hid (by
        rintro W ⟨q, rfl⟩
        refine (lit_mix (fid n) (fac n) (C ((k + n) % 4)) n k _ hlt hk rfl (HC.out _) (HT.out n hlt).1 (HT.out n hlt).2 b1 b2 b3 (w.drewN q) (by exact H1.out n hlt) (by exact H2.out _ (Nat.mod_lt _ (by omega))) (by exact H3.out)).mono ?_
        rintro e w' ⟨he, p, rfl⟩
        exact ⟨he, _, World.drewN_drewN _ _ _⟩)
      go_wp2_with fail
      refine (HL.out _ ⟨_, rfl⟩).mono ?_
      rintro e w' ⟨rfl, q, rfl⟩
      generalize Gf.tm (C ((k + n) % 4)) (fac n) = x at *
      generalize mixS C fac k n = y at *
      go_wp2
      go_roundw
      case rel => exact HS.out _
      case measure => simp [intOf]; omega
    · obtain rfl : n = 4 := by omega
      go_wp2
      go_ret
      exact ⟨rfl, _, rfl⟩
end Go.Proofs.Ythjpaligpojlnaa
