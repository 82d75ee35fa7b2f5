/-
  The lanes of a stream: the iterator's contract.
-/
import Derived.RangeFuncNested
import Derived.RangeFuncBound
import Derived.RangeFuncCalls
import Derived.RangeFuncLeaves
import Derived.Shelf.Abstract
import Derived.Shelf.RegionOpen
import Derived.WalkKit
import Derived.OwnWalkIn
import Derived.TacticsInMore
import Derived.LoopNIn
import Derived.LoopIn
import Derived.Test.YtimonlkelgpekaaAesS
import Derived.Test.YtimonlkelgpekaaCtrB
namespace Go.Proofs.Ytimonlkelgpekaa
open Go.RowKit Go.Shelf Go
set_option linter.unusedVariables false
attribute [local go_sem] Oper.semAt_some
attribute [local irreducible] Gf.inv Gf.tm Gf.pw Gf.spread Gf.sub Gf.boxAt Gf.bk Gf.rm Gf.bit
/-- all blocks below B but block ob lie as they lay -/
def Kept (B ob : Nat) (W W' : World) : Prop := W.heap.size ≤ W'.heap.size ∧ ∀ b, b < B → b ≠ ob → W'.heap[b]? = W.heap[b]?
theorem Kept.refl (B ob : Nat) (W : World) : Kept B ob W W := ⟨Nat.le_refl _, fun _ _ _ => rfl⟩
theorem Kept.trans {B ob : Nat} {A C D : World} (h : Kept B ob A C) (k : Kept B ob C D) : Kept B ob A D := ⟨Nat.le_trans h.1 k.1, fun b hb hne => (k.2 b hb hne).trans (h.2 b hb hne)⟩
theorem Kept.below {B ob : Nat} {A C : World} (h : Below B A C) : Kept B ob A C := ⟨h.size, fun b hb _ => h.block b hb⟩
theorem Kept.row {B ob g n : Nat} {t : TypeId} {f : Nat → Value} {W W' : World} (h : Kept B ob W W') (hr : Row W g t f n) (hg : g < B) (hne : g ≠ ob) : Row W' g t f n := (h.2 g hg hne).trans hr
theorem Kept.boxed {B ob g : Nat} {t : TypeId} {v : Value} {W W' : World} (h : Kept B ob W W') (hr : Boxed W g t v) (hg : g < B) (hne : g ≠ ob) : Boxed W' g t v := (h.2 g hg hne).trans hr
theorem ctrL_byte (e b l i : Nat) : (ctrL e b l).getD i 0 < 256 := by
  by_cases hi : i < 16
  · rw [ctrL_at e b l i hi]
    split
    · omega
    · split
      · omega
      · split <;> omega
  · rw [List.getD_eq_getElem?_getD, List.getElem?_eq_none (by rw [ctrL_len]; omega)]; simp
/-- a lane's sixteen bytes -/
def lane (ks : List Nat) (N e b q : Nat) : List Nat := Aes.enc Gf.sub ks N (ctrL e b q)
def upto (n : Nat) : List Nat := List.range n
abbrev encL (ks : List Nat) (N e b : Nat) (q : Nat) : Array Value := #[.int .i64 ((16 * q : Nat) : Int), .agg (rowV (bF (lane ks N e b q)) 16)]
/-- what the iterator has captured: the number, the function that encrypts, epoch and block, in boxes of their own -/
structure Lanes (W : World) (bn bf be bb n g e b : Nat) : Prop where
  n_ : Boxed W bn 3 (.int .i64 (n : Int))
  f_ : Boxed W bf 31 (.func (Fn.func 14) #[.pointer (some ⟨g, 0, none⟩)] #[])
  e_ : Boxed W be 46 (.int .u64 (e : Int))
  b_ : Boxed W bb 47 (.int .u32 (b : Int))
theorem Lanes.kept {B ob bn bf be bb n g e b : Nat} {W W' : World} (h : Lanes W bn bf be bb n g e b) (k : Kept B ob W W') (h1 : bn < B ∧ bn ≠ ob) (h2 : bf < B ∧ bf ≠ ob) (h3 : be < B ∧ be ≠ ob) (h4 : bb < B ∧ bb ≠ ob) : Lanes W' bn bf be bb n g e b :=
  ⟨k.boxed h.n_ h1.1 h1.2, k.boxed h.f_ h2.1 h2.2, k.boxed h.e_ h3.1 h3.2, k.boxed h.b_ h4.1 h4.2⟩
theorem below_d2 {w w1 w2 : World} (h1 : Below w.drew.heap.size w.drew w1) (h2 : Below w1.heap.size w1 w2) : Below w.heap.size w w2 := by
  have k1 : w.heap.size ≤ w1.heap.size := h1.size
  exact (((Below.refl w.heap.size w).drew).trans h1).trans (h2.mono k1)
def YOne (ok : Bool) (a b : Prop) : Prop := if ok = true then a else b
theorem yielded_one {en : Ending} {a b : Prop} (h : (en = .returned (.bool true) ∧ a) ∨ (en = .returned (.bool false) ∧ b)) : ∃ ok, en = .returned (.bool ok) ∧ YOne ok a b := by
  rcases h with ⟨rfl, h⟩ | ⟨rfl, h⟩
  · exact ⟨true, rfl, by unfold YOne; rw [if_pos rfl]; exact h⟩
  · exact ⟨false, rfl, by unfold YOne; rw [if_neg (by decide)]; exact h⟩
set_option maxRecDepth 100000 in
set_option maxHeartbeats 1000000 in
theorem lanes_in (n0 : Nat) (hn0 : 1 ≤ n0) (l B ob bn bf be bb n g N e b : Nat) (ks : List Nat) (he : e < 2 ^ 64) (hb : b < 4294967296) (hn : n ≤ 65536)
    (h1 : bn < B ∧ bn ≠ ob) (h2 : bf < B ∧ bf ≠ ob) (h3 : be < B ∧ be ≠ ob) (h4 : bb < B ∧ bb ≠ ob) (hg : g < B ∧ g ≠ ob) (J Jx : List Nat → World → Prop)
    (hY : ∀ pre x W, 16 * x < n → J pre W → pre.length < (n + 15) / 16 → YieldAt Fence.wide (n0 - 1) Try.prog l (encL ks N e b x) W fun en W' =>
      (en = .returned (.bool true) ∧ J (pre ++ [x]) W' ∧ Kept B ob W W') ∨ (en = .returned (.bool false) ∧ Jx (pre ++ [x]) W'))
    (W : World) (hJ : AbidesFrom W.heap.size J) (hB : B ≤ W.heap.size) (hL : Lanes W bn bf be bb n g e b) (hC : CipR W g N ks) (hks : ∀ j, ks.getD j 0 < 256) (hN : 1 ≤ N ∧ N ≤ 14) (h0 : J [] W) :
    CallsIn Fence.wide n0 Try.prog 62 #[.func (.yield l) #[] #[], .pointer (some ⟨bn, 0, none⟩), .pointer (some ⟨bf, 0, none⟩), .pointer (some ⟨be, 0, none⟩), .pointer (some ⟨bb, 0, none⟩)] W fun en W' => (∃ v, en = .returned v) ∧
      ((∃ ys, ys = upto ((n + 15) / 16) ∧ J ys W') ∨ (∃ pre, (∃ k, k ≤ (n + 15) / 16 ∧ pre = upto k) ∧ Jx pre W')) := by
  refine callsIn_of_wp Try.func62 rfl trivial ?_ rfl
  simp only [Try.ntmps62, List.size_toArray, List.length_cons, List.length_nil, Nat.reduceAdd, Nat.reduceSub, Array.replicate_succ, Array.replicate_zero, List.push_toArray, List.append_toArray, List.nil_append, List.cons_append]
  gi_wp2
  gi_loopw [6] (fun v wr => ∃ q m : Nat, m = 16 * q ∧ v = .int .i64 (m : Int) ∧ q ≤ (n + 15) / 16 ∧ J (upto q) wr ∧ Kept B ob W wr) (fun v _ => (n + 16 - (intOf v).toNat))
  case atStart => exact ⟨0, 0, rfl, rfl, Nat.zero_le _, h0, Kept.refl _ _ _⟩
  case round =>
    obtain ⟨q, m, hm, rfl, hq, hJs, hk⟩ := hrel
    have hLw := hL.kept hk h1 h2 h3 h4
    have hCw : CipR wr g N ks := hk.row hC hg.1 hg.2
    have cn := hLw.n_.cell
    have cf := hLw.f_.cell
    have ce := hLw.e_.cell
    have cb := hLw.b_.cell
    have HK := Lib.hid hk
    have HC := Lib.hid hCw
    by_cases hlt : m < n
    · have hq2 : q < (n + 15) / 16 := by omega
      have hq3 : q < 4096 := by omega
      have hmx : Try.prog.follows .mixedOrders = true := by kernel_rfl
      have q1 : (m : Int) / 16 = (q : Int) := by omega
      have q2 : (q : Int) % 65536 = (q : Int) := by omega
      have q3 : (m : Int).tdiv 16 = (q : Int) := by rw [Int.tdiv_eq_ediv_of_nonneg (by omega)]; omega
      have w1 : IntKind.i64.wrap (q : Int) = (q : Int) := IntWalk.i64_in _ (by omega)
      have w2 : IntKind.u16.wrap (q : Int) = (q : Int) := by simp [IntKind.wrap, IntKind.signed, IntKind.bits]; omega
      have f1 : Fence.wide.fn 48 := trivial
      have f2 : Fence.wide.fn 14 := trivial
      have HM := Lib.hid hm
      have HQN : Hid (16 * q < n) := Lib.hid (by omega)
      have HCT := Lib.hid (fun W => counter_any e b q he hb (by omega) W)
      have hltI : (m : Int) < (n : Int) := by omega
      have HOKC : Hid (Aes.Ok (ctrL e b q)) := Lib.hid ⟨ctrL_len _ _ _, ctrL_byte e b q⟩
      have hJ1 : ∀ w2, Below wr.heap.size wr w2 → J (upto q) w2 := fun w2 h => hJ _ _ _ none hJs ⟨h.os, h.tape, h.output, h.size, fun k hk _ => h.block k hk⟩ (fun r e => by cases e)
      have HJ1 := Lib.hid hJ1
      have HCIP : Hid (∀ w2, Below wr.drew.heap.size wr.drew w2 → Cip w2 g N ks) := Lib.hid (fun w2 h => (HC.out.next ((Below.refl wr.heap.size wr).drew.trans h)).cip hks hN)
      have HYY := Lib.hid hY
      have HBR : B ≤ wr.heap.size := Nat.le_trans hB HK.out.1
      have HBFL : Hid (bf < wr.drew.heap.size) := Lib.hid (Nat.lt_of_lt_of_le h2.1 HBR)
      clear hm hk hCw hJ1 hJs hY
      gi_wp2
      gi_region_with_o (first
        | (gi_at_call 48; refine (callsIn_wide.2 (HCT.out _)).mono ?_; rintro e1 w1 ⟨rfl, hb1⟩; have cf1 := (Below.cell (p := ⟨bf, 0, none⟩) hb1 HBFL.out).trans cf)
        | (gi_at_call 14; refine (callsIn_wide.2 (encrypt_any g N ks (ctrL e b q) _ (HCIP.out _ hb1) HOKC.out)).mono ?_; rintro e2 w2 ⟨rfl, hb2⟩; obtain ⟨fn, tmps, assign, body, hy, hR⟩ := HYY.out (upto q) q w2 HQN.out (HJ1.out w2 (below_d2 hb1 hb2)) (by simp [upto]; omega); unfold encL lane at hy; rw [← HM.out] at hy)
        | (refine hR.mono ?_; rintro e3 w3 h3; obtain ⟨ok3, rfl, h4⟩ := yielded_one h3))
      all_goals
        have hk2 : Kept B ob wr w2 := Kept.below ((below_d2 hb1 hb2).mono HBR)
        cases ok3
        · have h5 : Jx (upto q ++ [q]) w3 := h4
          have H5 := Lib.hid h5
          clear h4 h5 hk2 cf1
          gi_wp2
          refine bodyPost_ret (results_none rfl _ _ _) rfl ?_
          exact ⟨⟨_, rfl⟩, .inr ⟨upto q ++ [q], ⟨q + 1, by omega, (List.range_succ).symm⟩, H5.out⟩⟩
        · have h5 : J (upto q ++ [q]) w3 ∧ Kept B ob w2 w3 := h4
          have H5 := Lib.hid h5
          have HK3 := Lib.hid ((HK.out.trans hk2).trans h5.2)
          clear h4 h5 hk2 cf1
          gi_wp2
          go_roundw
          case rel => exact ⟨q + 1, m + 16, by have := HM.out; omega, by go_num, by omega, by have := H5.out.1; unfold upto at *; rw [List.range_succ]; exact this, HK3.out⟩
          case measure => simp [intOf]; omega
    · have hqe : q = (n + 15) / 16 := by omega
      have hltI : ¬ (m : Int) < (n : Int) := by omega
      have HQE := Lib.hid hqe
      have HJS := Lib.hid hJs
      clear hqe hm hk hCw hJs hY
      gi_wp2
      go_end0
      first | exact ⟨⟨_, rfl⟩, .inl ⟨_, by rw [HQE.out], HJS.out⟩⟩ | exact ⟨⟨_, rfl⟩, .inl (by rw [← HQE.out]; exact HJS.out)⟩
end Go.Proofs.Ytimonlkelgpekaa
