/-
  Joined: SeA, Rnd, SeB, SeC.
-/
import Derived.RangeFuncNested
import Derived.RangeFuncBound
import Derived.RangeFuncCalls
import Derived.RangeFuncLeaves
import Derived.Shelf.Abstract
import Derived.Shelf.RegionOpen
import Derived.WalkKit
import Derived.OwnWalkIn
import Derived.TacticsInMore
import Derived.LoopNIn
import Derived.LoopIn
import Derived.Test.YthjpaligpojlnaaAesS
import Derived.Test.YthjpaligpojlnaaCtrB
import Derived.Test.YthjpaligpojlnaaSeM
import Derived.OrdersHeld
import Derived.OrdersIn
import Derived.Deep.RegionHeld3
import Derived.Test.YthjpaligpojlnaaSeX
import Derived.Test.YthjpaligpojlnaaStr
namespace Go.Proofs.Ythjpaligpojlnaa
set_option maxRecDepth 100000
section
open Go.RowKit Go.Shelf Go
set_option linter.unusedVariables false
attribute [local go_sem] Oper.semAt_some
attribute [local irreducible] Gf.inv Gf.tm Gf.pw Gf.spread Gf.sub Gf.boxAt Gf.bk Gf.rm Gf.bit
/-- all blocks below B but block ob lie as they lay -/
def Kept (B ob : Nat) (W W' : World) : Prop := W.heap.size ≤ W'.heap.size ∧ ∀ b, b < B → b ≠ ob → W'.heap[b]? = W.heap[b]?
theorem Kept.refl (B ob : Nat) (W : World) : Kept B ob W W := ⟨Nat.le_refl _, fun _ _ _ => rfl⟩
theorem Kept.trans {B ob : Nat} {A C D : World} (h : Kept B ob A C) (k : Kept B ob C D) : Kept B ob A D := ⟨Nat.le_trans h.1 k.1, fun b hb hne => (k.2 b hb hne).trans (h.2 b hb hne)⟩
theorem Kept.below {B ob : Nat} {A C : World} (h : Below B A C) : Kept B ob A C := ⟨h.size, fun b hb _ => h.block b hb⟩
theorem Kept.row {B ob g n : Nat} {t : TypeId} {f : Nat → Value} {W W' : World} (h : Kept B ob W W') (hr : Row W g t f n) (hg : g < B) (hne : g ≠ ob) : Row W' g t f n := (h.2 g hg hne).trans hr
theorem Kept.boxed {B ob g : Nat} {t : TypeId} {v : Value} {W W' : World} (h : Kept B ob W W') (hr : Boxed W g t v) (hg : g < B) (hne : g ≠ ob) : Boxed W' g t v := (h.2 g hg hne).trans hr
theorem Kept.cip {B ob g N : Nat} {ks : List Nat} {W W' : World} (h : Kept B ob W W') (hr : CipS W g N ks) (hg : g < B) (hne : g ≠ ob) : CipS W' g N ks := hr.keep (h.2 g hg hne)
theorem ctrL_byte (e b l i : Nat) : (ctrL e b l).getD i 0 < 256 := by
  by_cases hi : i < 16
  · rw [ctrL_at e b l i hi]
    split
    · omega
    · split
      · omega
      · split <;> omega
  · rw [List.getD_eq_getElem?_getD, List.getElem?_eq_none (by rw [ctrL_len]; omega)]; simp
/-- a lane's sixteen bytes -/
def lane (ks : List Nat) (N e b q : Nat) : List Nat := Aes.enc Gf.sub ks N (ctrL e b q)
def upto (n : Nat) : List Nat := List.range n
abbrev encL (ks : List Nat) (N e b : Nat) (q : Nat) : Array Value := #[.int .i64 ((16 * q : Nat) : Int), .agg (rowV (bF (lane ks N e b q)) 16)]
/-- what the iterator has captured: the number, the function that encrypts, epoch and block, in boxes of their own -/
structure Lanes (W : World) (bn bf be bb n g e b : Nat) : Prop where
  n_ : Boxed W bn 3 (.int .i64 (n : Int))
  f_ : Boxed W bf 111 (.func (Fn.func 78) #[.pointer (some ⟨g, 0, none⟩)] #[])
  e_ : Boxed W be 31 (.int .u64 (e : Int))
  b_ : Boxed W bb 94 (.int .u32 (b : Int))
theorem Lanes.kept {B ob bn bf be bb n g e b : Nat} {W W' : World} (h : Lanes W bn bf be bb n g e b) (k : Kept B ob W W') (h1 : bn < B ∧ bn ≠ ob) (h2 : bf < B ∧ bf ≠ ob) (h3 : be < B ∧ be ≠ ob) (h4 : bb < B ∧ bb ≠ ob) : Lanes W' bn bf be bb n g e b :=
  ⟨k.boxed h.n_ h1.1 h1.2, k.boxed h.f_ h2.1 h2.2, k.boxed h.e_ h3.1 h3.2, k.boxed h.b_ h4.1 h4.2⟩
theorem below_d2 {w w1 w2 : World} (h1 : Below w.drew.heap.size w.drew w1) (h2 : Below w1.heap.size w1 w2) : Below w.heap.size w w2 := by
  have k1 : w.heap.size ≤ w1.heap.size := h1.size
  exact (((Below.refl w.heap.size w).drew).trans h1).trans (h2.mono k1)
def YOne (ok : Bool) (a b : Prop) : Prop := if ok = true then a else b
theorem yielded_one {en : Ending} {a b : Prop} (h : (en = .returned (.bool true) ∧ a) ∨ (en = .returned (.bool false) ∧ b)) : ∃ ok, en = .returned (.bool ok) ∧ YOne ok a b := by
  rcases h with ⟨rfl, h⟩ | ⟨rfl, h⟩
  · exact ⟨true, rfl, by unfold YOne; rw [if_pos rfl]; exact h⟩
  · exact ⟨false, rfl, by unfold YOne; rw [if_neg (by decide)]; exact h⟩
set_option maxRecDepth 100000 in
set_option maxHeartbeats 1000000 in
theorem lanes_in (n0 : Nat) (hn0 : 1 ≤ n0) (l B ob bn bf be bb n g N e b : Nat) (ks : List Nat) (he : e < 2 ^ 64) (hb : b < 4294967296) (hn : n ≤ 65536)
    (h1 : bn < B ∧ bn ≠ ob) (h2 : bf < B ∧ bf ≠ ob) (h3 : be < B ∧ be ≠ ob) (h4 : bb < B ∧ bb ≠ ob) (hg : g < B ∧ g ≠ ob) (J Jx : List Nat → World → Prop)
    (hY : ∀ pre x W, 16 * x < n → J pre W → pre.length < (n + 15) / 16 → YieldAt Fence.wide (n0 - 1) Try.prog l (encL ks N e b x) W fun en W' =>
      (en = .returned (.bool true) ∧ J (pre ++ [x]) W' ∧ Kept B ob W W') ∨ (en = .returned (.bool false) ∧ Jx (pre ++ [x]) W'))
    (W : World) (hJ : AbidesFrom W.heap.size J) (hB : B ≤ W.heap.size) (hL : Lanes W bn bf be bb n g e b) (hC : CipS W g N ks) (hks : ∀ j, ks.getD j 0 < 256) (hN : 1 ≤ N ∧ N ≤ 14) (h0 : J [] W) :
    CallsIn Fence.wide n0 Try.prog 81 #[.func (.yield l) #[] #[], .pointer (some ⟨bn, 0, none⟩), .pointer (some ⟨bf, 0, none⟩), .pointer (some ⟨be, 0, none⟩), .pointer (some ⟨bb, 0, none⟩)] W fun en W' => (∃ v, en = .returned v) ∧
      ((∃ ys, ys = upto ((n + 15) / 16) ∧ J ys W') ∨ (∃ pre, (∃ k, k ≤ (n + 15) / 16 ∧ pre = upto k) ∧ Jx pre W')) := by
  refine callsIn_of_wp Try.func81 rfl trivial ?_ rfl
  simp only [Try.ntmps81, List.size_toArray, List.length_cons, List.length_nil, Nat.reduceAdd, Nat.reduceSub, Array.replicate_succ, Array.replicate_zero, List.push_toArray, List.append_toArray, List.nil_append, List.cons_append]
  gi_wp2
  gi_loopw [6] (fun v wr => ∃ q m : Nat, m = 16 * q ∧ v = .int .i64 (m : Int) ∧ q ≤ (n + 15) / 16 ∧ J (upto q) wr ∧ Kept B ob W wr) (fun v _ => (n + 16 - (intOf v).toNat))
  case atStart => exact ⟨0, 0, rfl, rfl, Nat.zero_le _, h0, Kept.refl _ _ _⟩
  case round =>
    obtain ⟨q, m, hm, rfl, hq, hJs, hk⟩ := hrel
    have hLw := hL.kept hk h1 h2 h3 h4
    have hCw : CipS wr g N ks := hk.cip hC hg.1 hg.2
    have cn := hLw.n_.cell
    have cf := hLw.f_.cell
    have ce := hLw.e_.cell
    have cb := hLw.b_.cell
    have HK := Lib.hid hk
    have HC := Lib.hid hCw
    by_cases hlt : m < n
    · have hq2 : q < (n + 15) / 16 := by omega
      have hq3 : q < 4096 := by omega
      have hmx : Try.prog.follows .mixedOrders = true := by kernel_rfl
      have q1 : (m : Int) / 16 = (q : Int) := by omega
      have q2 : (q : Int) % 65536 = (q : Int) := by omega
      have q3 : (m : Int).tdiv 16 = (q : Int) := by rw [Int.tdiv_eq_ediv_of_nonneg (by omega)]; omega
      have w1 : IntKind.i64.wrap (q : Int) = (q : Int) := IntWalk.i64_in _ (by omega)
      have w2 : IntKind.u16.wrap (q : Int) = (q : Int) := by simp [IntKind.wrap, IntKind.signed, IntKind.bits]; omega
      have f1 : Fence.wide.fn 82 := trivial
      have f2 : Fence.wide.fn 78 := trivial
      have HM := Lib.hid hm
      have HQN : Hid (16 * q < n) := Lib.hid (by omega)
      have HCT := Lib.hid (fun W => counter_any e b q he hb (by omega) W)
      have hltI : (m : Int) < (n : Int) := by omega
      have HOKC : Hid (Aes.Ok (ctrL e b q)) := Lib.hid ⟨ctrL_len _ _ _, ctrL_byte e b q⟩
      have hJ1 : ∀ w2, Below wr.heap.size wr w2 → J (upto q) w2 := fun w2 h => hJ _ _ _ none hJs ⟨h.os, h.tape, h.output, h.size, fun k hk _ => h.block k hk⟩ (fun r e => by cases e)
      have HJ1 := Lib.hid hJ1
      have HCIP : Hid (∀ w2, Below wr.drew.heap.size wr.drew w2 → Cip w2 g N ks) := Lib.hid (fun w2 h => (HC.out.next ((Below.refl wr.heap.size wr).drew.trans h)).cip hks hN)
      have HYY := Lib.hid hY
      have HBR : B ≤ wr.heap.size := Nat.le_trans hB HK.out.1
      have HBFL : Hid (bf < wr.drew.heap.size) := Lib.hid (Nat.lt_of_lt_of_le h2.1 HBR)
      clear hm hk hCw hJ1 hJs hY
      gi_wp2
      gi_region_with_o (first
        | (gi_at_call 82; refine (callsIn_wide.2 (HCT.out _)).mono ?_; rintro e1 w1 ⟨rfl, hb1⟩; have cf1 := (Below.cell (p := ⟨bf, 0, none⟩) hb1 HBFL.out).trans cf)
        | (gi_at_call 78; refine (callsIn_wide.2 (encrypt_any g N ks (ctrL e b q) _ (HCIP.out _ hb1) HOKC.out)).mono ?_; rintro e2 w2 ⟨rfl, hb2⟩; obtain ⟨fn, tmps, assign, body, hy, hR⟩ := HYY.out (upto q) q w2 HQN.out (HJ1.out w2 (below_d2 hb1 hb2)) (by simp [upto]; omega); unfold encL lane at hy; rw [← HM.out] at hy)
        | (refine hR.mono ?_; rintro e3 w3 h3; obtain ⟨ok3, rfl, h4⟩ := yielded_one h3))
      all_goals
        have hk2 : Kept B ob wr w2 := Kept.below ((below_d2 hb1 hb2).mono HBR)
        cases ok3
        · have h5 : Jx (upto q ++ [q]) w3 := h4
          have H5 := Lib.hid h5
          clear h4 h5 hk2 cf1
          gi_wp2
          refine bodyPost_ret (results_none rfl _ _ _) rfl ?_
          exact ⟨⟨_, rfl⟩, .inr ⟨upto q ++ [q], ⟨q + 1, by omega, (List.range_succ).symm⟩, H5.out⟩⟩
        · have h5 : J (upto q ++ [q]) w3 ∧ Kept B ob w2 w3 := h4
          have H5 := Lib.hid h5
          have HK3 := Lib.hid ((HK.out.trans hk2).trans h5.2)
          clear h4 h5 hk2 cf1
          gi_wp2
          go_roundw
          case rel => exact ⟨q + 1, m + 16, by have := HM.out; omega, by go_num, by omega, by have := H5.out.1; unfold upto at *; rw [List.range_succ]; exact this, HK3.out⟩
          case measure => simp [intOf]; omega
    · have hqe : q = (n + 15) / 16 := by omega
      have hltI : ¬ (m : Int) < (n : Int) := by omega
      have HQE := Lib.hid hqe
      have HJS := Lib.hid hJs
      clear hqe hm hk hCw hJs hY
      gi_wp2
      go_end0
      first | exact ⟨⟨_, rfl⟩, .inl ⟨_, by rw [HQE.out], HJS.out⟩⟩ | exact ⟨⟨_, rfl⟩, .inl (by rw [← HQE.out]; exact HJS.out)⟩
end
section
open Go Go.RowKit
set_option linter.unusedVariables false
section
variable {P : Program} {ops : Array Oper} {Q : Exit → Act → World → Prop} {n l : Nat}
theorem rowsIn_wide {row : String} {args : Array Value} {w : World} {R : Value → World → Prop} (h : Rows P row args w R) : RowsIn (Fence.wide.inRound l) n P row args w R :=
  fun c cs _ => let ⟨v, w', r, s⟩ := h c cs; ⟨v, w', r, stepsIn_wide.2 s⟩
theorem oper_round {o : Oper} {a : Act} {w : World} {K : Act → World → Prop} (hd : ∀ c, o.op ≠ .defer c) (h : o.wp P a w K Q) : o.wpIn (Fence.wide.inRound l) n P a w K Q := by
  refine ⟨fun _ _ => trivial, ?_⟩
  show o.uponIn (Fence.wide.inRound l) n P a K Q ((o.semAt (some l) a.eval).run P w)
  rw [Oper.semAt_some _ _ _ hd]
  unfold Oper.wp at h
  generalize (execOp a.eval o).run P w = r at *
  cases r with
  | ok x w' =>
    cases x with
    | value v => exact h
    | skip => exact h
    | defer d => exact h
    | enter f args => exact ⟨(fun h => by cases h), (callsIn_wide.2 h).inRound l⟩
    | row r args => exact ⟨(fun h => by cases h), rowsIn_wide h⟩
    | _ => exact h.elim
  | halt x w' => cases x <;> exact h
theorem ops_round (hd : ∀ o ∈ ops.toList, ∀ c, o.op ≠ .defer c) (hno : ∀ a w, ¬ Q .outgrown a w) : ∀ (is : List Nat) (a : Act) (w : World), wpOps P ops Q is a w → wpOpsIn (Fence.wide.inRound l) n P ops Q is a w := by
  intro is
  induction is with
  | nil => intro a w h; exact h
  | cons i is ih =>
    intro a w h
    unfold wpOps at h
    unfold wpOpsIn
    cases ho : ops[i]? with
    | none => rw [ho] at h; exact ih _ _ h
    | some o =>
      rw [ho] at h
      simp only at h ⊢
      have hm : o ∈ ops.toList := by
        have := Array.mem_of_getElem? ho
        simpa using this
      by_cases hw : Region.wanted o (yielded ops a.tmps) = true
      · rw [if_pos hw] at h ⊢
        rcases h with h | ⟨_, a', w', h⟩
        · exact Oper.wpIn_mono (fun a w h => ih a w h) (oper_round (hd o hm) h)
        · exact absurd h (hno a' w')
      · rw [if_neg hw] at h ⊢
        exact ⟨fun _ _ => trivial, ih _ _ h⟩
theorem region_round {id : Nat} {a : Act} {w : World} {L : List Oper} (hd : ∀ o ∈ L, ∀ c, o.op ≠ .defer c) (hno : ∀ a w, ¬ Q .outgrown a w) (h : wpList P L.toArray Q L a w) : (Code.region id L.toArray false).wpIn (Fence.wide.inRound l) n P Q a w :=
  wpIn_region (ops_round (by simpa using hd) hno _ _ _ (by
    rw [List.range_eq_range', ← Array.length_toList, wpOps_eq_wpList L.toArray.toList 0 (by simp)]
    simpa using h))
theorem region_round_held {id : Nat} {a : Act} {w : World} {S : World → Prop} (hm : P.follows .mixedOrders = true) (hd : ∀ o ∈ ops.toList, ∀ c, o.op ≠ .defer c) (hno : ∀ a w, ¬ Q .outgrown a w) (hS : S w.drew)
    (h : S w.drew → wpAnyH P .any ops Q S ops.size (Array.replicate ops.size false) a w.drew) : (Code.region id ops true).wpIn (Fence.wide.inRound l) n P Q a w :=
  wpIn_region_draw fun t => by
    simp only [Region.schedule, hm, Bool.true_or, if_true]
    exact ops_round hd hno _ _ _ (wpAny_sound ops.size t _ a _ (wpAny_of_held _ _ _ _ (h hS)))
end
end
section
open Go.RowKit Go.Shelf Go
set_option linter.unusedVariables false
set_option linter.unusedSimpArgs false
attribute [local go_sem] Oper.semAt_some
attribute [local irreducible] Gf.inv Gf.tm Gf.pw Gf.spread Gf.sub Gf.boxAt Gf.bk Gf.rm Gf.bit
theorem lanes_make (fid : FuncId) (g : Addr) (e b n : Int) (w : World) : Calls Try.prog 77 #[.func (Fn.func fid) #[.pointer (some g)] #[], .int .u64 e, .int .u32 b, .int .i64 n] w fun en w' =>
    en = .returned (.func (.func 81) #[] #[.pointer (some ⟨w.heap.size + 1 + 1 + 1, 0, none⟩), .pointer (some ⟨w.heap.size, 0, none⟩), .pointer (some ⟨w.heap.size + 1, 0, none⟩), .pointer (some ⟨w.heap.size + 1 + 1, 0, none⟩)]) ∧
      w' = (((w.alloc (.cells #[.func (Fn.func fid) #[.pointer (some g)] #[]] 111)).alloc (.cells #[.int .u64 e] 31)).alloc (.cells #[.int .u32 b] 94)).alloc (.cells #[.int .i64 n] 3) := by
  go_enter Try.func77, Try.ntmps77
  go_wp2
  go_ret
  exact ⟨rfl, rfl⟩
theorem stream_no (g : Value) (e b n : Int) (h : n < 1 ∨ 65536 < n) (w : World) : Calls Try.prog 66 #[g, .int .u64 e, .int .u32 b, .int .i64 n] w fun en w' => en = .returned (.slice none 0 0) ∧ w = w' := by
  rcases h with h | h
  · go_enter Try.func66, Try.ntmps66
    go_wp2
    go_ret
    exact ⟨rfl, rfl⟩
  · have h1 : ¬ n < 1 := by omega
    have h2 : (1 : Int) ≤ n := by omega
    go_enter Try.func66, Try.ntmps66
    go_wp2
    go_ret
    exact ⟨rfl, rfl⟩
abbrev Ix (n : Nat) := { q : Nat // 16 * q < n }
/-- a stream's bytes -/
def strm (ks : List Nat) (N e b i : Nat) : Nat := (lane ks N e b (i / 16)).getD (i % 16) 0
open Classical in
noncomputable def fillF (ks : List Nat) (N e b n : Nat) (pre : List (Ix n)) (i : Nat) : Value := u8 (if ∃ x ∈ pre, x.1 = i / 16 then strm ks N e b i else 0)
theorem lanes_stops (n0 : Nat) (hn0 : 1 ≤ n0) (B ob bn bf be bb n g N e b : Nat) (ks : List Nat) (he : e < 2 ^ 64) (hb : b < 4294967296) (hn : n ≤ 65536)
    (h1 : bn < B ∧ bn ≠ ob) (h2 : bf < B ∧ bf ≠ ob) (h3 : be < B ∧ be ≠ ob) (h4 : bb < B ∧ bb ≠ ob) (hg : g < B ∧ g ≠ ob) (w : World) (hB : B ≤ w.heap.size)
    (hL : Lanes w bn bf be bb n g e b) (hC : CipS w g N ks) (hks : ∀ j, ks.getD j 0 < 256) (hN : 1 ≤ N ∧ N ≤ 14) :
    SeqStopsK Fence.wide n0 Try.prog 81 #[.pointer (some ⟨bn, 0, none⟩), .pointer (some ⟨bf, 0, none⟩), .pointer (some ⟨be, 0, none⟩), .pointer (some ⟨bb, 0, none⟩)]
      (fun x : Ix n => encL ks N e b x.1) (Kept B ob) (fun xs => xs.map (·.1) = upto ((n + 15) / 16)) (fun _ => True) ((n + 15) / 16) w := fun l J Jx W hW hJ hJx hY h0 => by
  refine (lanes_in n0 hn0 l B ob bn bf be bb n g N e b ks he hb hn h1 h2 h3 h4 hg (fun pre W => ∃ p : List (Ix n), p.map (·.1) = pre ∧ J p W) (fun pre W => ∃ p : List (Ix n), p.map (·.1) = pre ∧ Jx p W)
    (fun pre x W1 hx ⟨p, hp, hj⟩ hlt => ?_) W ?_ (Nat.le_trans hB hW.size) ?_ ?_ hks hN ⟨[], rfl, h0⟩).mono ?_
  · obtain ⟨fn, tmps, assign, body, hy, hR⟩ := hY p ⟨x, hx⟩ W1 hj (by rw [← hp] at hlt; simpa using hlt)
    refine ⟨fn, tmps, assign, body, hy, hR.mono fun en W' h => ?_⟩
    rcases h with ⟨he, h2, h3⟩ | ⟨he, h2⟩
    · exact .inl ⟨he, ⟨p ++ [⟨x, hx⟩], by rw [List.map_append, hp]; rfl, h2⟩, h3⟩
    · exact .inr ⟨he, ⟨p ++ [⟨x, hx⟩], by rw [List.map_append, hp]; rfl, h2⟩⟩
  · rintro s A C row ⟨p, hp, hj⟩ hg hr
    exact ⟨p, hp, hJ p A C row hj hg hr⟩
  · have hk : Kept w.heap.size w.heap.size w W := Kept.below hW
    exact ⟨(hW.block bn (by omega)).trans hL.n_, (hW.block bf (by omega)).trans hL.f_, (hW.block be (by omega)).trans hL.e_, (hW.block bb (by omega)).trans hL.b_⟩
  · exact hC.below hW (by omega)
  · rintro en W' ⟨hv, ⟨ys, hys, p, hp, hj⟩ | ⟨pre, _, p, _, hj⟩⟩
    · exact ⟨hv, .inl ⟨p, by show p.map _ = _; rw [hp, hys], hj⟩⟩
    · exact ⟨hv, .inr ⟨p, trivial, hj⟩⟩
theorem step_copy_set {P : Program} {ops : Array Oper} {o : Oper} {a : Act} {w : World} {K : Act → World → Prop} {Q : Exit → Act → World → Prop} {E : Prop} (hgd : o.guard = none) (d s : Operand) (dT sT : TypeId)
    (ho : o.op = .call { callee := .builtin .copy, args := #[d, s], argTypes := #[dT, sT] }) (elem : TypeId) (hu : P.underlying dT = some (.slice elem)) (hsz : (P.info? elem).map (·.size) = some 1)
    (g off dLen dCap : Nat) (ad : Addr) (sLen sCap : Nat) (hd : a.eval d = .slice (some ⟨g, off, none⟩) dLen dCap) (hs : a.eval s = .slice (some ad) sLen sCap)
    (cur : Array Value) (t : TypeId) (hg : w.heap[g]? = some (.cells cur t (0, 0))) (cs : List Value) (hn : cs.length = Nat.min sLen dLen)
    (hsrc : ∀ j v, cs[j]? = some v → w.cell? (ad.add j) = some v) (hfit : off + cs.length ≤ cur.size) (h1 : ∀ v ∈ cs, v.oneCell' = true)
    (h : K (a.put o.dst (goInt cs.length)) (w.setRow g (cur.toList.take off ++ (cs ++ cur.toList.drop (off + cs.length))).toArray)) : if Region.wanted o (yielded ops a.tmps) = true then Oper.wp P o a w K Q else E := by
  have hw : Region.wanted o (yielded ops a.tmps) = true := by simp [Region.wanted, hgd]
  rw [if_pos hw]
  have hrun := run_copy_row (P := P) w dT sT o.type elem g off dLen dCap ad sLen sCap cur t cs hu hsz hg hn hsrc hfit h1
  unfold Oper.wp
  simp [execOp, ho, resolve, invoke, builtin, hd, hs, hrun, Result.andThen]
  exact h
theorem fill_next (ks : List Nat) (N e b n : Nat) (pre : List (Ix n)) (x : Ix n) (k : Nat) (hk : k = min 16 (n - 16 * x.1)) :
    ((rowV (fillF ks N e b n pre) n).toList.take (16 * x.1) ++ (bvals ((lane ks N e b x.1).take k) ++ (rowV (fillF ks N e b n pre) n).toList.drop (16 * x.1 + (bvals ((lane ks N e b x.1).take k)).length))).toArray = rowV (fillF ks N e b n (pre ++ [x])) n := by
  have hxl := x.2
  have hll : (lane ks N e b x.1).length = 16 := by unfold lane Aes.enc; exact Aes.tab_len _
  have hkl : (bvals ((lane ks N e b x.1).take k)).length = k := by rw [bvals_len, List.length_take, hll]; omega
  have hz : (rowV (fillF ks N e b n pre) n).toList.length = n := by simp [rowV_size]
  apply rowV_ext
  · simp only [List.size_toArray, List.length_append, List.length_take, List.length_drop, hkl, hz]; omega
  · intro i hi
    rw [List.getElem?_toArray, hkl]
    have hta : ((rowV (fillF ks N e b n pre) n).toList.take (16 * x.1)).length = 16 * x.1 := by rw [List.length_take, hz]; omega
    have hr : (rowV (fillF ks N e b n pre) n).toList[i]? = some (fillF ks N e b n pre i) := by
      have := rowV_at (fillF ks N e b n pre) hi
      simpa using this
    by_cases c1 : i < 16 * x.1
    · rw [List.getElem?_append_left (by omega), List.getElem?_take_of_lt c1, hr]
      unfold fillF
      congr 2
      have : (∃ y ∈ pre ++ [x], y.1 = i / 16) ↔ (∃ y ∈ pre, y.1 = i / 16) := by
        constructor
        · rintro ⟨y, hy, he⟩
          rcases List.mem_append.mp hy with h | h
          · exact ⟨y, h, he⟩
          · obtain rfl := List.mem_singleton.mp h; omega
        · rintro ⟨y, hy, he⟩; exact ⟨y, List.mem_append_left _ hy, he⟩
      by_cases hp : ∃ y ∈ pre, y.1 = i / 16
      · rw [if_pos hp, if_pos (this.mpr hp)]
      · rw [if_neg hp, if_neg (fun h => hp (this.mp h))]
    · by_cases c2 : i < 16 * x.1 + k
      · rw [List.getElem?_append_right (by omega), hta, List.getElem?_append_left (by omega)]
        have hj : i - 16 * x.1 < 16 := by omega
        unfold fillF bvals
        rw [if_pos ⟨x, by simp, by omega⟩, List.getElem?_map, List.getElem?_take_of_lt (by omega), List.getElem?_eq_getElem (by omega)]
        unfold strm u8
        have e1 : i / 16 = x.1 := by omega
        have e2 : i % 16 = i - 16 * x.1 := by omega
        rw [e1, e2, List.getD_eq_getElem?_getD, List.getElem?_eq_getElem (by omega)]
        rfl
      · rw [List.getElem?_append_right (by omega), hta, List.getElem?_append_right (by omega), hkl, List.getElem?_drop, show 16 * x.1 + k + (i - 16 * x.1 - k) = i by omega, hr]
        unfold fillF
        congr 2
        have : (∃ y ∈ pre ++ [x], y.1 = i / 16) ↔ (∃ y ∈ pre, y.1 = i / 16) := by
          constructor
          · rintro ⟨y, hy, he⟩
            rcases List.mem_append.mp hy with h | h
            · exact ⟨y, h, he⟩
            · obtain rfl := List.mem_singleton.mp h; omega
          · rintro ⟨y, hy, he⟩; exact ⟨y, List.mem_append_left _ hy, he⟩
        by_cases hp : ∃ y ∈ pre, y.1 = i / 16
        · rw [if_pos hp, if_pos (this.mpr hp)]
        · rw [if_neg hp, if_neg (fun h => hp (this.mp h))]
theorem fill_all (ks : List Nat) (N e b n : Nat) (xs : List (Ix n)) (h : xs.map (·.1) = upto ((n + 15) / 16)) : rowV (fillF ks N e b n xs) n = rowV (fun i => u8 (strm ks N e b i)) n := by
  refine rowV_congr fun i hi => ?_
  unfold fillF
  rw [if_pos]
  have hm : i / 16 ∈ xs.map (·.1) := by rw [h]; unfold upto; rw [List.mem_range]; omega
  obtain ⟨x, hx, he⟩ := List.mem_map.mp hm
  exact ⟨x, hx, he⟩
theorem fill_none (ks : List Nat) (N e b n : Nat) : zeros n = rowV (fillF ks N e b n []) n := rowV_ext (by simp [zeros]) fun i hi => by
  rw [zeros_at hi]
  unfold fillF
  rw [if_neg (by rintro ⟨y, hy, _⟩; cases hy)]; rfl
theorem kept_put {B ob : Nat} (W : World) (l : Nat) (o : Obj) (hl : B ≤ l) : Kept B ob W (W.putObj l o) :=
  ⟨(grownBy_putObj' W l o).size, fun b hb _ => World.putObj_heap_other (fun e => by omega)⟩
theorem row_ownFrom {β : Type} (B g n : Nat) (t : TypeId) (f : β → Nat → Value) : OwnFrom B (fun (s : β) W => Row W g t (f s) n) := fun s W W' row h hg hr =>
  (hg.block g h.lt (fun e => by
    obtain ⟨_, o, ho, hc⟩ := hr g e.symm
    have h' : W.heap[g]? = some (.cells (rowV (f s) n) t (0, 0)) := h
    rw [h'] at ho
    injection ho with ho
    subst ho
    cases hc)).trans h
theorem only_setRow' (w : World) (g : Nat) (cs : Array Value) : w.grownBy (w.setRow g cs) (some g) := only_setRow w g cs
def StPost (ks : List Nat) (N e b n : Nat) (w : World) (en : Ending) (w' : World) : Prop :=
  en = .returned (.slice (some ⟨w.heap.size, 0, none⟩) n n) ∧ Below w.heap.size w w' ∧ Row w' w.heap.size 5 (fun i => u8 (strm ks N e b i)) n
set_option maxRecDepth 100000 in
set_option maxHeartbeats 2000000 in
theorem stream_in (g N e b n : Nat) (ks : List Nat) (h1 : 1 ≤ n) (hn : n ≤ 65536) (he : e < 2 ^ 64) (hb : b < 4294967296) (w : World) (hC : CipS w g N ks) (hks : ∀ j, ks.getD j 0 < 256) (hN : 1 ≤ N ∧ N ≤ 14) :
    CallsIn Fence.wide 6 Try.prog 66 #[.pointer (some ⟨g, 0, none⟩), .int .u64 (e : Int), .int .u32 (b : Int), .int .i64 (n : Int)] w (StPost ks N e b n w) := by
  have hmk := make_bytes n (by omega)
  have hlo : ¬ (n : Int) < 1 := by omega
  have hlo' : (1 : Int) ≤ (n : Int) := by omega
  have hhi : (n : Int) ≤ 65536 := by omega
  have f1 : Fence.wide.fn 77 := trivial
  have hgl := hC.lt
  refine callsIn_of_wp_marks Try.func66 rfl trivial ?_ rfl
  simp only [Try.ntmps66, List.size_toArray, List.length_cons, List.length_nil, Nat.reduceAdd, Nat.reduceSub, Array.replicate_succ, Array.replicate_zero, List.push_toArray, List.append_toArray, List.nil_append, List.cons_append]
  have hdec : decide ((65536 : Int) < (n : Int)) = false := decide_eq_false (by omega)
  have e0 : ∀ o1, (w.alloc o1).heap.size = w.heap.size + 1 := fun _ => by simp
  have e1 : ∀ o1 o2, ((w.alloc o1).alloc o2).heap.size = w.heap.size + 1 + 1 := fun _ _ => by simp
  have e2 : ∀ o1 o2 o3, (((w.alloc o1).alloc o2).alloc o3).heap.size = w.heap.size + 1 + 1 + 1 := fun _ _ _ => by simp
  have e3 : ∀ o1 o2 o3 o4, ((((w.alloc o1).alloc o2).alloc o3).alloc o4).heap.size = w.heap.size + 1 + 1 + 1 + 1 := fun _ _ _ _ => by simp
  have e4 : ∀ o1 o2 o3 o4 o5, (((((w.alloc o1).alloc o2).alloc o3).alloc o4).alloc o5).heap.size = w.heap.size + 1 + 1 + 1 + 1 + 1 := fun _ _ _ _ _ => by simp
  have hw0 : ∃ W0, W0 = ((((((w.alloc (.cells (zeros n) 5)).alloc (.cells #[.slice (some ⟨w.heap.size, 0, none⟩) n n] 29)).alloc (.cells #[.func (Fn.func 78) #[.pointer (some ⟨g, 0, none⟩)] #[]] 111)).alloc (.cells #[.int .u64 (e : Int)] 31)).alloc (.cells #[.int .u32 (b : Int)] 94)).alloc (.cells #[.int .i64 (n : Int)] 3)) := ⟨_, rfl⟩
  obtain ⟨W0, hW0⟩ := hw0
  have hr0 : Row W0 w.heap.size 5 (fillF ks N e b n []) n := by
    have h := blk_alloc (blk_alloc (blk_alloc (blk_alloc (blk_alloc (heap_alloc_new w (.cells (zeros n) 5)) (.cells #[.slice (some ⟨w.heap.size, 0, none⟩) n n] 29)) (.cells #[.func (Fn.func 78) #[.pointer (some ⟨g, 0, none⟩)] #[]] 111)) (.cells #[.int .u64 (e : Int)] 31)) (.cells #[.int .u32 (b : Int)] 94)) (.cells #[.int .i64 (n : Int)] 3)
    rw [hW0]
    unfold Row
    rw [← fill_none]
    exact h
  have hb1 : Boxed W0 (w.heap.size + 1) 29 (.slice (some ⟨w.heap.size, 0, none⟩) n n) := by
    have h := Boxed.new (w.alloc (.cells (zeros n) 5)) 29 (.slice (some ⟨w.heap.size, 0, none⟩) n n)
    rw [e0] at h
    rw [hW0]
    exact (((h.alloc _).alloc _).alloc _).alloc _
  have hlan : Lanes W0 (w.heap.size + 1 + 1 + 1 + 1 + 1) (w.heap.size + 1 + 1) (w.heap.size + 1 + 1 + 1) (w.heap.size + 1 + 1 + 1 + 1) n g e b := by
    rw [hW0]
    refine ⟨?_, ?_, ?_, ?_⟩
    · have h := Boxed.new (((((w.alloc (.cells (zeros n) 5)).alloc (.cells #[.slice (some ⟨w.heap.size, 0, none⟩) n n] 29)).alloc (.cells #[.func (Fn.func 78) #[.pointer (some ⟨g, 0, none⟩)] #[]] 111)).alloc (.cells #[.int .u64 (e : Int)] 31)).alloc (.cells #[.int .u32 (b : Int)] 94)) 3 (.int .i64 (n : Int))
      rw [e4] at h
      exact h
    · have h := Boxed.new ((w.alloc (.cells (zeros n) 5)).alloc (.cells #[.slice (some ⟨w.heap.size, 0, none⟩) n n] 29)) 111 (.func (Fn.func 78) #[.pointer (some ⟨g, 0, none⟩)] #[])
      rw [e1] at h
      exact ((h.alloc _).alloc _).alloc _
    · have h := Boxed.new (((w.alloc (.cells (zeros n) 5)).alloc (.cells #[.slice (some ⟨w.heap.size, 0, none⟩) n n] 29)).alloc (.cells #[.func (Fn.func 78) #[.pointer (some ⟨g, 0, none⟩)] #[]] 111)) 31 (.int .u64 (e : Int))
      rw [e2] at h
      exact (h.alloc _).alloc _
    · have h := Boxed.new ((((w.alloc (.cells (zeros n) 5)).alloc (.cells #[.slice (some ⟨w.heap.size, 0, none⟩) n n] 29)).alloc (.cells #[.func (Fn.func 78) #[.pointer (some ⟨g, 0, none⟩)] #[]] 111)).alloc (.cells #[.int .u64 (e : Int)] 31)) 94 (.int .u32 (b : Int))
      rw [e3] at h
      exact h.alloc _
  have hbw : Below w.heap.size w W0 := by
    rw [hW0]
    exact ((((((Below.refl _ _).alloc (Nat.le_refl _) _).alloc (by rw [e0]; omega) _).alloc (by rw [e1]; omega) _).alloc (by rw [e2]; omega) _).alloc (by rw [e3]; omega) _).alloc (by rw [e4]; omega) _
  have hsz : W0.heap.size = w.heap.size + 6 := by rw [hW0]; simp
  have hC0 := hC.next hbw
  gi_wp2_with (gi_at_call 77; refine (callsIn_wide.2 (lanes_make _ _ _ _ _ _)).mono ?_; rintro en w1 ⟨rfl, rfl⟩)
  rw [← hW0]
  clear hW0 e0 e1 e2 e3 e4
  generalize hobg : w.heap.size = ob at *
  refine wpIn_rangeFunc_ownH rfl (by omega) (gf := 81) (lb := #[.pointer (some ⟨ob + 1 + 1 + 1 + 1 + 1, 0, none⟩), .pointer (some ⟨ob + 1 + 1, 0, none⟩), .pointer (some ⟨ob + 1 + 1 + 1, 0, none⟩), .pointer (some ⟨ob + 1 + 1 + 1 + 1, 0, none⟩)]) rfl trivial (enters_of Try.func81 (by kernel_rfl) rfl)
    (lanes_stops 5 (by omega) W0.heap.size ob (ob + 1 + 1 + 1 + 1 + 1) (ob + 1 + 1) (ob + 1 + 1 + 1) (ob + 1 + 1 + 1 + 1) n g N e b ks he hb hn (by omega) (by omega) (by omega) (by omega) (by omega) W0 (Nat.le_refl _) hlan hC0 hks hN)
    (fun h k => h.trans k) (fun W l o o' hl _ _ _ => kept_put W l o' hl) (Below.refl _ _) (fun _ => rfl)
    (fun pre W => (Row W ob 5 (fillF ks N e b n pre) n ∧ Boxed W (ob + 1) 29 (.slice (some ⟨ob, 0, none⟩) n n)) ∧ (Below ob w W ∧ W0.heap.size ≤ W.heap.size))
    (fun _ _ _ => False)
    (OwnFrom.and (OwnFrom.and (row_ownFrom _ ob n 5 _) (Own.from (boxed_own _ _ _) _)) (OwnFrom.and (ownFrom_below (by omega) (by omega)) (fun s A C row h hg hr => Nat.le_trans h hg.size)))
    (fun _ _ _ _ _ hs _ _ => hs)
    ⟨⟨hr0, hb1⟩, hbw, Nat.le_refl _⟩
    (fun x a' W => ∃ Bx, W0.heap.size ≤ Bx ∧ Row W Bx 22 (bF (lane ks N e b x.1)) 16 ∧ a' = { tmps := #[.pointer (some ⟨g, 0, none⟩), .int .u64 (e : Int), .int .u32 (b : Int), .int .i64 (n : Int), undef, undef, undef, undef, .slice none 0 0, .pointer (some ⟨ob + 1, 0, none⟩), .int .i64 ((16 * x.1 : Nat) : Int), .pointer (some ⟨Bx, 0, none⟩), .int .i64 (n : Int), .bool false, .bool false, .int .i64 (n : Int), .bool false, .bool false, .int .i64 (n : Int), .slice (some ⟨ob, 0, none⟩) n n, .pointer (some ⟨g, 0, none⟩), .func (Fn.func 78) #[.pointer (some ⟨g, 0, none⟩)] #[], .int .u64 (e : Int), .int .u32 (b : Int), .int .i64 (n : Int), .func (Fn.func 81) #[] #[.pointer (some ⟨ob + 1 + 1 + 1 + 1 + 1, 0, none⟩), .pointer (some ⟨ob + 1 + 1, 0, none⟩), .pointer (some ⟨ob + 1 + 1 + 1, 0, none⟩), .pointer (some ⟨ob + 1 + 1 + 1 + 1, 0, none⟩)], .int .i64 ((16 * x.1 : Nat) : Int), .agg (rowV (bF (lane ks N e b x.1)) 16), undef, undef, undef, undef, undef, undef], defers := [] })
    (fun x a' _ X Y row hs hg hr => by obtain ⟨Bx, h1, h2, h3⟩ := hs; exact ⟨Bx, h1, row_ownFrom (β := Unit) W0.heap.size Bx 16 22 (fun _ => bF (lane ks N e b x.1)) () X Y row h2 hg hr, h3⟩)
    ?assign ?body ?done ?stop
  case assign =>
    rintro l pre x W K ⟨⟨hrW, hbW⟩, hBW, hsW⟩ hK
    refine wpIn_seq ?_
    refine region_round (by intro o ho c; simp at ho; subst ho; intro h; cases h) (fun _ _ h => h) ?_
    go_wp2
    refine region_round (by intro o ho c; simp at ho; rcases ho with rfl | rfl <;> intro h <;> cases h) (fun _ _ h => h) ?_
    have hz := zero16
    have HI := Lib.hid (info16 (lane ks N e b x.1))
    have HO := Lib.hid (one_row (lane ks N e b x.1) 16)
    have HZ : Hid ((rowV (bF z16) 16).size = (rowV (bF (lane ks N e b x.1)) 16).size) := Lib.hid (by rw [rowV_size, rowV_size])
    have hfx := setRow_heap (W.alloc (.cells (rowV (bF z16) 16) 22)) W.heap.size _ (rowV (bF (lane ks N e b x.1)) 16) _ _ (heap_alloc_new W _)
    have hwb : Below W.heap.size W ((W.alloc (.cells (rowV (bF z16) 16) 22)).setRow W.heap.size (rowV (bF (lane ks N e b x.1)) 16)) := below_setRow ((Below.refl _ _).alloc (Nat.le_refl _) _) (Nat.le_refl _) _
    have HFX := Lib.hid hfx
    have HWB := Lib.hid hwb
    clear hfx hwb
    go_wp2_with (with_reducible refine wpList_store_row rfl 22 (.tmp 11) (.tmp 27) rfl _ _ rfl rfl 22 _ (heap_alloc_new W _) HI.out HZ.out HO.out ?_)
    have hg : W.grownBy ((W.alloc (.cells (rowV (bF z16) 16) 22)).setRow W.heap.size (rowV (bF (lane ks N e b x.1)) 16)) none := ⟨HWB.out.os, HWB.out.tape, HWB.out.output, HWB.out.size, fun k hk _ => HWB.out.block k hk⟩
    exact hK _ _ (KeepsFrom.of_grownBy hg (fun j e => by cases e)) (Kept.below (HWB.out.mono hsW)) ⟨⟨Row.below hrW HWB.out hrW.lt, (HWB.out.block _ hbW.lt).trans hbW⟩, hBW.trans (HWB.out.mono (by omega)), Nat.le_trans hsW HWB.out.size⟩ ⟨W.heap.size, hsW, HFX.out, rfl⟩
  case body =>
    rintro l pre x a' W hl ⟨r, hr⟩ ⟨⟨hrW, hbW⟩, hBW, hsW⟩ ⟨Bx, hBx, hrx, rfl⟩ hlt
    refine wpIn_block ?_
    have hx := x.2
    have hfn := fill_next ks N e b n pre x (min 16 (n - 16 * x.1)) rfl
    generalize hmm : 16 * x.1 = m at *
    generalize hkk : min 16 (n - m) = k at *
    have hll : (lane ks N e b x.1).length = 16 := by unfold lane Aes.enc; exact Aes.tab_len _
    have hkl : (bvals ((lane ks N e b x.1).take k)).length = k := by rw [bvals_len, List.length_take, hll]; omega
    have hs1 : ∀ W, (Instr.slice 29 (.slice (some ⟨ob, 0, none⟩) n n) (some (.int .i64 (m : Int))) none none).run Try.prog W = .ok (.slice (some ⟨ob, m, none⟩) (n - m) (n - m)) W := fun W => by
      have h := run_cut (P := Try.prog) 29 5 Try.underlying29 size_u8 (some ⟨ob, 0, none⟩) n n m (by omega) W
      unfold cutA at h
      rw [if_neg (by omega)] at h
      simpa [Go.WideShapes.add_plain] using h
    have hs2 : ∀ W, (Instr.sliceAt 22 (.pointer (some ⟨Bx, 0, none⟩)) none none none).run Try.prog W = .ok (.slice (some ⟨Bx, 0, none⟩) 16 16) W := fun W => run_whole_arr 22 5 16 Try.underlying22 (by kernel_rfl) Bx 0 W
    have hwm : IntKind.i64.wrap (m : Int) = (m : Int) := IntWalk.i64_in _ (by omega)
    have HKN : Hid ((bvals ((lane ks N e b x.1).take k)).length = Nat.min 16 (n - m)) := Lib.hid (by rw [hkl]; exact hkk.symm)
    have HSRC : Hid (∀ j v, (bvals ((lane ks N e b x.1).take k))[j]? = some v → W.drew.cell? ((⟨Bx, 0, none⟩ : Addr).add j) = some v) := Lib.hid (fun j v hj => by
      have hjl : j < k := by
        have := (List.getElem?_eq_some_iff.mp hj).1
        omega
      rw [Go.WideShapes.add_plain, Nat.zero_add]
      have h1 : W.drew.cell? ⟨Bx, j, none⟩ = some (bF (lane ks N e b x.1) j) := Row.cell (show Row W.drew Bx 22 (bF (lane ks N e b x.1)) 16 from hrx) (by omega)
      rw [h1, ← hj]
      simp [bvals, bF, u8, List.getElem?_map, List.getElem?_take_of_lt hjl, List.getElem?_eq_getElem (show j < (lane ks N e b x.1).length by omega), List.getD])
    have HFIT : Hid (m + (bvals ((lane ks N e b x.1).take k)).length ≤ (rowV (fillF ks N e b n pre) n).size) := Lib.hid (by rw [hkl, rowV_size]; omega)
    have HR1 : Hid (W.drew.heap[ob]? = some (.cells (rowV (fillF ks N e b n pre) n) 5 (0, 0))) := Lib.hid hrW
    have HFN := Lib.hid hfn
    have hgr : W.grownBy (W.drew.setRow ob (rowV (fillF ks N e b n (pre ++ [x])) n)) (some ob) := by
      let h := only_setRow W.drew ob (rowV (fillF ks N e b n (pre ++ [x])) n)
      exact ⟨h.os, h.tape, h.output, h.size, h.block⟩
    have HGR := Lib.hid hgr
    have HBX := Lib.hid (hgr.block (ob + 1) hbW.lt (fun e => by injection e with e; omega))
    have HB4 : Hid ((W.drew.setRow ob (rowV (fillF ks N e b n (pre ++ [x])) n)).cell? ⟨ob + 1, 0, none⟩ = some (.slice (some ⟨ob, 0, none⟩) n n)) := Lib.hid (Boxed.cell (t := 29) (HBX.out.trans hbW))
    have HBW := Lib.hid hbW
    have HROW := Lib.hid (setRow_heap W.drew ob _ (rowV (fillF ks N e b n (pre ++ [x])) n) _ _ HR1.out)
    have hS0 : W.drew.cell? ⟨ob + 1, 0, none⟩ = some (.slice (some ⟨ob, 0, none⟩) n n) := hbW.cell
    clear hfn hkl hll hkk hgr hrW hrx hbW hr
    have HMM := Lib.hid hmm
    clear hmm
    generalize rowV (bF (lane ks N e b x.1)) 16 = lx at *
    generalize hfnx : fillF ks N e b n (pre ++ [x]) = fnx at *
    have HFNX := Lib.hid hfnx
    clear hfnx
    generalize fillF ks N e b n pre = fpr at *
    refine region_round_held (S := fun W' => W'.cell? ⟨ob + 1, 0, none⟩ = some (.slice (some ⟨ob, 0, none⟩) n n)) (by kernel_rfl) (by intro o ho c; simp at ho; rcases ho with rfl | rfl | rfl | rfl | rfl <;> intro h <;> cases h) (fun _ _ h => h) hS0 (fun hHeld => ?_)
    refine wpAnyH_take (i := 0) (oi := _) (v := ?_) rfl (by kernel_rfl) (by kernel_rfl) (by kernel_rfl) (fun _ _ _ h => h) (Or.inl ⟨by rfl, ?_⟩) (by assumption) ?_
    rotate_left 1
    · intro w hSw
      (try dsimp only at hSw)
      (first | (go_simp; done) | (go_simp; with_reducible rfl))
    (try simp only [Act.put, List.getElem_toArray, List.getElem_cons_succ, List.getElem_cons_zero, List.setIfInBounds_toArray, List.set_cons_zero, List.set_cons_succ])
    refine wpAnyH_take (i := 1) (oi := _) (v := ?_) rfl (by kernel_rfl) (by kernel_rfl) (by kernel_rfl) (fun _ _ _ h => h) (Or.inl ⟨by rfl, ?_⟩) (by assumption) ?_
    rotate_left 1
    · intro w hSw
      (try dsimp only at hSw)
      (first | (go_simp; done) | (go_simp; with_reducible rfl))
    (try simp only [Act.put, List.getElem_toArray, List.getElem_cons_succ, List.getElem_cons_zero, List.setIfInBounds_toArray, List.set_cons_zero, List.set_cons_succ])
    refine wpAnyH_take (i := 2) (oi := _) (v := ?_) rfl (by kernel_rfl) (by kernel_rfl) (by kernel_rfl) (fun _ _ _ h => h) (Or.inl ⟨by rfl, ?_⟩) (by assumption) ?_
    rotate_left 1
    · intro w hSw
      (try dsimp only at hSw)
      (first | (go_simp; done) | (go_simp; with_reducible rfl))
    (try simp only [Act.put, List.getElem_toArray, List.getElem_cons_succ, List.getElem_cons_zero, List.setIfInBounds_toArray, List.set_cons_zero, List.set_cons_succ])
    refine wpAnyH_take (i := 3) (oi := _) (v := ?_) rfl (by kernel_rfl) (by kernel_rfl) (by kernel_rfl) (fun _ _ _ h => h) (Or.inl ⟨by rfl, ?_⟩) (by assumption) ?_
    rotate_left 1
    · intro w hSw
      (try dsimp only at hSw)
      (first | (go_simp; done) | (go_simp; with_reducible rfl))
    (try simp only [Act.put, List.getElem_toArray, List.getElem_cons_succ, List.getElem_cons_zero, List.setIfInBounds_toArray, List.set_cons_zero, List.set_cons_succ])
    refine wpAnyH_ready (rs := [4]) (by kernel_rfl) (by simp) ?_
    refine AllReadyH.cons (o := _) rfl (fun K hK => ?_) AllReadyH.nil
    refine step_copy_set rfl (.tmp 30) (.tmp 31) 29 29 rfl 5 Try.underlying29 size_u8 ob m (n - m) (n - m) ⟨Bx, 0, none⟩ 16 16 rfl rfl (rowV fpr n) 5 HR1.out (bvals ((lane ks N e b x.1).take k)) HKN.out HSRC.out HFIT.out (bvals_one _) ?_
    rw [HFN.out]
    refine hK.out _ _ ?_ (fun hHeld4 => ?_)
    · exact HB4.out
    clear hK K
    (try simp only [Act.put, List.getElem_toArray, List.getElem_cons_succ, List.getElem_cons_zero, List.setIfInBounds_toArray, List.set_cons_zero, List.set_cons_succ])
    refine wpAnyH_done (by kernel_rfl) ?_ _
    have hlt0 : ob < W0.heap.size := by omega
    exact ⟨KeepsFrom.of_grownBy HGR.out (fun j e => by injection e with e; omega), ⟨HGR.out.size, fun c hc hne => HGR.out.block c (by omega) (fun e => hne (Option.some.inj e))⟩, ⟨(by have h := HROW.out; rw [HFNX.out]; exact h), HBX.out.trans HBW.out⟩, below_only hBW (Nat.le_refl _) (by omega) HGR.out, Nat.le_trans hsW HGR.out.size⟩
  case done =>
    rintro D xs W hD hS ⟨⟨hrW, hbW⟩, hBW, hsW⟩ hK
    have cB := hbW.cell
    have hne : ob ≠ D := by omega
    have hfin : StPost ks N e b n w (.returned (.slice (some ⟨ob, 0, none⟩) n n)) (W.putObj D (.deferred none)) := by
      refine ⟨by rw [hobg], ?_, ?_⟩
      · rw [hobg]
        exact hBW.trans ((Below.refl ob W).grown (grownBy_putObj' W D _) (by omega) (fun k e => by injection e with e; omega))
      · rw [hobg]
        have h1 : Row W ob 5 (fun i => u8 (strm ks N e b i)) n := by unfold Row; rw [← fill_all ks N e b n xs hS]; exact hrW
        exact (World.putObj_heap_other hne).trans h1
    have HFIN := Lib.hid hfin
    clear hrW hbW hBW hsW hfin
    gi_wp2
    refine ⟨by simp, .inl ⟨_, _, rfl, run_takeDeferred hK, ?_⟩⟩
    exact ⟨_, results_tmp rfl _ _ _, by show StPost ks N e b n w (.returned (.slice (some ⟨ob, 0, none⟩) n n)) _; exact HFIN.out⟩
  case stop =>
    rintro D c pre W _ _ h _
    exact h.elim
end
section
open Go.RowKit Go
set_option linter.unusedVariables false
set_option linter.unusedSimpArgs false
attribute [local irreducible] Gf.inv Gf.tm Gf.pw Gf.spread Gf.sub Gf.boxAt Gf.bk Gf.rm Gf.bit
theorem nat_u32 {z : Int} (h : (Lit.int .u32 z).wf = true) : ∃ n : Nat, n < 4294967296 ∧ z = (n : Int) := by
  have := bounds_u32 h
  exact ⟨z.toNat, by omega, by omega⟩
/-- a slice of its own, of n bytes, that reads as l -/
def GivesTo (w : World) (n : Nat) (l : List Nat) (e : Ending) (w' : World) : Prop :=
  ∃ A c, e = .returned (.slice A n c) ∧ Below w.heap.size w w' ∧ BS w' w'.heap.size A n c l
/-- .. in a block that was not there -/
def GivesTn (w : World) (n : Nat) (l : List Nat) (e : Ending) (w' : World) : Prop :=
  ∃ A c, e = .returned (.slice A n c) ∧ Below w.heap.size w w' ∧ BS w' w'.heap.size A n c l ∧ ∀ ad, A = some ad → w.heap.size ≤ ad.block
theorem xor_to (A A2 : Option Addr) (n c n2 c2 k : Nat) (l l2 : List Nat) (w : World) (hs : BS w w.heap.size A n c l) (hs2 : BS w w.heap.size A2 n2 c2 l2) (hn : n ≤ 1000) (hn2 : n2 ≤ 1000) (hk : min n n2 = k) :
    Calls Try.prog 65 #[.slice A n c, .slice A2 n2 c2] w (GivesTn w k (xorL l l2)) :=
  (xor_new A A2 n c n2 c2 l l2 w hs hs2 hn hn2).mono fun _ _ ⟨A', c', he, hb, hx, hn⟩ => by
    have e : (xorL l l2).length = k := by rw [xorL_len, hs.len, hs2.len, hk]
    rw [e] at he hx
    exact ⟨A', c', he, hb, hx, hn⟩
def stmL (ks : List Nat) (N e b n : Nat) : List Nat := (List.range n).map (strm ks N e b)
theorem stmL_len (ks : List Nat) (N e b n : Nat) : (stmL ks N e b n).length = n := by simp [stmL]
theorem strm_byte {ks : List Nat} {N e b : Nat} (hks : ∀ j, ks.getD j 0 < 256) (i : Nat) : strm ks N e b i < 256 :=
  (Aes.ok_enc (fun c h => Gf.sub_lt h) hks ⟨ctrL_len e b (i / 16), fun j => ctrL_byte e b (i / 16) j⟩).byte _
theorem stmL_byte {ks : List Nat} {N e b n : Nat} (hks : ∀ j, ks.getD j 0 < 256) (i : Nat) : (stmL ks N e b n).getD i 0 < 256 := by
  unfold stmL
  rw [getD_map_range]
  split
  · exact strm_byte hks i
  · omega
theorem stream_bs (g N e b n : Nat) (ks : List Nat) (h1 : 1 ≤ n) (hn : n ≤ 65536) (he : e < 2 ^ 64) (hb : b < 4294967296) (w : World) (hC : CipS w g N ks) (hks : ∀ j, ks.getD j 0 < 256) (hN : 1 ≤ N ∧ N ≤ 14) :
    Calls Try.prog 66 #[.pointer (some ⟨g, 0, none⟩), .int .u64 (e : Int), .int .u32 (b : Int), .int .i64 (n : Int)] w (GivesTo w n (stmL ks N e b n)) :=
  (callsIn_wide.1 (stream_in g N e b n ks h1 hn he hb w hC hks hN)).mono fun en w' h => by
    refine ⟨_, _, h.1, h.2.1, BS.of_blk h.2.2 (Row.lt h.2.2) (stmL_len _ _ _ _ _) (Nat.le_refl _) (by omega) (fun i => stmL_byte hks i) (fun i hi => ?_)⟩
    rw [rowV_at _ hi]
    unfold stmL
    rw [getD_map_range, if_pos hi]
    rfl
set_option maxHeartbeats 1000000 in
theorem apply_any (g N e b n c : Nat) (A : Option Addr) (l ks : List Nat) (hn : n ≤ 300) (he : e < 2 ^ 64) (hb : b < 4294967296) (w : World) (hC : CipS w g N ks) (hks : ∀ j, ks.getD j 0 < 256) (hN : 1 ≤ N ∧ N ≤ 14) (hs : BS w w.heap.size A n c l) :
    Calls Try.prog 41 #[.pointer (some ⟨g, 0, none⟩), .int .u64 (e : Int), .int .u32 (b : Int), .slice A n c] w (GivesTn w n (xorL l (stmL ks N e b n))) := by
  rcases Nat.eq_zero_or_pos n with h0 | h0
  · subst h0
    have HX := Lib.hid (fun W (h : BS W W.heap.size A 0 c l) => xor_to A none 0 c 0 0 0 l [] W h (BS.nil _ _) (by omega) (by omega) rfl)
    have HS := Lib.hid hs
    have hl : stmL ks N e b 0 = [] := rfl
    rw [hl]
    have HN := Lib.hid (fun W => stream_no (.pointer (some ⟨g, 0, none⟩)) (e : Int) (b : Int) 0 (.inl (by omega)) W)
    clear hs hC hks hl
    go_enter Try.func41, Try.ntmps41
    go_wp2_with fail
    refine (HN.out _).mono ?_
    rintro en w1 ⟨rfl, rfl⟩
    go_wp2_with fail
    refine (HX.out _ HS.out).mono ?_
    rintro en w2 ⟨A2, c2, rfl, hb2, hx2, hn2⟩
    have HN2 := Lib.hid hn2
    clear hn2
    go_wp2
    go_ret
    exact ⟨_, _, rfl, hb2, hx2, HN2.out⟩
  · have HS := Lib.hid hs
    have HN := Lib.hid (stream_bs g N e b n ks h0 (by omega) he hb w hC hks hN)
    have HX := Lib.hid (fun A2 c2 W (h : BS W W.heap.size A n c l) (h2 : BS W W.heap.size A2 n c2 (stmL ks N e b n)) => xor_to A A2 n c n c2 n l _ W h h2 (by omega) (by omega) (Nat.min_self n))
    clear hs hC hks he hb
    generalize stmL ks N e b n = sl at *
    go_enter Try.func41, Try.ntmps41
    go_wp2_with fail
    refine HN.out.mono ?_
    rintro en w1 ⟨A1, c1, rfl, hb1, hx1⟩
    have HB1 := Lib.hid hb1
    have HS1 := Lib.hid ((HS.out.below hb1).more hb1.size)
    have HX1 := Lib.hid hx1
    clear hb1 hx1
    go_wp2_with fail
    refine (HX.out A1 c1 w1 HS1.out HX1.out).mono ?_
    rintro en w2 ⟨A2, c2, rfl, hb2, hx2, hn2⟩
    have HN2 := Lib.hid (fun ad q => Nat.le_trans HB1.out.size (hn2 ad q))
    clear hn2
    have HB2 := Lib.hid (HB1.out.trans (hb2.mono HB1.out.size))
    have HX2 := Lib.hid hx2
    clear hb2 hx2
    go_wp2
    go_ret
    exact ⟨_, _, rfl, HB2.out, HX2.out, HN2.out⟩
end
end Go.Proofs.Ythjpaligpojlnaa
