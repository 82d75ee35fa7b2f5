/-
  The two registers beside one another: what each call makes of the one, and leaves of the other.
-/
import Derived.Test.YtbanknppdgiflaaTrZ
import Derived.Test.YtbanknppdgiflaaRdC
import Derived.Test.YtbanknppdgiflaaRdD
namespace Go.Proofs.Ytbanknppdgiflaa
open Go.RowKit Go
set_option linter.unusedVariables false
set_option linter.unusedSimpArgs false
/-- the program's register and its device -/
structure PH (B t g b c : Nat) (l : List Nat) (off : Bool) (av : Value) (k : Nat) (al : List Value) (u : Int) (W : World) : Prop where
  tb : TrustB W t g (regF c l)
  dq : DevQ W g b 1 1 off av k al u (.slice none 0 0)
  cb : c < 2 ^ 64
  hav : av.ownBlock ≠ some t
  u0 : 0 ≤ u
  u1 : u ≤ 9223372036854775807
  bw : B ≤ b
  gt : g < t
  k0 : k = 0 → av = .slice none 0 0
  one : ∀ v ∈ al, v.oneCell' = true
/-- the document's -/
structure RH (B r g bp bm c : Nat) (l : List Nat) (lv : Value) (nA : Option Addr) (off : Bool) (u : Int) (kv av : Value) (k : Nat) (al : List Value) (W : World) : Prop where
  rb : RgB W r g (regF c l)
  rq : RdQ W g bp bm 64 64 lv nA off u kv av k al
  gr : g < r
  hav : av.ownBlock ≠ some r
  bw : B ≤ bp
  mw : B ≤ bm
abbrev pF (t g b : Nat) (av : Value) : Nat → Prop := fun j => j = t ∨ j = g ∨ j = b ∨ av.ownBlock = some j
abbrev rF (r g bp bm : Nat) (av : Value) : Nat → Prop := fun j => j = r ∨ j = g ∨ j = bp ∨ j = bm ∨ av.ownBlock = some j
def Apart (F G : Nat → Prop) : Prop := ∀ j, F j → ¬ G j
theorem owns_turns {S : Nat → Prop} {W W' : World} {base sz k : Nat} {e : TypeId} {v : Value} {al : List Value} (h : W.ownsRow base e sz v k al) (ht : Turns S W W') (hs : ∀ j, v.ownBlock = some j → ¬ S j) : W'.ownsRow base e sz v k al := by
  obtain ⟨h1, h2⟩ := h
  refine ⟨h1, ?_⟩
  rcases h2 with h2 | ⟨b, cap, cur, hv, hbg, hh, hr⟩
  · exact .inl h2
  · exact .inr ⟨b, cap, cur, hv, hbg, (ht.block b (blk_lt hh) (hs b (by rw [hv]; rfl))).trans hh, hr⟩
section
variable {B t g b c : Nat} {l : List Nat} {off : Bool} {av : Value} {k : Nat} {al : List Value} {u : Int} {W W' : World}
variable {r rg bp bm c2 k2 : Nat} {l2 : List Nat} {lv : Value} {nA : Option Addr} {off2 : Bool} {u2 : Int} {kv av2 : Value} {al2 : List Value}
theorem PH.lt (h : PH B t g b c l off av k al u W) {j : Nat} (hj : pF t g b av j) : B ≤ j ∧ j < W.heap.size := by
  have h1 := h.dq.dev.dev.lt
  have h2 := h.tb.lt
  have h3 := h.dq.bg
  have h4 := h.bw
  have h5 := h.gt
  rcases hj with q | q | q | q
  · omega
  · omega
  · omega
  · have := h.dq.dev.own.lt _ q
    omega
theorem RH.lt (h : RH B r rg bp bm c2 l2 lv nA off2 u2 kv av2 k2 al2 W) {j : Nat} (hj : rF r rg bp bm av2 j) : B ≤ j ∧ j < W.heap.size := by
  have h1 := h.rq.dev.lt
  have h2 : r < W.heap.size := h.rb.lt
  have h3 := h.rq.bg
  have h4 := h.rq.mg
  have h5 := h.bw
  have h6 := h.mw
  have h7 := h.gr
  rcases hj with q | q | q | q | q
  · omega
  · omega
  · omega
  · omega
  · have := h.rq.own.lt _ q
    omega
theorem PH.keep {S : Nat → Prop} (h : PH B t g b c l off av k al u W) (ht : Turns S W W') (hs : Apart (pF t g b av) S) : PH B t g b c l off av k al u W' := by
  have hd : DevK W' g (.slice (some ⟨b, 0, none⟩) 1 1) off av k al u (.slice none 0 0) :=
    ⟨(ht.block g h.dq.dev.dev.lt (hs g (.inr (.inl rfl)))).trans h.dq.dev.dev, owns_turns h.dq.dev.own ht (fun j hj => hs j (.inr (.inr (.inr hj))))⟩
  exact ⟨Cells.same h.tb ht.size (ht.block t h.tb.lt (hs t (.inl rfl))), h.dq.of hd (ht.block b (h.lt (.inr (.inr (.inl rfl)))).2 (hs b (.inr (.inr (.inl rfl))))), h.cb, h.hav, h.u0, h.u1, h.bw, h.gt, h.k0, h.one⟩
theorem RH.keep {S : Nat → Prop} (h : RH B r rg bp bm c2 l2 lv nA off2 u2 kv av2 k2 al2 W) (ht : Turns S W W') (hs : Apart (rF r rg bp bm av2) S) : RH B r rg bp bm c2 l2 lv nA off2 u2 kv av2 k2 al2 W' :=
  ⟨Cells.same h.rb ht.size (ht.block r h.rb.lt (hs r (.inl rfl))),
    ⟨(ht.block rg h.rq.dev.lt (hs rg (.inr (.inl rfl)))).trans h.rq.dev, owns_turns h.rq.own ht (fun j hj => hs j (.inr (.inr (.inr (.inr hj))))), (ht.block bp (h.lt (.inr (.inr (.inl rfl)))).2 (hs bp (.inr (.inr (.inl rfl))))).trans h.rq.pend,
      (ht.block bm (h.lt (.inr (.inr (.inr (.inl rfl))))).2 (hs bm (.inr (.inr (.inr (.inl rfl)))))).trans h.rq.mark, h.rq.bg, h.rq.mg, h.rq.pm, h.rq.L1⟩, h.gr, h.hav, h.bw, h.mw⟩
theorem PH.next (h : PH B t g b c l off av k al u W) (hb : Below W.heap.size W W') : PH B t g b c l off av k al u W' := h.keep (S := fun _ => False) (Turns.of_below hb) (fun _ _ q => q)
theorem RH.next (h : RH B r rg bp bm c2 l2 lv nA off2 u2 kv av2 k2 al2 W) (hb : Below W.heap.size W W') : RH B r rg bp bm c2 l2 lv nA off2 u2 kv av2 k2 al2 W' := h.keep (S := fun _ => False) (Turns.of_below hb) (fun _ _ q => q)
end
/-- the two beside one another -/
structure TS (B t g b r rg bp bm c c2 : Nat) (l l2 : List Nat) (off off2 : Bool) (av : Value) (k k2 : Nat) (al al2 : List Value) (u u2 : Int) (lv : Value) (nA : Option Addr) (kv av2 : Value) (W : World) : Prop where
  pp : PH B t g b c l off av k al u W
  rr : RH B r rg bp bm c2 l2 lv nA off2 u2 kv av2 k2 al2 W
  aa : Apart (pF t g b av) (rF r rg bp bm av2)
section
variable {B t g b r rg bp bm c c2 k k2 : Nat} {l l2 : List Nat} {off off2 : Bool} {av : Value} {al al2 : List Value} {u u2 : Int} {lv : Value} {nA : Option Addr} {kv av2 : Value} {W W' : World}
theorem TS.next (h : TS B t g b r rg bp bm c c2 l l2 off off2 av k k2 al al2 u u2 lv nA kv av2 W) (hb : Below W.heap.size W W') : TS B t g b r rg bp bm c c2 l l2 off off2 av k k2 al al2 u u2 lv nA kv av2 W' := ⟨h.pp.next hb, h.rr.next hb, h.aa⟩
/-- the program's call -/
theorem TS.pcall (h : TS B t g b r rg bp bm c c2 l l2 off off2 av k k2 al al2 u u2 lv nA kv av2 W) {c1 : Nat} {l1 : List Nat} {off1 : Bool} {av1 : Value} {k1 : Nat} {al1 : List Value} {u1 : Int} (hp : PH B t g b c1 l1 off1 av1 k1 al1 u1 W') (ht : Turns (pF t g b av) W W')
    (ho : av1.ownBlock = av.ownBlock ∨ ∃ j, W.heap.size ≤ j ∧ av1.ownBlock = some j) : TS B t g b r rg bp bm c1 c2 l1 l2 off1 off2 av1 k1 k2 al1 al2 u1 u2 lv nA kv av2 W' := by
  refine ⟨hp, h.rr.keep ht (fun j hj hp => h.aa j hp hj), fun j hj hr => ?_⟩
  rcases hj with q | q | q | q
  · exact h.aa j (.inl q) hr
  · exact h.aa j (.inr (.inl q)) hr
  · exact h.aa j (.inr (.inr (.inl q))) hr
  · rcases ho with e | ⟨i, hi, e⟩
    · exact h.aa j (.inr (.inr (.inr (e ▸ q)))) hr
    · rw [e] at q
      injection q with q
      have := (h.rr.lt hr).2
      omega
theorem TS.rcall (h : TS B t g b r rg bp bm c c2 l l2 off off2 av k k2 al al2 u u2 lv nA kv av2 W) {c1 : Nat} {l1 : List Nat} {off1 : Bool} {av1 kv1 : Value} {k1 : Nat} {al1 : List Value} {u1 : Int} (hr : RH B r rg bp bm c1 l1 lv nA off1 u1 kv1 av1 k1 al1 W') (ht : Turns (rF r rg bp bm av2) W W')
    (ho : av1.ownBlock = av2.ownBlock ∨ ∃ j, W.heap.size ≤ j ∧ av1.ownBlock = some j) : TS B t g b r rg bp bm c c1 l l1 off off1 av k k1 al al1 u u1 lv nA kv1 av1 W' := by
  refine ⟨h.pp.keep ht h.aa, hr, fun j hj hq => ?_⟩
  rcases hq with q | q | q | q | q
  · exact h.aa j hj (.inl q)
  · exact h.aa j hj (.inr (.inl q))
  · exact h.aa j hj (.inr (.inr (.inl q)))
  · exact h.aa j hj (.inr (.inr (.inr (.inl q))))
  · rcases ho with e | ⟨i, hi, e⟩
    · exact h.aa j hj (.inr (.inr (.inr (.inr (e ▸ q)))))
    · rw [e] at q
      injection q with q
      have := (h.pp.lt hj).2
      omega
theorem TS.pbelow (h : TS B t g b r rg bp bm c c2 l l2 off off2 av k k2 al al2 u u2 lv nA kv av2 W) (hB : B ≤ W.heap.size) (ht : Turns (pF t g b av) W W') : Below B W W' := ht.below hB (fun j q => (h.pp.lt q).1)
theorem TS.rbelow (h : TS B t g b r rg bp bm c c2 l l2 off off2 av k k2 al al2 u u2 lv nA kv av2 W) (hB : B ≤ W.heap.size) (ht : Turns (rF r rg bp bm av2) W W') : Below B W W' := ht.below hB (fun j q => (h.rr.lt q).1)
end
theorem less_eq {u : Int} (h0 : 0 ≤ u) (h1 : u ≠ 1) : (if 1 < u then u - 1 else u) = lessU u := by
  unfold lessU
  by_cases h : u = 0
  · rw [if_pos h, if_neg (by omega)]; exact h
  · rw [if_neg h, if_pos (by omega)]
theorem arm_eq (a : Int) : armU' a = armU a := by
  unfold armU armU'
  by_cases h : a < 0
  · rw [if_pos h, if_pos (by omega)]
  · by_cases h2 : a < 1
    · rw [if_neg h, if_pos h2]; omega
    · rw [if_neg h, if_neg h2]
theorem less0 {u : Int} (h0 : 0 ≤ u) (h1 : u ≤ 9223372036854775807) : 0 ≤ lessU u ∧ lessU u ≤ 9223372036854775807 := by unfold lessU; split <;> omega
theorem SX.det {c c' : Nat} {l l' : List Nat} {off : Bool} {u : Int} {k : Nat} {r : Int} {c1 : Nat} {l1 : List Nat} {off' : Bool} {k' : Nat} {u' r2 : Int} {c2 : Nat} {l2 : List Nat} {off2 : Bool} {k2 : Nat} {u2 : Int} (h : SX c c' l l' off u k r c1 l1 off' k' u') (h2 : SX c c' l l' off u k r2 c2 l2 off2 k2 u2) :
    r = r2 ∧ c1 = c2 ∧ l1 = l2 ∧ off' = off2 ∧ k' = k2 ∧ u' = u2 := by
  rcases h with ⟨a1, rfl, rfl, rfl, rfl, rfl, rfl⟩ | ⟨a1, a2, rfl, rfl, rfl, rfl, rfl, rfl⟩ | ⟨a1, a2, a3, rfl, rfl, rfl, rfl, rfl, rfl⟩ | ⟨a1, a2, a3, rfl, rfl, rfl, rfl, rfl, rfl⟩ <;>
  rcases h2 with ⟨b1, rfl, rfl, rfl, rfl, rfl, rfl⟩ | ⟨b1, b2, rfl, rfl, rfl, rfl, rfl, rfl⟩ | ⟨b1, b2, b3, rfl, rfl, rfl, rfl, rfl, rfl⟩ | ⟨b1, b2, b3, rfl, rfl, rfl, rfl, rfl, rfl⟩ <;>
  first | exact ⟨rfl, rfl, rfl, rfl, rfl, rfl⟩ | (exfalso; omega) | (exfalso; rw [a1] at b1; cases b1)
theorem SX.u {c c' : Nat} {l l' : List Nat} {off : Bool} {u : Int} {k : Nat} {r : Int} {c1 : Nat} {l1 : List Nat} {off' : Bool} {k' : Nat} {u' : Int} (h : SX c c' l l' off u k r c1 l1 off' k' u') (h0 : 0 ≤ u) (h1 : u ≤ 9223372036854775807) (hc : c < 2 ^ 64) (hc' : c' < 2 ^ 64) : 0 ≤ u' ∧ u' ≤ 9223372036854775807 ∧ c1 < 2 ^ 64 ∧ k' ≤ k + 1 := by
  have := less0 h0 h1
  rcases h with ⟨a1, rfl, rfl, rfl, rfl, rfl, rfl⟩ | ⟨a1, a2, rfl, rfl, rfl, rfl, rfl, rfl⟩ | ⟨a1, a2, a3, rfl, rfl, rfl, rfl, rfl, rfl⟩ | ⟨a1, a2, a3, rfl, rfl, rfl, rfl, rfl, rfl⟩ <;> refine ⟨?_, ?_, ?_, ?_⟩ <;> first | assumption | omega
theorem pF_new {t g b n : Nat} {av av1 : Value} (ho : av1.ownBlock = av.ownBlock ∨ ∃ j, n ≤ j ∧ av1.ownBlock = some j) : ∀ j, pF t g b av1 j → pF t g b av j ∨ n ≤ j := by
  rintro j (q | q | q | q)
  · exact .inl (.inl q)
  · exact .inl (.inr (.inl q))
  · exact .inl (.inr (.inr (.inl q)))
  · rcases ho with e | ⟨i, hi, e⟩
    · exact .inl (.inr (.inr (.inr (e ▸ q))))
    · rw [e] at q; injection q with q; subst q; exact .inr hi
theorem rF_new {r g bp bm n : Nat} {av av1 : Value} (ho : av1.ownBlock = av.ownBlock ∨ ∃ j, n ≤ j ∧ av1.ownBlock = some j) : ∀ j, rF r g bp bm av1 j → rF r g bp bm av j ∨ n ≤ j := by
  rintro j (q | q | q | q | q)
  · exact .inl (.inl q)
  · exact .inl (.inr (.inl q))
  · exact .inl (.inr (.inr (.inl q)))
  · exact .inl (.inr (.inr (.inr (.inl q))))
  · rcases ho with e | ⟨i, hi, e⟩
    · exact .inl (.inr (.inr (.inr (.inr (e ▸ q)))))
    · rw [e] at q; injection q with q; subst q; exact .inr hi
/-- what the program's Set leaves of both -/
def PSet (B t g b r rg bp bm c c2 : Nat) (l l2 : List Nat) (off off2 : Bool) (av : Value) (k k2 : Nat) (al al2 : List Value) (u u2 : Int) (lv : Value) (nA : Option Addr) (kv av2 : Value) (c' : Nat) (l' : List Nat) (W : World) (e : Ending) (W' : World) : Prop :=
  ∃ (z : Int) (c1 : Nat) (l1 : List Nat) (off1 : Bool) (av1 : Value) (k1 : Nat) (al1 : List Value) (u1 : Int), e = .returned (.int .i64 z) ∧ SX c c' l l' off u k z c1 l1 off1 k1 u1 ∧ TS B t g b r rg bp bm c1 c2 l1 l2 off1 off2 av1 k1 k2 al1 al2 u1 u2 lv nA kv av2 W' ∧ Below B W W' ∧ Turns (pF t g b av) W W' ∧ (∀ j, pF t g b av1 j → pF t g b av j ∨ W.heap.size ≤ j)
def RSet (B t g b r rg bp bm c c2 : Nat) (l l2 : List Nat) (off off2 : Bool) (av : Value) (k k2 : Nat) (al al2 : List Value) (u u2 : Int) (lv : Value) (nA : Option Addr) (kv av2 : Value) (c' : Nat) (l' : List Nat) (W : World) (e : Ending) (W' : World) : Prop :=
  ∃ (z : Int) (c1 : Nat) (l1 : List Nat) (off1 : Bool) (av1 : Value) (k1 : Nat) (al1 : List Value) (u1 : Int), e = .returned (.int .i64 z) ∧ SX c2 c' l2 l' off2 u2 k2 z c1 l1 off1 k1 u1 ∧ TS B t g b r rg bp bm c c1 l l1 off off1 av k k1 al al1 u u1 lv nA kv av1 W' ∧ Below B W W' ∧ Turns (rF r rg bp bm av2) W W' ∧ (∀ j, rF r rg bp bm av1 j → rF r rg bp bm av2 j ∨ W.heap.size ≤ j)
section
variable {B t g b r rg bp bm c c2 k k2 : Nat} {l l2 : List Nat} {off off2 : Bool} {av : Value} {al al2 : List Value} {u u2 : Int} {lv : Value} {nA : Option Addr} {kv av2 : Value} {W : World}
theorem TS.pset (h : TS B t g b r rg bp bm c c2 l l2 off off2 av k k2 al al2 u u2 lv nA kv av2 W) (hB : B ≤ W.heap.size) (c' : Nat) (l' : List Nat) (hc : c' < 2 ^ 64) (hk : k < 1000) :
    Calls Try.prog 7 #[.pointer (some ⟨t, 0, none⟩), .agg (rowV (regF c' l') 33)] W (PSet B t g b r rg bp bm c c2 l l2 off off2 av k k2 al al2 u u2 lv nA kv av2 c' l' W) := by
  have hgt := h.pp.gt
  have hbg := h.pp.dq.bg
  refine (setX_any t g b c c' 1 1 k l l' off av al u W h.pp.tb h.pp.dq hc (by omega) (by omega) (by omega) h.pp.hav h.pp.u0 h.pp.u1).mono ?_
  rintro e w' ⟨z, c1, l1, off1, av1, k1, al1, u1, he, htb, hdq, hsx, hal, ht, ho⟩
  have ht' : Turns (pF t g b av) W w' := ht.mono (fun j _ q => by
    rcases q with q | q | q
    · exact .inl q
    · exact .inr (.inl q)
    · exact .inr (.inr (.inr q)))
  obtain ⟨q1, q2, q3, q4⟩ := hsx.u h.pp.u0 h.pp.u1 h.pp.cb hc
  refine ⟨z, c1, l1, off1, av1, k1, al1, u1, he, hsx, h.pcall ⟨htb, hdq, q3, ?_, q1, q2, h.pp.bw, hgt, ?_, ?_⟩ ht' ho, h.pbelow hB ht', ht', pF_new ho⟩
  · rcases ho with q | ⟨j, hj, q⟩
    · rw [q]; exact h.pp.hav
    · rw [q]; intro q5; injection q5 with q5; have := h.pp.tb.lt; omega
  · intro k10
    rcases hal with ⟨_, e2⟩ | ⟨_, e2⟩
    · rw [e2]
      have : k = 0 := by
        rcases hsx with ⟨a1, _, _, _, _, a2, _⟩ | ⟨a1, _, _, _, _, _, a2, _⟩ | ⟨a1, _, _, _, _, _, _, a2, _⟩ | ⟨a1, _, _, _, _, _, _, a2, _⟩ <;> omega
      exact h.pp.k0 this
    · omega
  · intro v hv
    rcases hal with ⟨e1, _⟩ | ⟨e1, _⟩
    · rw [e1] at hv; exact h.pp.one v hv
    · rw [e1] at hv
      rcases List.mem_append.1 hv with hv | hv
      · exact h.pp.one v hv
      · simp [actV] at hv
        rcases hv with rfl | rfl <;> rfl
theorem TS.rset (h : TS B t g b r rg bp bm c c2 l l2 off off2 av k k2 al al2 u u2 lv nA kv av2 W) (hB : B ≤ W.heap.size) (c' : Nat) (l' : List Nat) (hk : k2 < 1000) (h0 : 0 ≤ u2) (h1 : u2 ≤ 9223372036854775807) :
    Calls Try.prog 8 #[.pointer (some ⟨r, 0, none⟩), .agg (rowV (regF c' l') 33)] W (RSet B t g b r rg bp bm c c2 l l2 off off2 av k k2 al al2 u u2 lv nA kv av2 c' l' W) := by
  have hgr := h.rr.gr
  refine (rset_any r rg bp bm 64 64 c2 c' l2 l' lv nA off2 u2 kv av2 k2 al2 W h.rr.rb h.rr.rq hgr h.rr.hav h0 h1 hk).mono ?_
  rintro e w' (⟨ho, he, hrb, hrq, hb⟩ | ⟨ho, hcc, he, hrb, hrq, hb⟩ | ⟨ho, hcc, hu, he, hrb, hrq, ht⟩ | ⟨ho, hcc, hu, av1, he, hrb, hrq, ht, hov⟩)
  · have ht : Turns (rF r rg bp bm av2) W w' := Turns.of_below hb
    exact ⟨8, c2, l2, true, av2, k2, al2, u2, he, .inl ⟨ho, rfl, rfl, rfl, rfl, rfl, rfl⟩, h.rcall ⟨hrb, hrq, hgr, h.rr.hav, h.rr.bw, h.rr.mw⟩ ht (.inl rfl), h.rbelow hB ht, ht, rF_new (.inl rfl)⟩
  · have ht : Turns (rF r rg bp bm av2) W w' := Turns.of_below hb
    exact ⟨3, c2, l2, false, av2, k2, al2, u2, he, .inr (.inl ⟨ho, hcc, rfl, rfl, rfl, rfl, rfl, rfl⟩), h.rcall ⟨hrb, hrq, hgr, h.rr.hav, h.rr.bw, h.rr.mw⟩ ht (.inl rfl), h.rbelow hB ht, ht, rF_new (.inl rfl)⟩
  · have ht' : Turns (rF r rg bp bm av2) W w' := ht.mono (fun j _ q => by
      rcases q with q | q | q
      · exact .inr (.inl q)
      · exact .inr (.inr (.inl q))
      · exact .inr (.inr (.inr (.inl q))))
    exact ⟨8, c2, l2, true, av2, k2, al2, 0, he, .inr (.inr (.inl ⟨ho, hcc, hu, rfl, rfl, rfl, rfl, rfl, rfl⟩)), h.rcall ⟨hrb, hrq, hgr, h.rr.hav, h.rr.bw, h.rr.mw⟩ ht' (.inl rfl), h.rbelow hB ht', ht', rF_new (.inl rfl)⟩
  · have ht' : Turns (rF r rg bp bm av2) W w' := ht.mono (fun j _ q => by
      rcases q with q | q | q
      · exact .inl q
      · exact .inr (.inl q)
      · exact .inr (.inr (.inr (.inr q))))
    rw [less_eq h0 hu] at hrq
    refine ⟨0, c', l', false, av1, k2 + 1, _, lessU u2, he, .inr (.inr (.inr ⟨ho, hcc, hu, rfl, rfl, rfl, rfl, rfl, rfl⟩)), h.rcall ⟨hrb, hrq, hgr, ?_, h.rr.bw, h.rr.mw⟩ ht' hov, h.rbelow hB ht', ht', rF_new hov⟩
    rcases hov with q | ⟨j, hj, q⟩
    · rw [q]; exact h.rr.hav
    · rw [q]; intro q5; injection q5 with q5; have : r < W.heap.size := h.rr.rb.lt; omega
/-- what a call of one device alone leaves of both -/
def PDev (B t g b r rg bp bm c c2 : Nat) (l l2 : List Nat) (off1 off2 : Bool) (av : Value) (k k2 : Nat) (al al2 : List Value) (u1 u2 : Int) (lv : Value) (nA : Option Addr) (kv av2 : Value) (W : World) (e : Ending) (W' : World) : Prop :=
  e = .returned (.tuple #[]) ∧ TS B t g b r rg bp bm c c2 l l2 off1 off2 av k k2 al al2 u1 u2 lv nA kv av2 W' ∧ Turns (pF t g b av) W W'
def RDev (B t g b r rg bp bm c c2 : Nat) (l l2 : List Nat) (off off1 : Bool) (av : Value) (k k2 : Nat) (al al2 : List Value) (u u1 : Int) (lv : Value) (nA : Option Addr) (av2 : Value) (W : World) (e : Ending) (W' : World) : Prop :=
  e = .returned (.tuple #[]) ∧ (∃ kv', TS B t g b r rg bp bm c c2 l l2 off off1 av k k2 al al2 u u1 lv nA kv' av2 W') ∧ Turns (rF r rg bp bm av2) W W'
theorem TS.pdev (h : TS B t g b r rg bp bm c c2 l l2 off off2 av k k2 al al2 u u2 lv nA kv av2 W) {off1 : Bool} {u1 : Int} {W' : World} (hd : DevQ W' g b 1 1 off1 av k al u1 (.slice none 0 0)) (ht : Turns (fun j => j = g) W W') (h0 : 0 ≤ u1) (h1 : u1 ≤ 9223372036854775807) :
    TS B t g b r rg bp bm c c2 l l2 off1 off2 av k k2 al al2 u1 u2 lv nA kv av2 W' ∧ Turns (pF t g b av) W W' := by
  have ht' : Turns (pF t g b av) W W' := ht.mono (fun j _ q => .inr (.inl q))
  have hgt := h.pp.gt
  exact ⟨h.pcall ⟨Cells.same h.pp.tb ht.size (ht.block t h.pp.tb.lt (by show ¬ t = g; omega)), hd, h.pp.cb, h.pp.hav, h0, h1, h.pp.bw, hgt, h.pp.k0, h.pp.one⟩ ht' (.inl rfl), ht'⟩
theorem TS.rdev (h : TS B t g b r rg bp bm c c2 l l2 off off2 av k k2 al al2 u u2 lv nA kv av2 W) {off1 : Bool} {u1 : Int} {kv1 : Value} {W' : World} (hd : RdQ W' rg bp bm 64 64 lv nA off1 u1 kv1 av2 k2 al2) (ht : Turns (RdS rg bp bm) W W') :
    TS B t g b r rg bp bm c c2 l l2 off off1 av k k2 al al2 u u1 lv nA kv1 av2 W' ∧ Turns (rF r rg bp bm av2) W W' := by
  have ht' : Turns (rF r rg bp bm av2) W W' := ht.mono (fun j _ q => by
    rcases q with q | q | q
    · exact .inr (.inl q)
    · exact .inr (.inr (.inl q))
    · exact .inr (.inr (.inr (.inl q))))
  have hgr := h.rr.gr
  have h1 := h.rr.rq.bg
  have h2 := h.rr.rq.mg
  exact ⟨h.rcall ⟨Cells.same h.rr.rb ht.size (ht.block r h.rr.rb.lt (by rintro (q | q | q) <;> omega)), hd, hgr, h.rr.hav, h.rr.bw, h.rr.mw⟩ ht' (.inl rfl), ht'⟩
def uCr (off : Bool) (u : Int) : Int := if off = true then u else 0
theorem TS.pcrash (h : TS B t g b r rg bp bm c c2 l l2 off off2 av k k2 al al2 u u2 lv nA kv av2 W) :
    Calls Try.prog 9 #[.pointer (some ⟨g, 0, none⟩), .slice none 0 0] W (PDev B t g b r rg bp bm c c2 l l2 true off2 av k k2 al al2 (uCr off u) u2 lv nA kv av2 W) := by
  cases off
  · refine (crashQ_on g b 1 1 k 0 0 none av (.slice none 0 0) al u W h.pp.dq).mono ?_
    rintro e w' ⟨he, hd, ht⟩
    obtain ⟨h1, h2⟩ := h.pdev hd ht (by omega) (by omega)
    exact ⟨he, h1, h2⟩
  · refine (crashQ_off g b 1 1 k 0 0 none av (.slice none 0 0) al u W h.pp.dq).mono ?_
    rintro e w' ⟨he, hd, ht⟩
    obtain ⟨h1, h2⟩ := h.pdev hd ht h.pp.u0 h.pp.u1
    exact ⟨he, h1, h2⟩
theorem TS.rcrash (h : TS B t g b r rg bp bm c c2 l l2 off off2 av k k2 al al2 u u2 lv nA kv av2 W) :
    Calls Try.prog 10 #[.pointer (some ⟨rg, 0, none⟩), .slice none 0 0] W (RDev B t g b r rg bp bm c c2 l l2 off true av k k2 al al2 u (uCr off2 u2) lv nA av2 W) := by
  cases off2
  · refine (rcrash_any rg bp bm 64 64 lv nA u2 kv av2 _ k2 al2 W h.rr.rq).mono ?_
    rintro e w' ⟨he, hd, ht⟩
    obtain ⟨h1, h2⟩ := h.rdev hd ht
    exact ⟨he, ⟨kv, h1⟩, h2⟩
  · refine (rcrash_off rg bp bm 64 64 lv nA u2 kv av2 _ k2 al2 W h.rr.rq).mono ?_
    rintro e w' ⟨he, rfl⟩
    exact ⟨he, ⟨kv, h⟩, Turns.of_below (Below.refl _ _)⟩
theorem TS.pon (h : TS B t g b r rg bp bm c c2 l l2 off off2 av k k2 al al2 u u2 lv nA kv av2 W) :
    Calls Try.prog 11 #[.pointer (some ⟨g, 0, none⟩)] W (PDev B t g b r rg bp bm c c2 l l2 false off2 av k k2 al al2 0 u2 lv nA kv av2 W) := by
  refine (onQ_any g b 1 1 k off av (.slice none 0 0) al u W h.pp.dq).mono ?_
  rintro e w' ⟨he, hd, ht⟩
  obtain ⟨h1, h2⟩ := h.pdev hd ht (by omega) (by omega)
  exact ⟨he, h1, h2⟩
theorem TS.ron (h : TS B t g b r rg bp bm c c2 l l2 off off2 av k k2 al al2 u u2 lv nA kv av2 W) :
    Calls Try.prog 12 #[.pointer (some ⟨rg, 0, none⟩)] W (RDev B t g b r rg bp bm c c2 l l2 off false av k k2 al al2 u 0 lv nA av2 W) := by
  refine (ron_any rg bp bm 64 64 lv nA off2 u2 kv av2 k2 al2 W h.rr.rq).mono ?_
  rintro e w' ⟨he, hd, ht⟩
  obtain ⟨h1, h2⟩ := h.rdev hd ht
  exact ⟨he, ⟨kv, h1⟩, h2⟩
theorem TS.parm (h : TS B t g b r rg bp bm c c2 l l2 off off2 av k k2 al al2 u u2 lv nA kv av2 W) (N : Int) (hN : N ≤ 9223372036854775807) :
    Calls Try.prog 13 #[.pointer (some ⟨g, 0, none⟩), .int .i64 N, .slice none 0 0] W (PDev B t g b r rg bp bm c c2 l l2 off off2 av k k2 al al2 (armU N) u2 lv nA kv av2 W) := by
  refine (armQ_any g b 1 1 k off av (.slice none 0 0) al u N W h.pp.dq).mono ?_
  rintro e w' ⟨he, hd, ht⟩
  obtain ⟨h1, h2⟩ := h.pdev hd ht (by unfold armU; split <;> omega) (by unfold armU; split <;> omega)
  exact ⟨he, h1, h2⟩
theorem TS.rarm (h : TS B t g b r rg bp bm c c2 l l2 off off2 av k k2 al al2 u u2 lv nA kv av2 W) (N : Int) :
    Calls Try.prog 14 #[.pointer (some ⟨rg, 0, none⟩), .int .i64 N, .slice none 0 0] W (RDev B t g b r rg bp bm c c2 l l2 off off2 av k k2 al al2 u (armU N) lv nA av2 W) := by
  refine (rarm_any rg bp bm 64 64 lv nA off2 u2 N kv av2 k2 al2 W h.rr.rq).mono ?_
  rintro e w' ⟨he, ⟨kv', hd⟩, ht⟩
  rw [arm_eq] at hd
  obtain ⟨h1, h2⟩ := h.rdev hd ht
  exact ⟨he, ⟨kv', h1⟩, h2⟩
end
end Go.Proofs.Ytbanknppdgiflaa
