/-
  States: sixteen cells; a round's steps, the key's first.
-/
import Derived.Test.YthjpaligpojlnaaAesB
import Derived.Deep.RegionHeld3
namespace Go.Proofs.Ythjpaligpojlnaa
open Go.RowKit Go
set_option linter.unusedVariables false
attribute [local irreducible] Gf.inv Gf.tm Gf.pw Gf.spread Gf.sub Gf.boxAt Gf.bk Gf.rm Gf.bit
/-- block g is a state: its sixteen bytes are F's -/
def St (w : World) (g : Nat) (F : Nat → Nat) : Prop := Row w g 75 (fun i => u8 (F i)) 16
theorem St.congr {w : World} {g : Nat} {F F' : Nat → Nat} (h : St w g F) (e : ∀ i, i < 16 → F i = F' i) : St w g F' := Row.congr h fun i hi => by rw [e i hi]
theorem St.cell {w : World} {g : Nat} {F : Nat → Nat} (h : St w g F) {i : Nat} (hi : i < 16) : w.cell? ⟨g, i, none⟩ = some (.int .u8 ((F i : Nat) : Int)) := Row.cell h hi
theorem St.free {w : World} {g : Nat} {F : Nat → Nat} (h : St w g F) (i : Nat) : w.frozen? ⟨g, i, none⟩ = false := Row.free h i
theorem St.drew {w : World} {g : Nat} {F : Nat → Nat} (h : St w g F) : St w.drew g F := h
theorem St.next {w w' : World} {g : Nat} {F : Nat → Nat} (h : St w g F) (hb : Below w.heap.size w w') : St w' g F := Row.below h hb (Row.lt h)
theorem St.lt {w : World} {g : Nat} {F : Nat → Nat} (h : St w g F) : g < w.heap.size := Row.lt h
/-- a column is put in -/
theorem St.set4 {w : World} {g k : Nat} {F F' : Nat → Nat} {a b c d : Nat} (h : St w g F) (hk : k < 4) (h0 : F' (k * 4) = a) (h1 : F' (k * 4 + 1) = b) (h2 : F' (k * 4 + 2) = c) (h3 : F' (k * 4 + 3) = d) (he : ∀ i, i < 16 → i / 4 ≠ k → F' i = F i) :
    St ((((w.setCell ⟨g, k * 4, none⟩ (.int .u8 (a : Int))).setCell ⟨g, k * 4 + 1, none⟩ (.int .u8 (b : Int))).setCell ⟨g, k * 4 + 2, none⟩ (.int .u8 (c : Int))).setCell ⟨g, k * 4 + 3, none⟩ (.int .u8 (d : Int))) g F' := by
  subst h0 h1 h2 h3
  refine Row.congr ((((Row.set_ h (k * 4) _).set_ (k * 4 + 1) _).set_ (k * 4 + 2) _).set_ (k * 4 + 3) _) fun i hi => ?_
  by_cases e : i / 4 = k
  · rcases (by omega : i = k * 4 ∨ i = k * 4 + 1 ∨ i = k * 4 + 2 ∨ i = k * 4 + 3) with rfl | rfl | rfl | rfl
    · rw [if_neg (by omega), if_neg (by omega), if_neg (by omega), if_pos rfl]; rfl
    · rw [if_neg (by omega), if_neg (by omega), if_pos rfl]; rfl
    · rw [if_neg (by omega), if_pos rfl]; rfl
    · rw [if_pos rfl]; rfl
  · rw [if_neg (by omega), if_neg (by omega), if_neg (by omega), if_neg (by omega), he i hi e]
/-- sixteen bytes of a key stand in block g, from o on -/
def KeyC (w : World) (g o : Nat) (K : Nat → Nat) : Prop := g < w.heap.size ∧ (∀ i, i < 16 → w.cell? ⟨g, o + i, none⟩ = some (.int .u8 ((K i : Nat) : Int))) ∧ ∀ i, K i < 256
theorem KeyC.only {w w' : World} {g o gs : Nat} {K : Nat → Nat} (h : KeyC w g o K) (hg : w.grownBy w' (some gs)) (hne : g ≠ gs) : KeyC w' g o K :=
  ⟨Nat.lt_of_lt_of_le h.1 hg.size, fun i hi => (World.cell?_of_block (hg.block g h.1 (fun e => by injection e with e; exact hne e))).trans (h.2.1 i hi), h.2.2⟩
theorem KeyC.next {w w' : World} {g o : Nat} {K : Nat → Nat} (h : KeyC w g o K) (hb : Below w.heap.size w w') : KeyC w' g o K :=
  ⟨Nat.lt_of_lt_of_le h.1 hb.size, fun i hi => (hb.cell (p := ⟨g, o + i, none⟩) h.1).trans (h.2.1 i hi), h.2.2⟩
theorem BoxC.only {w w' : World} {g gs : Nat} (h : BoxC w g) (hg : w.grownBy w' (some gs)) (hne : g ≠ gs) : BoxC w' g := by
  have hb := hg.block g h.1 (fun e => by injection e with e; exact hne e)
  exact ⟨Nat.lt_of_lt_of_le h.1 hg.size, fun c hc => ⟨(World.cell?_of_block hb).trans (h.2 c hc).1, (World.cell?_of_block hb).trans (h.2 c hc).2⟩⟩
/-- what a round needs -/
abbrev rndV (gb gk o : Nat) : Value := .agg #[.pointer (some ⟨gb, 0, none⟩), .pointer (some ⟨gk, o, none⟩)]
theorem plus4 {a b c d e f g h : Nat} (ha : a < 256) (hb : b < 256) (hc : c < 256) (hd : d < 256) (he : e < 256) (hf : f < 256) (hg : g < 256) (hh : h < 256) (w : World) :
    Calls Try.prog 43 #[.agg (l4 a b c d), .agg (l4 e f g h)] w fun en w' => en = .returned (.agg (l4 (a ^^^ e) (b ^^^ f) (c ^^^ g) (d ^^^ h))) ∧ Below w.heap.size w w' :=
  plus_any (fun i => match i with | 0 => a | 1 => b | 2 => c | 3 => d | _ => 0) (fun i => match i with | 0 => e | 1 => f | 2 => g | 3 => h | _ => 0) (fun i => by split <;> omega) (fun i => by split <;> omega) w
def AddRel (w : World) (gs : Nat) (F K : Nat → Nat) (v : Value) (wr : World) : Prop :=
  ∃ k : Nat, v = .int .i64 (k : Int) ∧ k ≤ 4 ∧ w.grownBy wr (some gs) ∧ St wr gs (fun i => if i < k * 4 then F i ^^^ K i else F i)
set_option maxHeartbeats 1000000 in
theorem add_any (gs gb gk o : Nat) (F K : Nat → Nat) (w : World) (hF : ∀ i, F i < 256) (hs : St w gs F) (hk : KeyC w gk o K) (hne : gk ≠ gs) :
    Calls Try.prog 87 #[.pointer (some ⟨gs, 0, none⟩), rndV gb gk o] w fun e w' => e = .returned (.tuple #[]) ∧ w.grownBy w' (some gs) ∧ St w' gs (fun i => F i ^^^ K i) := by
  have HF := Lib.hid hF
  have HK := Lib.hid hk
  have H0 : Hid (AddRel w gs F K (.int .i64 0) (w.alloc (.cells #[.pointer (some ⟨gb, 0, none⟩), .pointer (some ⟨gk, o, none⟩)] 152))) := Lib.hid
    ⟨0, rfl, by omega, World.grownBy_alloc w _ _, (hs.next ((Below.refl _ _).alloc (Nat.le_refl _) _)).congr fun i hi => by rw [if_neg (by omega)]⟩
  clear hF hk hs
  go_enter Try.func87, Try.ntmps87
  go_wp2
  generalize w.alloc (.cells #[.pointer (some ⟨gb, 0, none⟩), .pointer (some ⟨gk, o, none⟩)] 152) = W0 at *
  go_loopw [8] (fun v wr => AddRel w gs F K v wr) (fun v _ => (4 - intOf v).toNat)
  case atStart => exact H0.out
  case round =>
    obtain ⟨k, rfl, hk, hg, hst⟩ := hrel
    have HG := Lib.hid hg
    have HST := Lib.hid hst
    clear hg hst H0
    by_cases hlt : k < 4
    · have HKR := Lib.hid (HK.out.only HG.out hne)
      have hkl := HKR.out.1
      have k0 : wr.cell? ⟨gk, o + k * 4, none⟩ = some (.int .u8 ((K (k * 4) : Nat) : Int)) := HKR.out.2.1 (k * 4) (by omega)
      have k1 : wr.cell? ⟨gk, o + k * 4 + 1, none⟩ = some (.int .u8 ((K (k * 4 + 1) : Nat) : Int)) := HKR.out.2.1 (k * 4 + 1) (by omega)
      have k2 : wr.cell? ⟨gk, o + k * 4 + 2, none⟩ = some (.int .u8 ((K (k * 4 + 2) : Nat) : Int)) := HKR.out.2.1 (k * 4 + 2) (by omega)
      have k3 : wr.cell? ⟨gk, o + k * 4 + 3, none⟩ = some (.int .u8 ((K (k * 4 + 3) : Nat) : Int)) := HKR.out.2.1 (k * 4 + 3) (by omega)
      have y0 := HKR.out.2.2 (k * 4)
      have y1 := HKR.out.2.2 (k * 4 + 1)
      have y2 := HKR.out.2.2 (k * 4 + 2)
      have y3 := HKR.out.2.2 (k * 4 + 3)
      have z0 := HF.out (k * 4)
      have z1 := HF.out (k * 4 + 1)
      have z2 := HF.out (k * 4 + 2)
      have z3 := HF.out (k * 4 + 3)
      have s0 : wr.cell? ⟨gs, k * 4, none⟩ = some (.int .u8 ((F (k * 4) : Nat) : Int)) := (HST.out.cell (i := k * 4) (by omega)).trans (by rw [if_neg (by omega)])
      have s1 : wr.cell? ⟨gs, k * 4 + 1, none⟩ = some (.int .u8 ((F (k * 4 + 1) : Nat) : Int)) := (HST.out.cell (i := k * 4 + 1) (by omega)).trans (by rw [if_neg (by omega)])
      have s2 : wr.cell? ⟨gs, k * 4 + 2, none⟩ = some (.int .u8 ((F (k * 4 + 2) : Nat) : Int)) := (HST.out.cell (i := k * 4 + 2) (by omega)).trans (by rw [if_neg (by omega)])
      have s3 : wr.cell? ⟨gs, k * 4 + 3, none⟩ = some (.int .u8 ((F (k * 4 + 3) : Nat) : Int)) := (HST.out.cell (i := k * 4 + 3) (by omega)).trans (by rw [if_neg (by omega)])
      have hgl := HST.out.lt
      have HN : Hid (∀ W, wr.grownBy W (some gs) → St W gs (fun i => if i < k * 4 then F i ^^^ K i else F i) → AddRel w gs F K (.int .i64 ((k : Int) + 1)) ((((W.setCell ⟨gs, k * 4, none⟩ (.int .u8 ((F (k * 4) ^^^ K (k * 4) : Nat) : Int))).setCell ⟨gs, k * 4 + 1, none⟩ (.int .u8 ((F (k * 4 + 1) ^^^ K (k * 4 + 1) : Nat) : Int))).setCell ⟨gs, k * 4 + 2, none⟩ (.int .u8 ((F (k * 4 + 2) ^^^ K (k * 4 + 2) : Nat) : Int))).setCell ⟨gs, k * 4 + 3, none⟩ (.int .u8 ((F (k * 4 + 3) ^^^ K (k * 4 + 3) : Nat) : Int)))) := Lib.hid (fun W hgW hsW => by
        refine ⟨k + 1, rfl, by omega, ?_, ?_⟩
        · exact only_set (only_set (only_set (only_set (only_trans HG.out hgW) (.inl rfl) _) (.inl rfl) _) (.inl rfl) _) (.inl rfl) _
        · refine St.set4 hsW hlt (by rw [if_pos (by omega)]) (by rw [if_pos (by omega)]) (by rw [if_pos (by omega)]) (by rw [if_pos (by omega)]) fun i hi he => ?_
          by_cases h : i < k * 4
          · rw [if_pos h, if_pos (by omega)]
          · rw [if_neg h, if_neg (by omega)])
      have HPL := Lib.hid (fun W => plus4 z0 z1 z2 z3 y0 y1 y2 y3 W)
      generalize F (k * 4) = a0 at *
      generalize F (k * 4 + 1) = a1 at *
      generalize F (k * 4 + 2) = a2 at *
      generalize F (k * 4 + 3) = a3 at *
      generalize K (k * 4) = b0 at *
      generalize K (k * 4 + 1) = b1 at *
      generalize K (k * 4 + 2) = b2 at *
      generalize K (k * 4 + 3) = b3 at *
      go_wp2
      go_region
      go_wp2
      have hb1 : Below wr.heap.size wr (wr.alloc (.cells (l4 b0 b1 b2 b3) 73)).drew := ((Below.refl _ _).alloc (Nat.le_refl _) _).drew
      have hn1 := heap_alloc_new wr (.cells (l4 b0 b1 b2 b3) 73)
      have HST1 := Lib.hid (HST.out.next hb1)
      have HG1 := Lib.hid (below_is_only hb1 gs)
      have m0 : (wr.alloc (.cells (l4 b0 b1 b2 b3) 73)).drew.cell? ⟨wr.heap.size, 0, none⟩ = some (.int .u8 (b0 : Int)) := blk_cell hn1 0
      have m1 : (wr.alloc (.cells (l4 b0 b1 b2 b3) 73)).drew.cell? ⟨wr.heap.size, 1, none⟩ = some (.int .u8 (b1 : Int)) := blk_cell hn1 1
      have m2 : (wr.alloc (.cells (l4 b0 b1 b2 b3) 73)).drew.cell? ⟨wr.heap.size, 2, none⟩ = some (.int .u8 (b2 : Int)) := blk_cell hn1 2
      have m3 : (wr.alloc (.cells (l4 b0 b1 b2 b3) 73)).drew.cell? ⟨wr.heap.size, 3, none⟩ = some (.int .u8 (b3 : Int)) := blk_cell hn1 3
      have t0 := (hb1.cell (p := ⟨gs, k * 4, none⟩) hgl).trans s0
      have t1 := (hb1.cell (p := ⟨gs, k * 4 + 1, none⟩) hgl).trans s1
      have t2 := (hb1.cell (p := ⟨gs, k * 4 + 2, none⟩) hgl).trans s2
      have t3 := (hb1.cell (p := ⟨gs, k * 4 + 3, none⟩) hgl).trans s3
      clear k0 k1 k2 k3 s0 s1 s2 s3 hb1 hn1 HKR y0 y1 y2 y3 z0 z1 z2 z3
      generalize (wr.alloc (.cells (l4 b0 b1 b2 b3) 73)).drew = W1 at *
      generalize wr.heap.size = gn at *
      go_region_with (first
        | (go_at_call 43; (with_reducible refine (HPL.out _).mono ?_); rintro e w2 ⟨rfl, hb2⟩
           have hS2 := (St.drew HST1.out).next hb2
           have c0 := hS2.cell (i := k * 4) (by omega)
           have c1 := hS2.cell (i := k * 4 + 1) (by omega)
           have c2 := hS2.cell (i := k * 4 + 2) (by omega)
           have c3 := hS2.cell (i := k * 4 + 3) (by omega)
           have f0 := hS2.free (k * 4)
           have f1 := hS2.free (k * 4 + 1)
           have f2 := hS2.free (k * 4 + 2)
           have f3 := hS2.free (k * 4 + 3)
           have HE := Lib.hid (HN.out w2 (only_trans (only_drew HG1.out) (below_is_only hb2 gs)) hS2)
           clear hS2 hb2))
      all_goals
        go_wp2
        go_roundw
        case rel => exact HE.out
        case measure => simp [intOf]; omega
    · obtain rfl : k = 4 := by omega
      have hst := HST.out.congr (F' := fun i => F i ^^^ K i) fun i hi => by rw [if_pos (by omega)]
      have HS2 := Lib.hid hst
      clear hst HST
      go_wp2
      go_end0
      exact ⟨rfl, HG.out, HS2.out⟩
end Go.Proofs.Ythjpaligpojlnaa
