/-
  A round's steps: the box, the columns, one way and the other.
-/
import Derived.Test.YthjpaligpojlnaaAesC
namespace Go.Proofs.Ythjpaligpojlnaa
open Go.RowKit Go
set_option linter.unusedVariables false
attribute [local irreducible] Gf.inv Gf.tm Gf.pw Gf.spread Gf.sub Gf.boxAt Gf.bk Gf.rm Gf.bit
theorem BoxC.drew {w : World} {g : Nat} (h : BoxC w g) : BoxC w.drew g := h
def f4 (a b c d : Nat) (i : Nat) : Nat := match i with | 0 => a | 1 => b | 2 => c | 3 => d | _ => 0
theorem f4_lt {a b c d : Nat} (ha : a < 256) (hb : b < 256) (hc : c < 256) (hd : d < 256) : ∀ i, f4 a b c d i < 256 := fun i => by unfold f4; split <;> omega
theorem through4_sub {g a b c d : Nat} (ha : a < 256) (hb : b < 256) (hc : c < 256) (hd : d < 256) (w : World) (hbx : BoxC w g) :
    Calls Try.prog 68 #[.agg (l4 a b c d), .func (Fn.func 69) #[.pointer (some ⟨g, 0, none⟩)] #[]] w fun e w' => e = .returned (.agg (l4 (Gf.sub a) (Gf.sub b) (Gf.sub c) (Gf.sub d))) ∧ Below w.heap.size w w' :=
  through_sub g (f4 a b c d) (f4_lt ha hb hc hd) w hbx
theorem mix4_M {a b c d : Nat} (ha : a < 256) (hb : b < 256) (hc : c < 256) (hd : d < 256) (w : World) :
    Calls Try.prog 95 #[.agg (l4 a b c d)] w fun e w' => e = .returned (.agg (l4 (mixC facM (f4 a b c d) 0) (mixC facM (f4 a b c d) 1) (mixC facM (f4 a b c d) 2) (mixC facM (f4 a b c d) 3))) ∧ Below w.heap.size w w' :=
  mix_any (f4 a b c d) (f4_lt ha hb hc hd) w
theorem mix_at (fa F : Nat → Nat) {k r : Nat} (hr : r < 4) : mixC fa (fun q => F (4 * ((k * 4 + r) / 4) + q)) ((k * 4 + r) % 4) = mixC fa (f4 (F (k * 4)) (F (k * 4 + 1)) (F (k * 4 + 2)) (F (k * 4 + 3))) r := by
  have e1 : (k * 4 + r) / 4 = k := by omega
  have e2 : (k * 4 + r) % 4 = r := by omega
  rw [e1, e2]
  refine Aes.mixC_congr fa (fun i hi => ?_) r
  rcases (by omega : i = 0 ∨ i = 1 ∨ i = 2 ∨ i = 3) with rfl | rfl | rfl | rfl <;> simp [f4, Nat.mul_comm]
abbrev rndC (gb gk o : Nat) : Array Value := #[.pointer (some ⟨gb, 0, none⟩), .pointer (some ⟨gk, o, none⟩)]
def TrRel (w : World) (gs gb gk o : Nat) (F G : Nat → Nat) (v : Value) (wr : World) : Prop :=
  ∃ k : Nat, v = .int .i64 (k : Int) ∧ k ≤ 4 ∧ w.grownBy wr (some gs) ∧ St wr gs (fun i => if i < k * 4 then G i else F i) ∧ wr.heap[w.heap.size]? = some (.cells (rndC gb gk o) 152 (0, 0))
theorem tr_start {w : World} {gs gb gk o : Nat} {F G : Nat → Nat} (hs : St w gs F) : TrRel w gs gb gk o F G (.int .i64 0) (w.alloc (.cells (rndC gb gk o) 152)) :=
  ⟨0, rfl, by omega, World.grownBy_alloc w _ _, (hs.next ((Below.refl _ _).alloc (Nat.le_refl _) _)).congr fun i hi => by rw [if_neg (by omega)], heap_alloc_new w _⟩
theorem tr_step {w wr W : World} {gs gb gk o k a b c d : Nat} {F G : Nat → Nat} (hlt : k < 4) (hgl : gs < w.heap.size) (hg : w.grownBy wr (some gs)) (hgW : wr.grownBy W (some gs)) (hsW : St W gs (fun i => if i < k * 4 then G i else F i))
    (hr : W.heap[w.heap.size]? = some (.cells (rndC gb gk o) 152 (0, 0))) (h0 : G (k * 4) = a) (h1 : G (k * 4 + 1) = b) (h2 : G (k * 4 + 2) = c) (h3 : G (k * 4 + 3) = d) :
    TrRel w gs gb gk o F G (.int .i64 ((k : Int) + 1)) ((((W.setCell ⟨gs, k * 4, none⟩ (.int .u8 (a : Int))).setCell ⟨gs, k * 4 + 1, none⟩ (.int .u8 (b : Int))).setCell ⟨gs, k * 4 + 2, none⟩ (.int .u8 (c : Int))).setCell ⟨gs, k * 4 + 3, none⟩ (.int .u8 (d : Int))) := by
  refine ⟨k + 1, rfl, by omega, ?_, ?_, ?_⟩
  · exact only_set (only_set (only_set (only_set (only_trans hg hgW) (.inl rfl) _) (.inl rfl) _) (.inl rfl) _) (.inl rfl) _
  · refine St.set4 hsW hlt (by rw [if_pos (by omega)]; exact h0) (by rw [if_pos (by omega)]; exact h1) (by rw [if_pos (by omega)]; exact h2) (by rw [if_pos (by omega)]; exact h3) fun i hi he => ?_
    by_cases h : i < k * 4
    · rw [if_pos h, if_pos (by omega)]
    · rw [if_neg h, if_neg (by omega)]
  · have hne : w.heap.size ≠ gs := by omega
    exact blk_far (blk_far (blk_far (blk_far hr (p := ⟨gs, k * 4, none⟩) hne _) (p := ⟨gs, k * 4 + 1, none⟩) hne _) (p := ⟨gs, k * 4 + 2, none⟩) hne _) (p := ⟨gs, k * 4 + 3, none⟩) hne _
set_option maxHeartbeats 1000000 in
theorem stSub_any (gs gb gk o : Nat) (F : Nat → Nat) (w : World) (hF : ∀ i, F i < 256) (hs : St w gs F) (hbx : BoxC w gb) (hne : gb ≠ gs) :
    Calls Try.prog 88 #[.pointer (some ⟨gs, 0, none⟩), rndV gb gk o] w fun e w' => e = .returned (.tuple #[]) ∧ w.grownBy w' (some gs) ∧ St w' gs (fun i => Gf.sub (F i)) := by
  have HF := Lib.hid hF
  have hgw := hs.lt
  have HBX := Lib.hid hbx
  clear hbx
  have H0 : Hid (TrRel w gs gb gk o F (fun i => Gf.sub (F i)) (.int .i64 0) (w.alloc (.cells (rndC gb gk o) 152))) := Lib.hid (tr_start hs)
  clear hF hs
  go_enter Try.func88, Try.ntmps88
  go_wp2
  generalize w.alloc (.cells (rndC gb gk o) 152) = W0 at *
  go_loopw [7] (fun v wr => TrRel w gs gb gk o F (fun i => Gf.sub (F i)) v wr) (fun v _ => (4 - intOf v).toNat)
  case atStart => exact H0.out
  case round =>
    obtain ⟨k, rfl, hk, hg, hst, hrd⟩ := hrel
    have HG := Lib.hid hg
    have HST := Lib.hid hst
    have HRD := Lib.hid hrd
    clear hg hst hrd H0
    by_cases hlt : k < 4
    · have z0 := HF.out (k * 4)
      have z1 := HF.out (k * 4 + 1)
      have z2 := HF.out (k * 4 + 2)
      have z3 := HF.out (k * 4 + 3)
      have s0 : wr.cell? ⟨gs, k * 4, none⟩ = some (.int .u8 ((F (k * 4) : Nat) : Int)) := (HST.out.cell (i := k * 4) (by omega)).trans (by rw [if_neg (by omega)])
      have s1 : wr.cell? ⟨gs, k * 4 + 1, none⟩ = some (.int .u8 ((F (k * 4 + 1) : Nat) : Int)) := (HST.out.cell (i := k * 4 + 1) (by omega)).trans (by rw [if_neg (by omega)])
      have s2 : wr.cell? ⟨gs, k * 4 + 2, none⟩ = some (.int .u8 ((F (k * 4 + 2) : Nat) : Int)) := (HST.out.cell (i := k * 4 + 2) (by omega)).trans (by rw [if_neg (by omega)])
      have s3 : wr.cell? ⟨gs, k * 4 + 3, none⟩ = some (.int .u8 ((F (k * 4 + 3) : Nat) : Int)) := (HST.out.cell (i := k * 4 + 3) (by omega)).trans (by rw [if_neg (by omega)])
      have hgl := HST.out.lt
      have hrl := blk_lt HRD.out
      have HBR := Lib.hid (HBX.out.only HG.out hne)
      have HN : Hid (∀ W, wr.grownBy W (some gs) → St W gs (fun i => if i < k * 4 then Gf.sub (F i) else F i) → W.heap[w.heap.size]? = some (.cells (rndC gb gk o) 152 (0, 0)) → TrRel w gs gb gk o F (fun i => Gf.sub (F i)) (.int .i64 ((k : Int) + 1)) ((((W.setCell ⟨gs, k * 4, none⟩ (.int .u8 ((Gf.sub (F (k * 4)) : Nat) : Int))).setCell ⟨gs, k * 4 + 1, none⟩ (.int .u8 ((Gf.sub (F (k * 4 + 1)) : Nat) : Int))).setCell ⟨gs, k * 4 + 2, none⟩ (.int .u8 ((Gf.sub (F (k * 4 + 2)) : Nat) : Int))).setCell ⟨gs, k * 4 + 3, none⟩ (.int .u8 ((Gf.sub (F (k * 4 + 3)) : Nat) : Int)))) :=
        Lib.hid (fun W hgW hsW hrW => tr_step hlt hgw HG.out hgW hsW hrW rfl rfl rfl rfl)
      have HPL := Lib.hid (fun W h => through4_sub (g := gb) z0 z1 z2 z3 W h)
      generalize F (k * 4) = a0 at *
      generalize F (k * 4 + 1) = a1 at *
      generalize F (k * 4 + 2) = a2 at *
      generalize F (k * 4 + 3) = a3 at *
      clear z0 z1 z2 z3
      go_wp2
      go_region
      go_wp2
      have hb1 : Below wr.heap.size wr (wr.alloc (.cells (l4 a0 a1 a2 a3) 73)).drew := ((Below.refl _ _).alloc (Nat.le_refl _) _).drew
      have hn1 := heap_alloc_new wr (.cells (l4 a0 a1 a2 a3) 73)
      have HST1 := Lib.hid (HST.out.next hb1)
      have HG1 := Lib.hid (below_is_only hb1 gs)
      have HRD1 := Lib.hid ((hb1.block w.heap.size hrl).trans HRD.out)
      have r0 : (wr.alloc (.cells (l4 a0 a1 a2 a3) 73)).drew.cell? ⟨w.heap.size, 0, none⟩ = some (.pointer (some ⟨gb, 0, none⟩)) := blk_cell HRD1.out 0
      have HBR1 := Lib.hid (HBR.out.next hb1)
      have m0 : (wr.alloc (.cells (l4 a0 a1 a2 a3) 73)).drew.cell? ⟨wr.heap.size, 0, none⟩ = some (.int .u8 (a0 : Int)) := blk_cell hn1 0
      have m1 : (wr.alloc (.cells (l4 a0 a1 a2 a3) 73)).drew.cell? ⟨wr.heap.size, 1, none⟩ = some (.int .u8 (a1 : Int)) := blk_cell hn1 1
      have m2 : (wr.alloc (.cells (l4 a0 a1 a2 a3) 73)).drew.cell? ⟨wr.heap.size, 2, none⟩ = some (.int .u8 (a2 : Int)) := blk_cell hn1 2
      have m3 : (wr.alloc (.cells (l4 a0 a1 a2 a3) 73)).drew.cell? ⟨wr.heap.size, 3, none⟩ = some (.int .u8 (a3 : Int)) := blk_cell hn1 3
      have hsz1 : w.heap.size < (wr.alloc (.cells (l4 a0 a1 a2 a3) 73)).drew.heap.size := blk_lt HRD1.out
      clear s0 s1 s2 s3 hb1 hn1 HST HRD
      generalize (wr.alloc (.cells (l4 a0 a1 a2 a3) 73)).drew = W1 at *
      generalize wr.heap.size = gn at *
      go_region_with (first
        | (go_at_call 68; (with_reducible refine (HPL.out _ (BoxC.drew HBR1.out)).mono ?_); rintro e w2 ⟨rfl, hb2⟩
           have hS2 := (St.drew HST1.out).next hb2
           have c0 := hS2.cell (i := k * 4) (by omega)
           have c1 := hS2.cell (i := k * 4 + 1) (by omega)
           have c2 := hS2.cell (i := k * 4 + 2) (by omega)
           have c3 := hS2.cell (i := k * 4 + 3) (by omega)
           have f0 := hS2.free (k * 4)
           have f1 := hS2.free (k * 4 + 1)
           have f2 := hS2.free (k * 4 + 2)
           have f3 := hS2.free (k * 4 + 3)
           have HE := Lib.hid (HN.out w2 (only_trans (only_drew HG1.out) (below_is_only hb2 gs)) hS2 ((hb2.block w.heap.size hsz1).trans HRD1.out))
           clear hS2 hb2))
      all_goals
        go_wp2
        go_roundw
        case rel => exact HE.out
        case measure => simp [intOf]; omega
    · obtain rfl : k = 4 := by omega
      have hst := HST.out.congr (F' := fun i => Gf.sub (F i)) fun i hi => by rw [if_pos (by omega)]
      have HS2 := Lib.hid hst
      clear hst HST
      go_wp2
      go_end0
      exact ⟨rfl, HG.out, HS2.out⟩
set_option maxHeartbeats 1000000 in
theorem stMix_any (gs gb gk o : Nat) (F : Nat → Nat) (w : World) (hF : ∀ i, F i < 256) (hs : St w gs F) :
    Calls Try.prog 90 #[.pointer (some ⟨gs, 0, none⟩), rndV gb gk o] w fun e w' => e = .returned (.tuple #[]) ∧ w.grownBy w' (some gs) ∧ St w' gs (fun i => mixC facM (fun q => F (4 * (i / 4) + q)) (i % 4)) := by
  have HF := Lib.hid hF
  have hgw := hs.lt
  have H0 : Hid (TrRel w gs gb gk o F (fun i => mixC facM (fun q => F (4 * (i / 4) + q)) (i % 4)) (.int .i64 0) (w.alloc (.cells (rndC gb gk o) 152))) := Lib.hid (tr_start hs)
  clear hF hs
  go_enter Try.func90, Try.ntmps90
  go_wp2
  generalize w.alloc (.cells (rndC gb gk o) 152) = W0 at *
  go_loopw [7] (fun v wr => TrRel w gs gb gk o F (fun i => mixC facM (fun q => F (4 * (i / 4) + q)) (i % 4)) v wr) (fun v _ => (4 - intOf v).toNat)
  case atStart => exact H0.out
  case round =>
    obtain ⟨k, rfl, hk, hg, hst, hrd⟩ := hrel
    have HG := Lib.hid hg
    have HST := Lib.hid hst
    have HRD := Lib.hid hrd
    clear hg hst hrd H0
    by_cases hlt : k < 4
    · have z0 := HF.out (k * 4)
      have z1 := HF.out (k * 4 + 1)
      have z2 := HF.out (k * 4 + 2)
      have z3 := HF.out (k * 4 + 3)
      have s0 : wr.cell? ⟨gs, k * 4, none⟩ = some (.int .u8 ((F (k * 4) : Nat) : Int)) := (HST.out.cell (i := k * 4) (by omega)).trans (by rw [if_neg (by omega)])
      have s1 : wr.cell? ⟨gs, k * 4 + 1, none⟩ = some (.int .u8 ((F (k * 4 + 1) : Nat) : Int)) := (HST.out.cell (i := k * 4 + 1) (by omega)).trans (by rw [if_neg (by omega)])
      have s2 : wr.cell? ⟨gs, k * 4 + 2, none⟩ = some (.int .u8 ((F (k * 4 + 2) : Nat) : Int)) := (HST.out.cell (i := k * 4 + 2) (by omega)).trans (by rw [if_neg (by omega)])
      have s3 : wr.cell? ⟨gs, k * 4 + 3, none⟩ = some (.int .u8 ((F (k * 4 + 3) : Nat) : Int)) := (HST.out.cell (i := k * 4 + 3) (by omega)).trans (by rw [if_neg (by omega)])
      have hgl := HST.out.lt
      have hrl := blk_lt HRD.out
      have HN : Hid (∀ W, wr.grownBy W (some gs) → St W gs (fun i => if i < k * 4 then mixC facM (fun q => F (4 * (i / 4) + q)) (i % 4) else F i) → W.heap[w.heap.size]? = some (.cells (rndC gb gk o) 152 (0, 0)) → TrRel w gs gb gk o F (fun i => mixC facM (fun q => F (4 * (i / 4) + q)) (i % 4)) (.int .i64 ((k : Int) + 1)) ((((W.setCell ⟨gs, k * 4, none⟩ (.int .u8 ((mixC facM (f4 (F (k * 4)) (F (k * 4 + 1)) (F (k * 4 + 2)) (F (k * 4 + 3))) 0 : Nat) : Int))).setCell ⟨gs, k * 4 + 1, none⟩ (.int .u8 ((mixC facM (f4 (F (k * 4)) (F (k * 4 + 1)) (F (k * 4 + 2)) (F (k * 4 + 3))) 1 : Nat) : Int))).setCell ⟨gs, k * 4 + 2, none⟩ (.int .u8 ((mixC facM (f4 (F (k * 4)) (F (k * 4 + 1)) (F (k * 4 + 2)) (F (k * 4 + 3))) 2 : Nat) : Int))).setCell ⟨gs, k * 4 + 3, none⟩ (.int .u8 ((mixC facM (f4 (F (k * 4)) (F (k * 4 + 1)) (F (k * 4 + 2)) (F (k * 4 + 3))) 3 : Nat) : Int)))) :=
        Lib.hid (fun W hgW hsW hrW => tr_step hlt hgw HG.out hgW hsW hrW (mix_at facM F (r := 0) (by omega)) (mix_at facM F (r := 1) (by omega)) (mix_at facM F (r := 2) (by omega)) (mix_at facM F (r := 3) (by omega)))
      have HPL := Lib.hid (fun W => mix4_M z0 z1 z2 z3 W)
      generalize F (k * 4) = a0 at *
      generalize F (k * 4 + 1) = a1 at *
      generalize F (k * 4 + 2) = a2 at *
      generalize F (k * 4 + 3) = a3 at *
      clear z0 z1 z2 z3
      go_wp2
      go_region
      go_wp2
      have hb1 : Below wr.heap.size wr (wr.alloc (.cells (l4 a0 a1 a2 a3) 73)).drew := ((Below.refl _ _).alloc (Nat.le_refl _) _).drew
      have hn1 := heap_alloc_new wr (.cells (l4 a0 a1 a2 a3) 73)
      have HST1 := Lib.hid (HST.out.next hb1)
      have HG1 := Lib.hid (below_is_only hb1 gs)
      have HRD1 := Lib.hid ((hb1.block w.heap.size hrl).trans HRD.out)
      have r0 : (wr.alloc (.cells (l4 a0 a1 a2 a3) 73)).drew.cell? ⟨w.heap.size, 0, none⟩ = some (.pointer (some ⟨gb, 0, none⟩)) := blk_cell HRD1.out 0
      have m0 : (wr.alloc (.cells (l4 a0 a1 a2 a3) 73)).drew.cell? ⟨wr.heap.size, 0, none⟩ = some (.int .u8 (a0 : Int)) := blk_cell hn1 0
      have m1 : (wr.alloc (.cells (l4 a0 a1 a2 a3) 73)).drew.cell? ⟨wr.heap.size, 1, none⟩ = some (.int .u8 (a1 : Int)) := blk_cell hn1 1
      have m2 : (wr.alloc (.cells (l4 a0 a1 a2 a3) 73)).drew.cell? ⟨wr.heap.size, 2, none⟩ = some (.int .u8 (a2 : Int)) := blk_cell hn1 2
      have m3 : (wr.alloc (.cells (l4 a0 a1 a2 a3) 73)).drew.cell? ⟨wr.heap.size, 3, none⟩ = some (.int .u8 (a3 : Int)) := blk_cell hn1 3
      have hsz1 : w.heap.size < (wr.alloc (.cells (l4 a0 a1 a2 a3) 73)).drew.heap.size := blk_lt HRD1.out
      clear s0 s1 s2 s3 hb1 hn1 HST HRD
      generalize (wr.alloc (.cells (l4 a0 a1 a2 a3) 73)).drew = W1 at *
      generalize wr.heap.size = gn at *
      go_region_with (first
        | (go_at_call 95; (with_reducible refine (HPL.out _).mono ?_); rintro e w2 ⟨rfl, hb2⟩
           have hS2 := (St.drew HST1.out).next hb2
           have c0 := hS2.cell (i := k * 4) (by omega)
           have c1 := hS2.cell (i := k * 4 + 1) (by omega)
           have c2 := hS2.cell (i := k * 4 + 2) (by omega)
           have c3 := hS2.cell (i := k * 4 + 3) (by omega)
           have f0 := hS2.free (k * 4)
           have f1 := hS2.free (k * 4 + 1)
           have f2 := hS2.free (k * 4 + 2)
           have f3 := hS2.free (k * 4 + 3)
           have HE := Lib.hid (HN.out w2 (only_trans (only_drew HG1.out) (below_is_only hb2 gs)) hS2 ((hb2.block w.heap.size hsz1).trans HRD1.out))
           clear hS2 hb2))
      all_goals
        go_wp2
        go_roundw
        case rel => exact HE.out
        case measure => simp [intOf]; omega
    · obtain rfl : k = 4 := by omega
      have hst := HST.out.congr (F' := fun i => mixC facM (fun q => F (4 * (i / 4) + q)) (i % 4)) fun i hi => by rw [if_pos (by omega)]
      have HS2 := Lib.hid hst
      clear hst HST
      go_wp2
      go_end0
      exact ⟨rfl, HG.out, HS2.out⟩
end Go.Proofs.Ythjpaligpojlnaa
