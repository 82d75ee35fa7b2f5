/-
  A round's steps: the rows that are turned.
-/
import Derived.Test.YthjpaligpojlnaaAesC
namespace Go.Proofs.Ythjpaligpojlnaa
open Go.RowKit Go
set_option linter.unusedVariables false
theorem zero_st (w : World) : (zeroValue 75).run Try.prog w = .ok (.agg (rowV (fun _ => u8 0) 16)) w := by kernel_rfl
theorem info_st (F : Nat → Nat) : (Try.prog.info? 75).map (·.size) = some (rowV (fun i => u8 (F i)) 16).size := by rw [rowV_size]; kernel_rfl
theorem one_rowF (F : Nat → Nat) (N : Nat) : (rowV (fun i => u8 (F i)) N).all (·.oneCell') = true := by
  rw [Array.all_eq_true]
  intro i hi
  rw [rowV_size] at hi
  have h := rowV_at (fun i => u8 (F i)) hi
  have h2 : (rowV (fun i => u8 (F i)) N)[i]'(by rw [rowV_size]; exact hi) = u8 (F i) := by
    rw [Array.getElem?_eq_getElem (by rw [rowV_size]; exact hi)] at h
    exact Option.some.inj h
  rw [h2]
  rfl
def shF (b : Nat) (F : Nat → Nat) (i : Nat) : Nat := F (4 * ((i / 4 + b * (i % 4)) % 4) + i % 4)
/-- so many bytes are turned -/
def shP (b : Nat) (F : Nat → Nat) (n i : Nat) : Nat := if i < n then shF b F i else F i
def ShC (w : World) (gs b : Nat) (F : Nat → Nat) (n : Nat) (wr : World) : Prop := w.grownBy wr (some gs) ∧ St wr gs (shP b F n) ∧ St wr w.heap.size F
def ShA (w : World) (gs b : Nat) (F : Nat → Nat) (v : Value) (wr : World) : Prop := ∃ c : Nat, v = .int .i64 (c : Int) ∧ c ≤ 4 ∧ ShC w gs b F (4 * c) wr
def ShB (w : World) (gs b : Nat) (F : Nat → Nat) (c : Nat) (v : Value) (wr : World) : Prop := ∃ r : Nat, v = .int .i64 (r : Int) ∧ r ≤ 4 ∧ ShC w gs b F (4 * c + r) wr
theorem ShC.step {w wr : World} {gs b c r x : Nat} {F : Nat → Nat} (hgl : gs < w.heap.size) (hc : c < 4) (hr : r < 4) (h : ShC w gs b F (4 * c + r) wr) (hx : x = F (4 * ((c + b * r) % 4) + r)) (q : Nat) :
    ShC w gs b F (4 * c + (r + 1)) ((wr.drewN q).setCell ⟨gs, c * 4 + r, none⟩ (.int .u8 (x : Int))) := by
  obtain ⟨h1, h2, h3⟩ := h
  have e1 : w.grownBy (wr.drewN q) (some gs) := ⟨h1.os, h1.tape, h1.output, h1.size, h1.block⟩
  refine ⟨only_set e1 (.inl rfl) _, ?_, Row.far (Row.drewN h3 q) (by show w.heap.size ≠ gs; omega) _⟩
  refine Row.congr (Row.set_ (Row.drewN h2 q) (c * 4 + r) (.int .u8 (x : Int))) fun i hi => ?_
  subst hx
  by_cases e : i = c * 4 + r
  · subst e
    rw [if_pos rfl]
    unfold shP shF
    rw [if_pos (by omega)]
    have e1 : (c * 4 + r) / 4 = c := by omega
    have e2 : (c * 4 + r) % 4 = r := by omega
    rw [e1, e2]
    rfl
  · rw [if_neg e]
    unfold shP
    by_cases h : i < 4 * c + r
    · rw [if_pos h, if_pos (by omega)]
    · rw [if_neg h, if_neg (by omega)]
set_option maxHeartbeats 2000000 in
set_option maxRecDepth 100000 in
theorem shiftBy_any (gs b : Nat) (hb4 : b ≤ 3) (F : Nat → Nat) (w : World) (hF : ∀ i, F i < 256) (hs : St w gs F) :
    Calls Try.prog 94 #[.pointer (some ⟨gs, 0, none⟩), .int .i64 (b : Int)] w fun e w' => e = .returned (.tuple #[]) ∧ w.grownBy w' (some gs) ∧ St w' gs (shF b F) := by
  have hz := zero_st
  have HF := Lib.hid hF
  have hgl := hs.lt
  have ha := heap_alloc_new w (.cells (rowV (fun _ => u8 0) 16) 75)
  have HA := Lib.hid ha
  have HSS := Lib.hid hs
  have HI := Lib.hid (info_st F)
  have HO := Lib.hid (one_rowF F 16)
  have HZ : Hid ((rowV (fun _ => u8 0) 16).size = (rowV (fun i => u8 (F i)) 16).size) := Lib.hid (by rw [rowV_size, rowV_size])
  have hbb : Below w.heap.size w ((w.alloc (.cells (rowV (fun _ => u8 0) 16) 75)).setRow w.heap.size (rowV (fun i => u8 (F i)) 16)) := below_setRow ((Below.refl _ _).alloc (Nat.le_refl _) _) (Nat.le_refl _) _
  have H0 : Hid (ShA w gs b F (.int .i64 0) ((w.alloc (.cells (rowV (fun _ => u8 0) 16) 75)).setRow w.heap.size (rowV (fun i => u8 (F i)) 16))) := Lib.hid
    ⟨0, rfl, by omega, below_is_only hbb gs, (hs.next hbb).congr fun i hi => by unfold shP; rw [if_neg (by omega)], setRow_heap _ _ _ (rowV (fun i => u8 (F i)) 16) _ _ ha⟩
  have HW : Hid (w.heap[gs]? = some (.cells (rowV (fun i => u8 (F i)) 16) 75 (0, 0))) := Lib.hid hs
  clear hF hs ha hbb
  go_enter Try.func94, Try.ntmps94
  go_wp2_with (first
    | (with_reducible refine wpList_load_row rfl 75 (.tmp 8) rfl gs rfl 75 _ _ _ HW.out Try.underlying75 rfl HI.out ?_)
    | (with_reducible refine wpList_store_row rfl 75 (.tmp 4) (.tmp 9) rfl _ _ rfl rfl 75 _ HA.out HI.out HZ.out HO.out ?_))
  generalize (w.alloc (.cells (rowV (fun _ => u8 0) 16) 75)).setRow w.heap.size (rowV (fun i => u8 (F i)) 16) = W at *
  clear hz HA HZ
  go_loopw [10] (fun v wr => ShA w gs b F v wr) (fun v _ => (4 - intOf v).toNat)
  case atStart => exact H0.out
  case round =>
    obtain ⟨c, rfl, hc, hr⟩ := hrel
    have HR := Lib.hid hr
    clear hr H0
    by_cases hlt : c < 4
    · go_wp2
      obtain ⟨wo, hwo⟩ : ∃ wo : World, wo = wr := ⟨_, rfl⟩
      subst hwo
      have H1 : Hid (ShB w gs b F c (.int .i64 0) wo) := Lib.hid ⟨0, rfl, by omega, HR.out⟩
      clear HR
      go_loopw [13] (fun v wr => ShB w gs b F c v wr) (fun v _ => (4 - intOf v).toNat)
      case atStart => exact H1.out
      case round =>
        obtain ⟨r, rfl, hrr, hr2⟩ := hrel
        have HR2 := Lib.hid hr2
        clear hr2 H1
        by_cases hrt : r < 4
        · have hbr : b * r ≤ 9 := by
            have := Nat.mul_le_mul hb4 (show r ≤ 3 by omega)
            omega
          obtain ⟨p, hp⟩ : ∃ p, p = b * r := ⟨_, rfl⟩
          obtain ⟨x, hx⟩ : ∃ x, x = F (4 * ((c + b * r) % 4) + r) := ⟨_, rfl⟩
          obtain ⟨j, hj⟩ : ∃ j, j = (c + p) % 4 := ⟨_, rfl⟩
          have hjl : j < 4 := by omega
          have hpl : p ≤ 9 := by omega
          have k1 : wr.cell? ⟨w.heap.size, j * 4 + r, none⟩ = some (.int .u8 (x : Int)) := by
            have h := HR2.out.2.2.cell (i := j * 4 + r) (by omega)
            rw [h, hx, hj, hp, Nat.mul_comm]
          have k2 : wr.cell? ⟨gs, c * 4 + r, none⟩ = some (.int .u8 ((shP b F (4 * c + r) (c * 4 + r) : Nat) : Int)) := HR2.out.2.1.cell (i := c * 4 + r) (by omega)
          have k3 := HR2.out.2.1.free (c * 4 + r)
          have HN : Hid (∀ q, ShB w gs b F c (.int .i64 ((r : Int) + 1)) ((wr.drewN q).setCell ⟨gs, c * 4 + r, none⟩ (.int .u8 (x : Int)))) := Lib.hid fun q => ⟨r + 1, rfl, by omega, HR2.out.step hgl hlt hrt hx q⟩
          have q0 : (b : Int) * (r : Int) = (p : Int) := by rw [hp, Int.natCast_mul]
          have q1 : IntKind.i64.wrap (p : Int) = (p : Int) := IntWalk.i64_in _ (by omega)
          have q2 : IntKind.i64.wrap ((c : Int) + (p : Int)) = (c : Int) + (p : Int) := IntWalk.i64_in _ (by omega)
          have q3 : ((c : Int) + (p : Int)).tmod 4 = (j : Int) := by rw [Int.tmod_eq_emod_of_nonneg (by omega)]; omega
          generalize shP b F (4 * c + r) (c * 4 + r) = old at *
          clear hx hp hj HR2 hbr
          go_wp2
          go_region
          go_wp2
          go_roundw
          case rel => exact HN.out 1
          case measure => simp [intOf]; omega
        · obtain rfl : r = 4 := by omega
          have H2 : Hid (ShA w gs b F (.int .i64 ((c : Int) + 1)) wr) := Lib.hid ⟨c + 1, rfl, by omega, HR2.out⟩
          clear HR2
          go_wp2
          go_roundw
          case rel => exact H2.out
          case measure => simp [intOf]; omega
    · obtain rfl : c = 4 := by omega
      have HG := Lib.hid HR.out.1
      have HS := Lib.hid (HR.out.2.1.congr (F' := shF b F) fun i hi => by unfold shP; rw [if_pos (by omega)])
      clear HR
      go_wp2
      go_end0
      exact ⟨rfl, HG.out, HS.out⟩
theorem shift_any (gs : Nat) (R : Array Value) (F : Nat → Nat) (w : World) (hF : ∀ i, F i < 256) (hs : St w gs F) (x y : Value) (hR : R = #[x, y]) :
    Calls Try.prog 89 #[.pointer (some ⟨gs, 0, none⟩), .agg R] w fun e w' => e = .returned (.tuple #[]) ∧ w.grownBy w' (some gs) ∧ St w' gs (shF 1 F) := by
  subst hR
  have hb : Below w.heap.size w (w.alloc (.cells #[x, y] 152)) := (Below.refl _ _).alloc (Nat.le_refl _) _
  have HS := Lib.hid (hs.next hb)
  have HG := Lib.hid (below_is_only hb gs)
  have H1 := Lib.hid (fun W h => shiftBy_any gs 1 (by omega) F W hF h)
  clear hs hb hF
  go_enter Try.func89, Try.ntmps89
  go_wp2_with fail
  refine (H1.out _ HS.out).mono ?_
  rintro e w2 ⟨rfl, hg2, hs2⟩
  have HG2 := Lib.hid (only_trans HG.out hg2)
  have HS2 := Lib.hid hs2
  clear hg2 hs2
  go_wp2
  go_end0
  exact ⟨rfl, HG2.out, HS2.out⟩
end Go.Proofs.Ythjpaligpojlnaa
