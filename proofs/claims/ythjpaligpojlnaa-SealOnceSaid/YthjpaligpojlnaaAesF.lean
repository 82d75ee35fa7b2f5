/-
  Steps in a row; what a round needs; bytes as columns and back.
-/
import Derived.Test.YthjpaligpojlnaaAesD
import Derived.Test.YthjpaligpojlnaaAesE
namespace Go.Proofs.Ythjpaligpojlnaa
open Go.RowKit Go
set_option linter.unusedVariables false
attribute [local irreducible] Gf.inv Gf.tm Gf.pw Gf.spread Gf.sub Gf.boxAt Gf.bk Gf.rm Gf.bit
/-- the step is this function, and does this -/
structure StepOk (gb gk o : Nat) (K : Nat → Nat) (f : FuncId) (T : (Nat → Nat) → Nat → Nat) : Prop where
  enters : Enters f
  byte : ∀ F, (∀ i, F i < 256) → ∀ i, T F i < 256
  call : ∀ (gs : Nat) (F : Nat → Nat) (W : World), (∀ i, F i < 256) → St W gs F → BoxC W gb → gb ≠ gs → KeyC W gk o K → gk ≠ gs →
    Calls Try.prog f #[.pointer (some ⟨gs, 0, none⟩), rndV gb gk o] W fun e w' => e = .returned (.tuple #[]) ∧ W.grownBy w' (some gs) ∧ St w' gs (T F)
def stepsF (T : Nat → (Nat → Nat) → Nat → Nat) (F : Nat → Nat) : Nat → Nat → Nat
  | 0 => F
  | n + 1 => T n (stepsF T F n)
/-- a row of steps -/
def Steps (w : World) (b n : Nat) (fid : Nat → FuncId) : Prop := b < w.heap.size ∧ ∀ i, i < n → w.cell? ⟨b, i, none⟩ = some (.func (Fn.func (fid i)) #[] #[])
def DoRel (w : World) (gs gb gk o : Nat) (F : Nat → Nat) (T : Nat → (Nat → Nat) → Nat → Nat) (n : Nat) (v : Value) (wr : World) : Prop :=
  ∃ i : Nat, v = .int .i64 (i : Int) ∧ i ≤ n ∧ w.grownBy wr (some gs) ∧ St wr gs (stepsF T F i) ∧ (∀ j, stepsF T F i j < 256) ∧ wr.heap[w.heap.size]? = some (.cells (rndC gb gk o) 152 (0, 0))
set_option maxHeartbeats 1000000 in
theorem do_any (gs gb gk o b n : Nat) (fid : Nat → FuncId) (T : Nat → (Nat → Nat) → Nat → Nat) (F K : Nat → Nat) (w : World) (hn : n ≤ 100) (hF : ∀ i, F i < 256) (hs : St w gs F) (hbx : BoxC w gb) (hbn : gb ≠ gs) (hk : KeyC w gk o K) (hkn : gk ≠ gs)
    (hst : Steps w b n fid) (hbs : b ≠ gs) (hok : ∀ i, i < n → StepOk gb gk o K (fid i) (T i)) :
    Calls Try.prog 85 #[.pointer (some ⟨gs, 0, none⟩), rndV gb gk o, .slice (some ⟨b, 0, none⟩) n n] w
      fun e w' => e = .returned (.tuple #[]) ∧ w.grownBy w' (some gs) ∧ St w' gs (stepsF T F n) := by
  have hgw := hs.lt
  have HBX := Lib.hid hbx
  have HK := Lib.hid hk
  have HST := Lib.hid hst
  have HOK := Lib.hid hok
  have H0 : Hid (DoRel w gs gb gk o F T n (.int .i64 0) (w.alloc (.cells (rndC gb gk o) 152))) := Lib.hid
    ⟨0, rfl, by omega, World.grownBy_alloc w _ _, hs.next ((Below.refl _ _).alloc (Nat.le_refl _) _), hF, heap_alloc_new w _⟩
  clear hF hs hbx hk hst hok
  go_enter Try.func85, Try.ntmps85
  go_wp2
  generalize w.alloc (.cells (rndC gb gk o) 152) = W0 at *
  go_loopw [10] (fun v wr => DoRel w gs gb gk o F T n v wr) (fun v _ => (n - intOf v).toNat)
  case atStart => exact H0.out
  case round =>
    obtain ⟨i, rfl, hi, hg, hss, hby, hrd⟩ := hrel
    have HG := Lib.hid hg
    have HS := Lib.hid hss
    have HBY := Lib.hid hby
    have HRD := Lib.hid hrd
    clear hg hss hby hrd H0
    by_cases hlt : i < n
    · have hi1 : (i : Int) < (n : Int) := by omega
      have k1 : wr.cell? ⟨b, i, none⟩ = some (.func (Fn.func (fid i)) #[] #[]) := (World.cell?_of_block (HG.out.block b HST.out.1 (fun e => by injection e with e; exact hbs e))).trans (HST.out.2 i hlt)
      have k2 : wr.cell? ⟨w.heap.size, 0, none⟩ = some (.pointer (some ⟨gb, 0, none⟩)) := blk_cell HRD.out 0
      have k3 : wr.cell? ⟨w.heap.size, 1, none⟩ = some (.pointer (some ⟨gk, o, none⟩)) := blk_cell HRD.out 1
      have hok := HOK.out i hlt
      have hen := hok.enters
      have HC := Lib.hid (hok.call gs _ wr HBY.out HS.out (HBX.out.only HG.out hbn) hbn (HK.out.only HG.out hkn) hkn)
      have HBN : Hid (∀ j, stepsF T F (i + 1) j < 256) := Lib.hid (hok.byte _ HBY.out)
      have hrl := blk_lt HRD.out
      unfold Enters at hen
      clear hok HS
      generalize fid i = f at *
      go_wp2_with fail
      refine HC.out.mono ?_
      rintro e w2 ⟨rfl, hg2, hs2⟩
      have HN : Hid (DoRel w gs gb gk o F T n (.int .i64 ((i : Int) + 1)) w2) := Lib.hid ⟨i + 1, rfl, by omega, only_trans HG.out hg2, hs2, HBN.out, (hg2.block w.heap.size hrl (fun e => by injection e with e; omega)).trans HRD.out⟩
      clear hg2 hs2 hen k1 k2 k3
      go_wp2
      go_roundw
      case rel => exact HN.out
      case measure => simp [intOf]; omega
    · obtain rfl : i = n := by omega
      clear HRD
      go_wp2
      go_end0
      exact ⟨rfl, HG.out, HS.out⟩
end Go.Proofs.Ythjpaligpojlnaa
