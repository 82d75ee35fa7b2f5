/-
  Xor gives a new block.
-/
import Derived.Test.YthjpaligpojlnaaXorA
namespace Go.Proofs.Ythjpaligpojlnaa
open Go.RowKit
set_option linter.unusedVariables false
set_option maxRecDepth 100000
set_option maxRecDepth 100000 in
theorem Gives.new {w w' : World} {l : List Nat} {m n : Nat} (h : Gives w l (.returned (.slice (some ⟨w.heap.size, 0, none⟩) m n)) w') : GivesN w l (.returned (.slice (some ⟨w.heap.size, 0, none⟩) m n)) w' := by
  obtain ⟨A, c, he, hb, hx⟩ := h
  refine ⟨A, c, he, hb, hx, fun ad q => ?_⟩
  have h1 := (Value.slice.inj (Ending.returned.inj he)).1
  rw [q] at h1
  rw [← Option.some.inj h1]
  exact Nat.le_refl _
set_option maxHeartbeats 400000 in
theorem xor_new (A A2 : Option Addr) (n c n2 c2 : Nat) (l l2 : List Nat) (w : World) (hs : BS w w.heap.size A n c l) (hs2 : BS w w.heap.size A2 n2 c2 l2) (hn : n ≤ 1000) (hn2 : n2 ≤ 1000) :
    Calls Try.prog 65 #[.slice A n c, .slice A2 n2 c2] w (GivesN w (xorL l l2)) := by
  have hlen := hs.len
  have hlen2 := hs2.len
  have HL := Lib.hid hlen
  have HL2 := Lib.hid hlen2
  have hc := hs.cap
  have hc2 := hs2.cap
  have HS := Lib.hid hs
  have HS2 := Lib.hid hs2
  clear hlen hlen2 hs hs2
  have key : ∀ m : Nat, m ≤ n → m ≤ n2 → min n n2 = m → ((n : Int) ≤ n2 ∧ m = n ∨ (n2 : Int) < n ∧ m = n2) → Calls Try.prog 65 #[.slice A n c, .slice A2 n2 c2] w (GivesN w (xorL l l2)) := by
    intro m hm1 hm2 hmin hcase
    have HM := Lib.hid hmin
    clear hmin
    have hmk := make_bytes m (by omega)
    have H0 := Lib.hid (row_start w (fun i => l.getD i 0 ^^^ l2.getD i 0) m)
    have HF : Hid (∀ w', Below w.heap.size w w' → w'.heap[w.heap.size]? = some (.cells (rowOf (fun i => l.getD i 0 ^^^ l2.getD i 0) m m) 5 (0, 0)) → GivesN w (xorL l l2) (.returned (.slice (some ⟨w.heap.size, 0, none⟩) m m)) w') :=
      Lib.hid (fun w' hb hx => row_end (by omega) (fun i _ => Nat.xor_lt_two_pow (n := 8) (HS.out.byte i) (HS2.out.byte i)) (by unfold xorL; rw [HL.out, HL2.out, HM.out]) hb hx |>.new)
    rcases hcase with ⟨h, rfl⟩ | ⟨h, rfl⟩
    all_goals
      go_enter Try.func65, Try.ntmps65
      go_wp2
      go_loopw [15] (fun k wr => RowRel w (fun i => l.getD i 0 ^^^ l2.getD i 0) _ k wr) (fun k _ => (1000 - intOf k).toNat)
      case atStart => exact H0.out
      case round =>
        obtain ⟨j, rfl, hj, hb, hx⟩ := hrel
        by_cases hlt : j < m
        · obtain ⟨b, o, rfl, hbB, hcell⟩ := HS.out.at_ (by omega)
          obtain ⟨b2, o2, rfl, hbB2, hcell2⟩ := HS2.out.at_ (by omega)
          have k1 : wr.cell? ⟨b, o + j, none⟩ = some (.int .u8 ((l.getD j 0 : Nat) : Int)) := (hb.cell hbB).trans (hcell j (by omega))
          have k2 : wr.cell? ⟨b2, o2 + j, none⟩ = some (.int .u8 ((l2.getD j 0 : Nat) : Int)) := (hb.cell hbB2).trans (hcell2 j (by omega))
          have y1 := HS.out.byte j
          have y2 := HS2.out.byte j
          have HB := Lib.hid (xor8 y1 y2)
          have hst := row_step hlt hb hx
          have HR := Lib.hid hst
          have f1 : wr.cell? ⟨w.heap.size, j, none⟩ = some _ := (blk_cell hx j).trans (Array.getElem?_eq_getElem (by rw [rowOf_size]; omega))
          have f2 := blk_free hx j
          generalize (rowOf (fun i => l.getD i 0 ^^^ l2.getD i 0) m j)[j]'_ = old at f1
          clear hst hcell hcell2 H0 HF hx hb
          generalize l.getD j 0 = x at *
          generalize l2.getD j 0 = y at *
          go_wp2
          go_region
          go_wp2
          go_roundw
          case rel => rw [HB.out]; exact HR.out
          case measure => simp [intOf]; omega
        · obtain rfl : j = m := by omega
          have H := Lib.hid (HF.out wr hb hx)
          clear H0 HF hx hb
          go_wp2
          go_ret
          exact H.out
  by_cases h : n ≤ n2
  · exact key n (Nat.le_refl _) h (by omega) (.inl ⟨by omega, rfl⟩)
  · exact key n2 (by omega) (Nat.le_refl _) (by omega) (.inr ⟨by omega, rfl⟩)

end Go.Proofs.Ythjpaligpojlnaa
