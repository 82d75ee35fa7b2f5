/-
  The power goes: what becomes of a word.
-/
import Derived.Test.YthigknolpdohoaaNvT
namespace Go.Proofs.Ythigknolpdohoaa
open Go.RowKit Go
set_option linter.unusedVariables false
set_option linter.unusedSimpArgs false
set_option maxRecDepth 100000
/-- do the picks tell that the pending word with the number j lasts? -/
def pickB (l : List Nat) (j : Nat) : Bool := decide (0 < l.length) && (l.getD (j % l.length) 0 % 2 == 1)
/-- what becomes of a word -/
def Wd.cr (l : List Nat) (j : Nat) (x : Wd) : Wd := if x.pend then (if pickB l j then x.keep else x.lose) else x
theorem crash1_no (b o : Nat) (p q : Value) (w : World) (h : w.cell? ⟨b, o + 16, none⟩ = some (.bool false)) :
    Calls Try.prog 47 #[.pointer (some ⟨b, o, none⟩), p, q] w fun e w' => e = .returned (.tuple #[]) ∧ w' = w := crash1_quiet b o p q w h
/-- the number of the pending words -/
def Cnt (W : World) (qq j : Nat) : Prop := W.cell? ⟨qq, 0, none⟩ = some (.int .i64 (j : Int)) ∧ W.frozen? ⟨qq, 0, none⟩ = false
def CrE (w : World) (b qq j : Nat) (ws : List Wd) (e : Ending) (w' : World) : Prop := e = .returned (.tuple #[]) ∧ Turns (fun k => k = b ∨ k = qq) w w' ∧ MemB w' b LineT ws ∧ Cnt w' qq j
theorem cr_end {w w1 : World} {b qq j : Nat} {ws : List Wd} (ht : Turns (fun k => k = b) w w1) (hm : MemB w1 b LineT ws) (hq : Cnt w1 qq j) (hqb : qq ≠ b) : CrE w b qq (j + 1) ws (.returned (.tuple #[])) (w1.setCell ⟨qq, 0, none⟩ (.int .i64 ((j : Int) + 1))) := by
  refine ⟨rfl, (ht.mono (fun _ _ e => .inl e)).trans (S' := fun k => k = b ∨ k = qq) (Turns.set _ _ (.inr rfl)) (fun _ _ e => e), hm.same (Below.heap_setCell _ _ _ _ (fun e => hqb e.symm)), ?_, ?_⟩
  · rw [World.cell?_setCell_same _ _ _ hq.1]; rfl
  · rw [World.frozen?_setCell]; exact hq.2
set_option maxHeartbeats 2000000 in
theorem crash1_empty (b pp qq j i c : Nat) (A : Option Addr) (ws : List Wd) (x : Wd) (w : World) (h : MemB w b LineT ws) (hi : ws[i]? = some x) (hp : w.cell? ⟨pp, 0, none⟩ = some (.slice A 0 c)) (hq : Cnt w qq j) (hqb : qq ≠ b) (hql : qq < w.heap.size) (hj : j ≤ 100000) (hx : x.pend = true) :
    Calls Try.prog 47 #[.pointer (some ⟨b, 18 * i, none⟩), .pointer (some ⟨pp, 0, none⟩), .pointer (some ⟨qq, 0, none⟩)] w (CrE w b qq (j + 1) (ws.set i x.lose)) := by
  have hpe := h.pend hi
  rw [hx] at hpe
  have HL := Lib.hid (fun W (hm : MemB W b LineT ws) => lose_m (w := W) hm hi)
  have HM := Lib.hid h
  have HQ := Lib.hid hq
  have HN := Lib.hid (And.intro hqb hql)
  clear h hq hi hqb hql
  go_enter Try.func47, Try.ntmps47
  go_wp2_with fail
  go_region
  go_wp2_with fail
  refine (HL.out _ HM.out.drew).mono ?_
  rintro e w1 ⟨rfl, ht, hm⟩
  have hb1 : w1.heap[qq]? = w.heap[qq]? := ht.block qq HN.out.2 HN.out.1
  have hc : w1.cell? ⟨qq, 0, none⟩ = some (.int .i64 (j : Int)) := (World.cell?_of_block hb1).trans HQ.out.1
  have hf : w1.frozen? ⟨qq, 0, none⟩ = false := (World.frozen?_of_block hb1).trans HQ.out.2
  have ht2 : Turns (fun k => k = b) w w1 := ⟨ht.os, ht.tape, ht.output, ht.size, ht.block⟩
  have HE := Lib.hid (cr_end ht2 hm ⟨hc, hf⟩ HN.out.1)
  clear ht ht2 hm hb1
  go_wp2_with fail
  go_end0
  exact HE.out
set_option maxHeartbeats 2000000 in
theorem crash1_keep (b pp qq j i c n r v : Nat) (xb xo : Nat) (ws : List Wd) (x : Wd) (w : World) (h : MemB w b LineT ws) (hi : ws[i]? = some x) (hp : w.cell? ⟨pp, 0, none⟩ = some (.slice (some ⟨xb, xo, none⟩) n c)) (hn : 0 < n) (hr : r = j % n) (hv : w.cell? ⟨xb, xo + r, none⟩ = some (.int .u8 (v : Int))) (hv2 : v % 2 = 1) (hq : Cnt w qq j) (hqb : qq ≠ b) (hql : qq < w.heap.size) (hj : j ≤ 100000) (hx : x.pend = true) :
    Calls Try.prog 47 #[.pointer (some ⟨b, 18 * i, none⟩), .pointer (some ⟨pp, 0, none⟩), .pointer (some ⟨qq, 0, none⟩)] w (CrE w b qq (j + 1) (ws.set i x.keep)) := by
  have hpe := h.pend hi
  rw [hx] at hpe
  have HL := Lib.hid (fun W (hm : MemB W b LineT ws) => keep_m (w := W) hm hi)
  have HM := Lib.hid h
  have HQ := Lib.hid hq
  have HN := Lib.hid (And.intro hqb hql)
  have hcj := hq.1
  have hn0 : (0 : Int) < (n : Int) := by omega
  have hnz : (n : Int) ≠ 0 := by omega
  have hrl : r < n := by rw [hr]; exact Nat.mod_lt _ hn
  have hmod : (j : Int).tmod (n : Int) = (r : Int) := by rw [hr]; exact Int.ofNat_tmod j n
  have hvm : (v : Int).tmod 2 = 1 := by have := Int.ofNat_tmod v 2; rw [hv2] at this; exact this.symm
  have hrj : r ≤ j := by rw [hr]; exact Nat.mod_le _ _
  clear h hq hi hqb hql hr hv2
  go_enter Try.func47, Try.ntmps47
  go_wp2_with fail
  go_region
  go_wp2_with fail
  refine (HL.out _ HM.out.drew).mono ?_
  rintro e w1 ⟨rfl, ht, hm⟩
  have hb1 : w1.heap[qq]? = w.heap[qq]? := ht.block qq HN.out.2 HN.out.1
  have hc : w1.cell? ⟨qq, 0, none⟩ = some (.int .i64 (j : Int)) := (World.cell?_of_block hb1).trans HQ.out.1
  have hf : w1.frozen? ⟨qq, 0, none⟩ = false := (World.frozen?_of_block hb1).trans HQ.out.2
  have ht2 : Turns (fun k => k = b) w w1 := ⟨ht.os, ht.tape, ht.output, ht.size, ht.block⟩
  have HE := Lib.hid (cr_end ht2 hm ⟨hc, hf⟩ HN.out.1)
  clear ht ht2 hm hb1
  go_wp2_with fail
  go_end0
  exact HE.out
set_option maxHeartbeats 2000000 in
theorem crash1_lose (b pp qq j i c n r v : Nat) (xb xo : Nat) (ws : List Wd) (x : Wd) (w : World) (h : MemB w b LineT ws) (hi : ws[i]? = some x) (hp : w.cell? ⟨pp, 0, none⟩ = some (.slice (some ⟨xb, xo, none⟩) n c)) (hn : 0 < n) (hr : r = j % n) (hv : w.cell? ⟨xb, xo + r, none⟩ = some (.int .u8 (v : Int))) (hv2 : v % 2 = 0) (hq : Cnt w qq j) (hqb : qq ≠ b) (hql : qq < w.heap.size) (hj : j ≤ 100000) (hx : x.pend = true) :
    Calls Try.prog 47 #[.pointer (some ⟨b, 18 * i, none⟩), .pointer (some ⟨pp, 0, none⟩), .pointer (some ⟨qq, 0, none⟩)] w (CrE w b qq (j + 1) (ws.set i x.lose)) := by
  have hpe := h.pend hi
  rw [hx] at hpe
  have HL := Lib.hid (fun W (hm : MemB W b LineT ws) => lose_m (w := W) hm hi)
  have HM := Lib.hid h
  have HQ := Lib.hid hq
  have HN := Lib.hid (And.intro hqb hql)
  have hcj := hq.1
  have hn0 : (0 : Int) < (n : Int) := by omega
  have hnz : (n : Int) ≠ 0 := by omega
  have hrl : r < n := by rw [hr]; exact Nat.mod_lt _ hn
  have hmod : (j : Int).tmod (n : Int) = (r : Int) := by rw [hr]; exact Int.ofNat_tmod j n
  have hvm : (v : Int).tmod 2 = 0 := by have := Int.ofNat_tmod v 2; rw [hv2] at this; exact this.symm
  have hrj : r ≤ j := by rw [hr]; exact Nat.mod_le _ _
  clear h hq hi hqb hql hr hv2
  go_enter Try.func47, Try.ntmps47
  go_wp2_with fail
  go_region
  go_wp2_with fail
  refine (HL.out _ HM.out.drew).mono ?_
  rintro e w1 ⟨rfl, ht, hm⟩
  have hb1 : w1.heap[qq]? = w.heap[qq]? := ht.block qq HN.out.2 HN.out.1
  have hc : w1.cell? ⟨qq, 0, none⟩ = some (.int .i64 (j : Int)) := (World.cell?_of_block hb1).trans HQ.out.1
  have hf : w1.frozen? ⟨qq, 0, none⟩ = false := (World.frozen?_of_block hb1).trans HQ.out.2
  have ht2 : Turns (fun k => k = b) w w1 := ⟨ht.os, ht.tape, ht.output, ht.size, ht.block⟩
  have HE := Lib.hid (cr_end ht2 hm ⟨hc, hf⟩ HN.out.1)
  clear ht ht2 hm hb1
  go_wp2_with fail
  go_end0
  exact HE.out
end Go.Proofs.Ythigknolpdohoaa
