/-
  The example of chapter 11; PrioNil's walk.
-/
import Derived.Test.YtoioflbgmofgfabPrF
namespace Go.Proofs.Ytoioflbgmofgfab
open Go.RowKit Go
set_option linter.unusedVariables false
set_option linter.unusedSimpArgs false
def exL : List (Int × Int) := [(3, 0), (1, 0), (2, 0)]
theorem ex_qi : QI (pushN [] 0 exL) [⟨3, 0, 0⟩, ⟨1, 0, 1⟩, ⟨2, 0, 2⟩] := (QI.push QI.nil 0 (fun _ h => by cases h) exL).1
theorem ex_pop : popE (pushN [] 0 exL) = ⟨1, 0, 1⟩ ∧ QI (popF (pushN [] 0 exL)) [⟨3, 0, 0⟩, ⟨2, 0, 2⟩] := QI.pop ex_qi (a := 1) ⟨by decide, fun j hj => by
  have : j = 0 ∨ j = 1 ∨ j = 2 := by simp at hj; omega
  rcases this with rfl | rfl | rfl <;> simp [ea, enLe]⟩
theorem ex_peek : ea (popF (pushN [] 0 exL)) 0 = ⟨2, 0, 2⟩ := QI.first ex_pop.2 (a := 1) ⟨by decide, fun j hj => by
  have : j = 0 ∨ j = 1 := by simp at hj; omega
  rcases this with rfl | rfl <;> simp [ea, enLe]⟩
theorem Qed.qu_ {w w' : World} {g t : Nat} {v : Value} {es : List En} (h : Qed w g v es t w') : ∃ v', Qu w' g v' es t := by obtain ⟨_, v', h1, _⟩ := h; exact ⟨v', h1⟩
theorem Qed.below {w w' : World} {B g t : Nat} {v : Value} {es : List En} (h : Qed w g v es t w') (hB : B ≤ g) (hv : ∀ j, v.ownBlock = some j → B ≤ j) (hw : B ≤ w.heap.size) : Below B w w' :=
  h.turns.below hw (fun j q => q.elim (fun e => by omega) (hv j))
set_option maxHeartbeats 1000000 in
set_option maxRecDepth 100000 in
theorem awake11_any (w : World) : Calls Try.prog 25 #[] w fun e w' => e = .returned (.bool true) ∧ Below w.heap.size w w' := by
  have HNW := Lib.hid (newq_any w)
  go_enter Try.func25, Try.ntmps25
  go_wp2_with fail
  refine HNW.out.mono ?_
  rintro e w1 ⟨rfl, hq1, hb1⟩
  have h1 := hq1.next ((Below.refl w1.heap.size w1).alloc (Nat.le_refl _) (.cells #[.int .i64 3, .int .i64 0, .int .i64 1, .int .i64 0, .int .i64 2, .int .i64 0] ThT))
  have hal := heap_alloc_new w1 (.cells #[.int .i64 3, .int .i64 0, .int .i64 1, .int .i64 0, .int .i64 2, .int .i64 0] ThT)
  have hgw := hq1.dev.lt
  have hts : TS (w1.alloc (.cells #[.int .i64 3, .int .i64 0, .int .i64 1, .int .i64 0, .int .i64 2, .int .i64 0] ThT)) (some ⟨w1.heap.size, 0, none⟩) 3 3 exL := ⟨rfl, by omega, by omega, fun _ => ⟨w1.heap.size, 0, rfl, blk_lt hal, fun i hi => by
    rcases (by omega : i = 0 ∨ i = 1 ∨ i = 2) with rfl | rfl | rfl
    · exact ⟨blk_cell hal 0, blk_cell hal 1⟩
    · exact ⟨blk_cell hal 2, blk_cell hal 3⟩
    · exact ⟨blk_cell hal 4, blk_cell hal 5⟩⟩⟩
  have HPU := Lib.hid (push_any w.heap.size 0 3 3 _ _ [] exL _ h1 hts (fun _ ad had => by injection had with had; subst had; exact ⟨by show w1.heap.size ≠ _; omega, by simp [Value.ownBlock]⟩) (by simp) (by omega))
  have HBA : Hid (Below w.heap.size w (w1.alloc (.cells #[.int .i64 3, .int .i64 0, .int .i64 1, .int .i64 0, .int .i64 2, .int .i64 0] ThT))) := Lib.hid (hb1.alloc hb1.size _)
  clear hq1 hb1 h1 hal hts hgw
  go_wp2_with fail
  refine HPU.out.mono ?_
  rintro e w2 ⟨rfl, hq2⟩
  have HB2 : Hid (Below w.heap.size w w2) := Lib.hid (HBA.out.trans (hq2.below (Nat.le_refl _) (fun j q => by simp [Value.ownBlock] at q) HBA.out.size))
  obtain ⟨v2, hv2⟩ := hq2.qu_
  have hlt2 := hv2.own.lt
  have hlen : (pushN [] 0 exL).length = 3 := ex_qi.len
  have HPO := Lib.hid (pop_any w.heap.size _ v2 _ w2 hv2 (by omega) (by omega))
  unfold PopE at HPO
  rw [ex_pop.1] at HPO
  clear hq2 hv2 hlen
  go_wp2_with fail
  refine HPO.out.mono ?_
  rintro e w3 ⟨rfl, hq3⟩
  have HB3 : Hid (Below w.heap.size w w3) := Lib.hid (HB2.out.trans (hq3.below (Nat.le_refl _) (fun j q => by have := (hlt2 j q).1; omega) HB2.out.size))
  obtain ⟨v3, hv3⟩ := hq3.qu_
  have hv4 := hv3.next ((Below.refl w3.heap.size w3).alloc (Nat.le_refl _) (.cells #[.int .i64 1, .int .i64 0] ThT))
  have hlen : (popF (pushN [] 0 exL)).length = 2 := ex_pop.2.len
  have HPK := Lib.hid (peek_any w.heap.size _ v3 _ _ hv4 (by omega) (by omega))
  rw [ex_peek] at HPK
  have HV4 := Lib.hid hv4
  have HB4 : Hid (Below w.heap.size w (w3.alloc (.cells #[.int .i64 1, .int .i64 0] ThT))) := Lib.hid (HB3.out.alloc HB3.out.size _)
  have hal := heap_alloc_new w3 (.cells #[.int .i64 1, .int .i64 0] ThT)
  have HAL := Lib.hid hal
  have HLEN := Lib.hid hlen
  clear hq3 hv3 hv4 hlt2 hlen hal
  go_wp2_with fail
  refine HPK.out.mono ?_
  rintro e w5 ⟨rfl, hb5⟩
  have c0 : w5.cell? ⟨w3.heap.size, 0, none⟩ = some (.int .i64 1) := (hb5.cell (p := ⟨w3.heap.size, 0, none⟩) (by simp)).trans (blk_cell HAL.out 0)
  have hv6 := (HV4.out.next hb5).next ((Below.refl w5.heap.size w5).alloc (Nat.le_refl _) (.cells #[.int .i64 2, .int .i64 0] ThT))
  have HLN := Lib.hid (qlen_any w.heap.size _ v3 _ _ hv6)
  rw [HLEN.out] at HLN
  have hs5 : w3.heap.size < w5.heap.size := by have := hb5.size; simp at this; omega
  have HB6 : Hid (Below w.heap.size w (w5.alloc (.cells #[.int .i64 2, .int .i64 0] ThT))) := Lib.hid ((HB4.out.trans (hb5.mono HB4.out.size)).alloc (Nat.le_trans HB4.out.size hb5.size) _)
  clear hb5 hv6
  go_wp2_with fail
  refine HLN.out.mono ?_
  rintro e w7 ⟨rfl, rfl⟩
  go_wp2
  go_ret
  exact ⟨rfl, HB6.out⟩
theorem push_nil (v : Value) (w : World) : Calls Try.prog 19 #[.pointer none, v] w fun e w' => e = .returned (.tuple #[]) ∧ w = w' := by
  have HN := Lib.hid (noneq_nil w)
  go_enter Try.func19, Try.ntmps19
  go_wp2_with fail
  refine HN.out.mono ?_
  rintro e w7 ⟨rfl, rfl⟩
  go_wp2
  refine bodyPost_ret (results_none rfl _ _ _) rfl ?_
  exact ⟨rfl, rfl⟩
def EmptyS (w : World) (e : Ending) (w' : World) : Prop := ∃ A c, e = .returned (.slice A 0 c) ∧ Below w.heap.size w w'
set_option maxHeartbeats 1000000 in
theorem all_nil (w : World) : Calls Try.prog 23 #[.pointer none] w (EmptyS w) := by
  have HLN := Lib.hid (fun W => qlen_nil W)
  obtain ⟨i0, hi0, hz0, hz1, hz2⟩ := info_parts zero_th
  go_enter Try.func23, Try.ntmps23
  go_wp2_with fail
  refine (HLN.out _).mono ?_
  rintro e w7 ⟨rfl, rfl⟩
  go_wp2_with (at_make; refine wpList_make_own _ rfl _ _ 47 rfl w.heap.size ThT i0 _ 2 Try.underlying47 hi0 hz0 hz1 _ _ _ 0 rfl rfl rfl (by rw [hz2]; omega) (by unfold maxLen; omega) (Nat.le_refl _) ?_)
  intro w1 hown1 hgr1
  have HB : Hid (EmptyS w (.returned (.slice (some ⟨w.heap.size, 0, none⟩) 0 0)) w1) := Lib.hid ⟨_, _, rfl, ⟨hgr1.os, hgr1.tape, hgr1.output, hgr1.size, fun k hk => hgr1.block k hk (by simp)⟩⟩
  clear hown1 hgr1
  go_wp2_with fail
  go_loop [3] (fun o => o = .slice (some ⟨w.heap.size, 0, none⟩) 0 0) (fun _ => 0)
  case atStart => rfl
  case round =>
    subst hrel
    go_wp2_with fail
    refine (HLN.out _).mono ?_
    rintro e w7 ⟨rfl, rfl⟩
    go_wp2
    go_ret
    exact HB.out
set_option maxHeartbeats 1000000 in
theorem prioNil_any (v : Value) (w : World) : Calls Try.prog 6 #[v] w fun e w' => e = .returned (.bool true) ∧ Below w.heap.size w w' := by
  have HNW := Lib.hid (newq_nil w)
  have HPU := Lib.hid (push_nil v w)
  have HPO := Lib.hid (pop_nil w)
  have HPK := Lib.hid (fun W => peek_nil W)
  have HAL := Lib.hid (fun W => all_nil W)
  have HLN := Lib.hid (fun W => qlen_nil W)
  have HAW := Lib.hid (fun W => awake11_any W)
  go_enter Try.func6, Try.ntmps6
  go_wp2_with fail
  refine HNW.out.mono ?_
  rintro e w1 ⟨rfl, rfl⟩
  go_wp2_with fail
  refine HPU.out.mono ?_
  rintro e w2 ⟨rfl, rfl⟩
  go_wp2_with fail
  refine HPO.out.mono ?_
  rintro e w3 ⟨rfl, hb3⟩
  have HB3 : Hid (Below w.heap.size w (w3.alloc (.cells #[.int .i64 0, .int .i64 0] ThT))) := Lib.hid (hb3.alloc hb3.size _)
  clear hb3
  go_wp2_with fail
  refine (HPK.out _).mono ?_
  rintro e w4 ⟨rfl, hb4⟩
  have HB4 : Hid (Below w.heap.size w (w4.alloc (.cells #[.int .i64 0, .int .i64 0] ThT))) := Lib.hid ((HB3.out.trans (hb4.mono HB3.out.size)).alloc (Nat.le_trans HB3.out.size hb4.size) _)
  clear hb4
  go_wp2_with fail
  refine (HLN.out _).mono ?_
  rintro e w5 ⟨rfl, rfl⟩
  go_wp2_with fail
  refine (HAL.out _).mono ?_
  rintro e w6 ⟨A, c, rfl, hb6⟩
  have HB6 : Hid (Below w.heap.size w w6) := Lib.hid (HB4.out.trans (hb6.mono HB4.out.size))
  clear hb6
  go_wp2_with fail
  refine (HAW.out _).mono ?_
  rintro e w7 ⟨rfl, hb7⟩
  have HB7 : Hid (Below w.heap.size w w7) := Lib.hid (HB6.out.trans (hb7.mono HB6.out.size))
  clear hb7
  go_wp2
  go_ret
  exact ⟨rfl, HB7.out⟩
end Go.Proofs.Ytoioflbgmofgfab
