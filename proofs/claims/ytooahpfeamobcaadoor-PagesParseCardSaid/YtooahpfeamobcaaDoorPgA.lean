/-
  Pages in memory; what one page is.
-/
import Derived.Test.YtooahpfeamobcaaDoorPgM
import Derived.Test.YtooahpfeamobcaaDoorKlC
import Derived.Test.YtooahpfeamobcaaDoorTurn
import Derived.WalkKit
import Derived.WalkSpells
import Derived.WalkLawsBesides
import Derived.Laws.Rows
import Derived.Lib.Hide
namespace Go.Proofs.YtooahpfeamobcaaDoor
open Go.RowKit Go
set_option linter.unusedVariables false
set_option linter.unusedSimpArgs false
abbrev OT : TypeId := 48
abbrev RT : TypeId := 27
def Pg.cs (p : Pg) : List Value := [.int .i64 p.k, .int .i64 p.c, .int .i64 p.r, .int .i64 p.s, .int .u64 p.n]
abbrev Pg.val (p : Pg) : Value := .agg #[.int .i64 p.k, .int .i64 p.c, .int .i64 p.r, .int .i64 p.s, .int .u64 p.n]
set_option maxHeartbeats 1000000 in
theorem free_any (p : Pg) (w : World) : Calls Tryd.prog 30 #[p.val] w fun e w' => e = .returned (.bool (isZ p)) ∧ Below w.heap.size w w' := by
  go_enter Tryd.func30, Tryd.ntmps30
  go_wp2
  all_goals go_ret
  all_goals exact ⟨by simp [isZ, eqP, pz, *], (Below.refl _ _).alloc (Nat.le_refl _) _⟩
set_option maxHeartbeats 1000000 in
theorem tail_any (p : Pg) (w : World) : Calls Tryd.prog 31 #[p.val] w fun e w' => e = .returned (.bool (isT p)) ∧ Below w.heap.size w w' := by
  go_enter Tryd.func31, Tryd.ntmps31
  go_wp2
  all_goals go_ret
  all_goals exact ⟨by simp [isT, eqP, ptl, *], (Below.refl _ _).alloc (Nat.le_refl _) _⟩
theorem slots_any (c : Int) : ∃ n : Int, GK 38 #[.int .i64 c] (.int .i64 n) ∧ (0 < n ↔ (0 ≤ c ∧ c < 8)) := by
  by_cases h : c < 0 ∨ 8 ≤ c
  · exact ⟨0, slots_out c h, by omega⟩
  · rcases (by omega : c = 0 ∨ c = 1 ∨ c = 2 ∨ c = 3 ∨ c = 4 ∨ c = 5 ∨ c = 6 ∨ c = 7) with rfl | rfl | rfl | rfl | rfl | rfl | rfl | rfl
    · exact ⟨_, slots_0, by omega⟩
    · exact ⟨_, slots_1, by omega⟩
    · exact ⟨_, slots_2, by omega⟩
    · exact ⟨_, slots_3, by omega⟩
    · exact ⟨_, slots_4, by omega⟩
    · exact ⟨_, slots_5, by omega⟩
    · exact ⟨_, slots_6, by omega⟩
    · exact ⟨_, slots_7, by omega⟩
theorem rsize_any (c : Int) : ∃ n : Int, GK 11 #[.int .i64 c] (.int .i64 n) ∧ (0 < n ↔ (0 ≤ c ∧ c < 8)) ∧ 0 ≤ n := by
  by_cases h : c < 0 ∨ 8 ≤ c
  · exact ⟨0, rsize_out c h, by omega, by omega⟩
  · rcases (by omega : c = 0 ∨ c = 1 ∨ c = 2 ∨ c = 3 ∨ c = 4 ∨ c = 5 ∨ c = 6 ∨ c = 7) with rfl | rfl | rfl | rfl | rfl | rfl | rfl | rfl
    · exact ⟨_, rsize_0, by omega, by omega⟩
    · exact ⟨_, rsize_1, by omega, by omega⟩
    · exact ⟨_, rsize_2, by omega, by omega⟩
    · exact ⟨_, rsize_3, by omega, by omega⟩
    · exact ⟨_, rsize_4, by omega, by omega⟩
    · exact ⟨_, rsize_5, by omega, by omega⟩
    · exact ⟨_, rsize_6, by omega, by omega⟩
    · exact ⟨_, rsize_7, by omega, by omega⟩
/-- how many pages s bytes take -/
def szR (s : Int) : Int := if 121 ≤ s ∧ s ≤ 4096 then (s + 255) / 256 else 0
def szB (s : Int) : Bool := decide (121 ≤ s ∧ s ≤ 4096)
theorem szR_le (s : Int) : 0 ≤ szR s ∧ szR s ≤ 16 := by unfold szR; split <;> omega
theorem pages_any (s : Int) : GK 39 #[.int .i64 s] (.tuple #[.int .i64 (szR s), .bool (szB s)]) := by
  by_cases h : 121 ≤ s ∧ s ≤ 4096
  · have e1 : szR s = (((s.toNat + 255) / 256 : Nat) : Int) := by unfold szR; rw [if_pos h]; omega
    have e2 : szB s = true := by unfold szB; exact decide_eq_true h
    have e3 : s = ((s.toNat : Nat) : Int) := by omega
    rw [e1, e2]
    have := pages_in s.toNat ((s.toNat + 255) / 256) (by omega) (by omega) rfl
    rw [← e3] at this
    exact this
  · have e1 : szR s = 0 := by unfold szR; rw [if_neg h]
    have e2 : szB s = false := by unfold szB; exact decide_eq_false h
    rw [e1, e2]
    exact pages_out s (by omega)
theorem rpages_any (s : Int) : GK 12 #[.int .i64 s] (.tuple #[.int .i64 (szR s), .bool (szB s)]) := by
  by_cases h : 121 ≤ s ∧ s ≤ 4096
  · have e1 : szR s = (((s.toNat + 255) / 256 : Nat) : Int) := by unfold szR; rw [if_pos h]; omega
    have e2 : szB s = true := by unfold szB; exact decide_eq_true h
    have e3 : s = ((s.toNat : Nat) : Int) := by omega
    rw [e1, e2]
    have := rpages_in s.toNat ((s.toNat + 255) / 256) (by omega) (by omega) rfl
    rw [← e3] at this
    exact this
  · have e1 : szR s = 0 := by unfold szR; rw [if_neg h]
    have e2 : szB s = false := by unfold szB; exact decide_eq_false h
    rw [e1, e2]
    exact rpages_out s (by omega)
theorem rts_row {P : Program} {fn : Func} {p u : Tmp} {ty : TypeId} (h : fn.results = #[.cell p ty, .tmp u]) (tmps : Array Value) (w : World) (g : Nat) (t : TypeId) (cs : Array Value) (fr : Nat × Nat) (d : TypeDesc)
    (v2 : Value) (hp : tmps.getD p undef = .pointer (some ⟨g, 0, none⟩)) (hv2 : tmps.getD u undef = v2) (hg : w.heap[g]? = some (.cells cs t fr))
    (hu : P.underlying ty = some d) (hd : (match d with | .struct _ | .array _ _ => true | _ => false) = true) (hi : (P.info? ty).map (·.size) = some cs.size) :
    (results fn tmps).run P w = .ok (.tuple #[.agg cs, v2]) w := by
  subst hv2
  have hp' : tmps[p]?.getD undef = .pointer (some ⟨g, 0, none⟩) := by simpa using hp
  simp [results, h, hp', asAddr, run_loadVar_row w g t ty cs fr d hg hu hd hi, Sem.run_bind, Result.andThen]
theorem tupb {a : Value} {x y : Bool} (h : x = y) : Ending.returned (.tuple #[a, .bool x]) = .returned (.tuple #[a, .bool y]) := by rw [h]
theorem retb {x y : Bool} (h : x = y) : Ending.returned (.bool x) = .returned (.bool y) := by rw [h]
set_option maxHeartbeats 1000000 in
theorem ofSlots_any (c : Int) (w : World) (hS : SZ w) : Calls Tryd.prog 28 #[.int .i64 c] w fun e w' => e = .returned (.tuple #[Pg.val ⟨1, c, 0, 0, 0⟩, .bool (decide (0 ≤ c ∧ c < 8))]) ∧ Below w.heap.size w w' := by
  obtain ⟨n, hn, hc⟩ := slots_any c
  have HN := Lib.hid hn
  have HB : Hid (SZ (w.alloc (.cells #[.int .i64 0, .int .i64 0, .int .i64 0, .int .i64 0, .int .u64 0] OT))) := Lib.hid (hS.below ((Below.refl _ _).alloc (Nat.le_refl _) _))
  have HC := Lib.hid hc
  clear hn hc hS
  go_enter Tryd.func28, Tryd.ntmps28
  go_wp2_with fail
  refine (HN.out _ HB.out).mono ?_
  rintro e w' ⟨rfl, rfl⟩
  go_wp2
  exact bodyPost_ret (v := .tuple #[Pg.val ⟨1, c, 0, 0, 0⟩, .bool (decide (0 < n))]) (rts_row rfl _ _ _ OT _ (0, 0) _ _ rfl rfl (heap_alloc_new _ _) Tryd.underlying48 rfl (by kernel_rfl)) rfl ⟨tupb (by simp [HC.out]), (Below.refl _ _).alloc (Nat.le_refl _) _⟩
def okO (s n : Int) : Bool := szB s && decide (1 ≤ n ∧ n < 281474976710656)
set_option maxHeartbeats 1000000 in
theorem ofObject_any (s n : Int) (w : World) (hS : SZ w) : Calls Tryd.prog 29 #[.int .i64 s, .int .u64 n] w fun e w' => e = .returned (.tuple #[Pg.val ⟨2, 0, szR s, s, n⟩, .bool (okO s n)]) ∧ Below w.heap.size w w' := by
  have HN := Lib.hid (pages_any s)
  have HB : Hid (SZ (w.alloc (.cells #[.int .i64 0, .int .i64 0, .int .i64 0, .int .i64 0, .int .u64 0] OT))) := Lib.hid (hS.below ((Below.refl _ _).alloc (Nat.le_refl _) _))
  clear hS
  unfold okO
  generalize szR s = r at *
  generalize szB s = b at *
  by_cases h1 : 1 ≤ n <;> by_cases h2 : n ≤ 281474976710655 <;> cases b
  all_goals (try (exfalso; omega))
  all_goals
    go_enter Tryd.func29, Tryd.ntmps29
    go_wp2_with fail
    refine (HN.out _ HB.out).mono ?_
    rintro e w' ⟨rfl, rfl⟩
    go_wp2
    exact bodyPost_ret (v := .tuple #[Pg.val ⟨2, 0, r, s, n⟩, .bool _]) (rts_row rfl _ _ _ OT _ (0, 0) _ _ rfl rfl (heap_alloc_new _ _) Tryd.underlying48 rfl (by kernel_rfl)) rfl ⟨tupb (by first | rfl | (simp; done) | (simp; omega) | (rw [Bool.true_and]; exact decide_eq_decide.2 ⟨fun _ => by omega, fun _ => by omega⟩)), (Below.refl _ _).alloc (Nat.le_refl _) _⟩
theorem oneP_2 (c r s n : Int) : oneP ⟨2, c, r, s, n⟩ = decide (c = 0 ∧ 121 ≤ s ∧ s ≤ 4096 ∧ r = (s + 255) / 256 ∧ 1 ≤ n ∧ n < 281474976710656) := by
  simp [oneP, isZ, isT, isS, isH, eqP, pz, ptl]
theorem oneP_1 (c r s n : Int) : oneP ⟨1, c, r, s, n⟩ = decide (0 ≤ c ∧ c < 8 ∧ r = 0 ∧ s = 0 ∧ n = 0) := by
  simp [oneP, isZ, isT, isS, isH, eqP, pz, ptl]
theorem okO_iff {s n : Int} : okO s n = true ↔ 121 ≤ s ∧ s ≤ 4096 ∧ 1 ≤ n ∧ n < 281474976710656 := by
  unfold okO szB
  rw [Bool.and_eq_true, decide_eq_true_iff, decide_eq_true_iff, and_assoc]
theorem szR_in {s : Int} (h1 : 121 ≤ s) (h2 : s ≤ 4096) : szR s = (s + 255) / 256 := by unfold szR; rw [if_pos ⟨h1, h2⟩]
theorem okO_no {s n : Int} (h : okO s n = false) : ¬ (121 ≤ s ∧ s ≤ 4096 ∧ 1 ≤ n ∧ n < 281474976710656) := fun q => by
  rw [okO_iff.2 q] at h; cases h
/-- memory behind a call that made one block ahead -/
theorem sz_alloc {w : World} (h : SZ w) (o : Obj) : SZ (w.alloc o) := h.below ((Below.refl _ _).alloc (Nat.le_refl _) _)
theorem box_keep {w w' : World} {cs : Array Value} {t : TypeId} (hb : Below (w.alloc (.cells cs t)).heap.size (w.alloc (.cells cs t)) w') :
    w'.heap[w.heap.size]? = some (.cells cs t (0, 0)) ∧ Below w.heap.size w w' ∧ w.heap.size < w'.heap.size := by
  have e : (w.alloc (.cells cs t)).heap.size = w.heap.size + 1 := by simp
  refine ⟨(hb.block _ (by omega)).trans (heap_alloc_new _ _), ((Below.refl _ _).alloc (Nat.le_refl _) _).trans (hb.mono (by omega)), ?_⟩
  have := hb.size
  omega
theorem five {w : World} {g : Nat} {t : TypeId} {a b c d e : Value} (h : w.heap[g]? = some (.cells #[a, b, c, d, e] t (0, 0))) :
    w.cell? ⟨g, 0, none⟩ = some a ∧ w.cell? ⟨g, 1, none⟩ = some b ∧ w.cell? ⟨g, 2, none⟩ = some c ∧ w.cell? ⟨g, 3, none⟩ = some d ∧ w.cell? ⟨g, 4, none⟩ = some e :=
  ⟨blk_cell h 0, blk_cell h 1, blk_cell h 2, blk_cell h 3, blk_cell h 4⟩
set_option maxHeartbeats 2000000 in
theorem may_any (p : Pg) (w : World) (hS : SZ w) : Calls Tryd.prog 19 #[p.val] w fun e w' => e = .returned (.bool (oneP p)) ∧ Below w.heap.size w w' := by
  obtain ⟨k, c, r, s, n⟩ := p
  have HW := Lib.hid (sz_alloc hS (.cells #[.int .i64 k, .int .i64 c, .int .i64 r, .int .i64 s, .int .u64 n] OT))
  clear hS
  by_cases k1 : k = 1
  · subst k1
    have HO : Hid (∀ W, SZ W → Calls Tryd.prog 28 #[.int .i64 c] W fun e w' => e = .returned (.tuple #[Pg.val ⟨1, c, 0, 0, 0⟩, .bool (decide (0 ≤ c ∧ c < 8))]) ∧ Below W.heap.size W w') := Lib.hid (fun W h => ofSlots_any c W h)
    obtain ⟨b, hb0⟩ : ∃ b, b = decide (0 ≤ c ∧ c < 8) := ⟨_, rfl⟩
    rw [← hb0] at HO
    have HB0 := Lib.hid hb0
    clear hb0
    cases b
    all_goals
      go_enter Tryd.func19, Tryd.ntmps19
      go_wp2_with fail
      refine (HO.out _ HW.out).mono ?_
      rintro e w' ⟨rfl, hb⟩
      obtain ⟨q1, q2, q3⟩ := box_keep hb
      have HQ2 := Lib.hid q2
      obtain ⟨c0, c1, c2, c3, c4⟩ := five q1
      clear hb q1 q2
      go_wp2
      all_goals go_ret
      all_goals refine ⟨retb ?_, HQ2.out.trans (((Below.refl _ _).alloc (Nat.le_refl _) _).mono (by omega))⟩
      all_goals have hq := HB0.out
      all_goals rw [oneP_1]
      all_goals first
        | (have h1 := of_decide_eq_true hq.symm; exact (decide_eq_true (by omega)).symm)
        | (have h1 := of_decide_eq_true hq.symm; exact (decide_eq_false (by omega)).symm)
        | (have h1 := of_decide_eq_false hq.symm; exact (decide_eq_false (fun q => h1 ⟨q.1, q.2.1⟩)).symm)
  · by_cases k2 : k = 2
    · subst k2
      have HO : Hid (∀ W, SZ W → Calls Tryd.prog 29 #[.int .i64 s, .int .u64 n] W fun e w' => e = .returned (.tuple #[Pg.val ⟨2, 0, szR s, s, n⟩, .bool (okO s n)]) ∧ Below W.heap.size W w') := Lib.hid (fun W h => ofObject_any s n W h)
      obtain ⟨b, hb0⟩ : ∃ b, b = okO s n := ⟨_, rfl⟩
      rw [← hb0] at HO
      obtain ⟨r', hr0⟩ : ∃ r', r' = szR s := ⟨_, rfl⟩
      rw [← hr0] at HO
      have HB0 := Lib.hid hb0
      have HR0 := Lib.hid hr0
      clear hb0 hr0
      cases b
      all_goals
        go_enter Tryd.func19, Tryd.ntmps19
        go_wp2_with fail
        refine (HO.out _ HW.out).mono ?_
        rintro e w' ⟨rfl, hb⟩
        obtain ⟨q1, q2, q3⟩ := box_keep hb
        have HQ2 := Lib.hid q2
        obtain ⟨c0, c1, c2, c3, c4⟩ := five q1
        clear hb q1 q2
        go_wp2
        all_goals go_ret
        all_goals refine ⟨retb ?_, HQ2.out.trans (((Below.refl _ _).alloc (Nat.le_refl _) _).mono (by omega))⟩
        all_goals have hq := HB0.out
        all_goals have hr := HR0.out
        all_goals clear HO HW HB0 HR0 HQ2 c0 c1 c2 c3 c4 q3
        all_goals rw [oneP_2]
        all_goals first
          | (have h1 := okO_no hq.symm; exact (decide_eq_false (fun q => h1 ⟨q.2.1, q.2.2.1, q.2.2.2.2⟩)).symm)
          | (have h1 := okO_iff.1 hq.symm; have h2 := szR_in h1.1 h1.2.1; first | exact (decide_eq_true (by omega)).symm | exact (decide_eq_false (by omega)).symm)
    · go_enter Tryd.func19, Tryd.ntmps19
      go_wp2_with fail
      refine (free_any ⟨k, c, r, s, n⟩ _).mono ?_
      rintro e w' ⟨rfl, hb⟩
      obtain ⟨q1, q2, q3⟩ := box_keep hb
      have HQ2 := Lib.hid q2
      obtain ⟨c0, c1, c2, c3, c4⟩ := five q1
      clear hb q1 q2
      obtain ⟨b, hb0⟩ : ∃ b, b = isZ ⟨k, c, r, s, n⟩ := ⟨_, rfl⟩
      rw [← hb0]
      have HB0 := Lib.hid hb0
      clear hb0
      cases b
      · go_wp2_with fail
        refine (tail_any ⟨k, c, r, s, n⟩ _).mono ?_
        rintro e w2 ⟨rfl, hb2⟩
        have HB2 := Lib.hid hb2
        clear hb2
        go_wp2
        go_ret
        refine ⟨retb ?_, HQ2.out.trans (HB2.out.mono (by omega))⟩
        unfold oneP isS isH
        rw [← HB0.out]
        simp [k1, k2]
      · go_wp2
        go_ret
        refine ⟨retb ?_, HQ2.out⟩
        unfold oneP
        rw [← HB0.out]
        rfl
end Go.Proofs.YtooahpfeamobcaaDoor
