/-
  What the document says of one page, and of a row.
-/
import Derived.Test.YtooahpfeamobcaaDoorPgB
namespace Go.Proofs.YtooahpfeamobcaaDoor
open Go.RowKit Go
set_option linter.unusedVariables false
set_option linter.unusedSimpArgs false
set_option maxRecDepth 100000
theorem oneP_0 (c r s n : Int) : oneP ⟨0, c, r, s, n⟩ = (c == 0 && (r == 0 && (s == 0 && n == 0))) := by
  simp [oneP, isZ, isT, isS, isH, eqP, pz, ptl]
theorem oneP_3 (c r s n : Int) : oneP ⟨3, c, r, s, n⟩ = (c == 0 && (r == 0 && (s == 0 && n == 0))) := by
  simp [oneP, isZ, isT, isS, isH, eqP, pz, ptl]
theorem oneP_no (k c r s n : Int) (h0 : k ≠ 0) (h1 : k ≠ 1) (h2 : k ≠ 2) (h3 : k ≠ 3) : oneP ⟨k, c, r, s, n⟩ = false := by
  simp [oneP, isZ, isT, isS, isH, eqP, pz, ptl, h0, h1, h2, h3]
set_option maxHeartbeats 4000000 in
theorem rone_any (p : Pg) (w : World) (hS : SZ w) : Calls Tryd.prog 4 #[p.val] w fun e w' => e = .returned (.bool (oneP p)) ∧ Below w.heap.size w w' := by
  obtain ⟨k, c, r, s, n⟩ := p
  have HW := Lib.hid (sz_alloc hS (.cells #[.int .i64 k, .int .i64 c, .int .i64 r, .int .i64 s, .int .u64 n] RT))
  clear hS
  have HBE := Lib.hid (bel_alloc w (.cells #[.int .i64 k, .int .i64 c, .int .i64 r, .int .i64 s, .int .u64 n] RT))
  by_cases k0 : k = 0
  · subst k0
    go_enter Tryd.func4, Tryd.ntmps4
    go_wp2
    all_goals go_ret
    all_goals refine ⟨retb ?_, (Below.refl _ _).alloc (Nat.le_refl _) _⟩
    all_goals rw [oneP_0]
    all_goals simp [*]
  · by_cases k3 : k = 3
    · subst k3
      go_enter Tryd.func4, Tryd.ntmps4
      go_wp2
      all_goals go_ret
      all_goals refine ⟨retb ?_, (Below.refl _ _).alloc (Nat.le_refl _) _⟩
      all_goals rw [oneP_3]
      all_goals simp [*]
    · by_cases k1 : k = 1
      · subst k1
        obtain ⟨z, hz, hc, hz0⟩ := rsize_any c
        have HZ := Lib.hid hz
        have HC := Lib.hid hc
        clear hz hc
        by_cases hr : r = 0 ∧ s = 0 ∧ n = 0
        · obtain ⟨rfl, rfl, rfl⟩ := hr
          go_enter Tryd.func4, Tryd.ntmps4
          go_wp2_with fail
          refine (HZ.out _ HW.out).mono ?_
          rintro e w' ⟨rfl, rfl⟩
          go_wp2
          all_goals go_ret
          all_goals refine ⟨retb ?_, (Below.refl _ _).alloc (Nat.le_refl _) _⟩
          all_goals rw [oneP_1, Bool.eq_iff_iff]
          all_goals simp [HC.out]
        · have HR := Lib.hid hr
          clear hr
          go_enter Tryd.func4, Tryd.ntmps4
          go_wp2
          all_goals first
            | (exfalso; have := HR.out; omega)
            | (go_ret; refine ⟨retb ?_, (Below.refl _ _).alloc (Nat.le_refl _) _⟩; rw [oneP_1]; exact (decide_eq_false (fun q => HR.out q.2.2)).symm)
      · by_cases k2 : k = 2
        · subst k2
          have HP := Lib.hid (rpages_any s)
          by_cases hb : 121 ≤ s ∧ s ≤ 4096
          · have e1 : szB s = true := decide_eq_true hb
            have e2 : szR s = (s + 255) / 256 := szR_in hb.1 hb.2
            rw [e1] at HP
            obtain ⟨z, hz⟩ : ∃ z, z = szR s := ⟨_, rfl⟩
            rw [← hz] at HP e2
            have HE := Lib.hid e2
            have HB := Lib.hid hb
            clear hz e1 e2 hb
            go_enter Tryd.func4, Tryd.ntmps4
            go_wp2_with fail
            refine (HP.out _ HW.out).mono ?_
            rintro e w' ⟨rfl, rfl⟩
            go_wp2
            all_goals go_ret
            all_goals refine ⟨retb ?_, (Below.refl _ _).alloc (Nat.le_refl _) _⟩
            all_goals rw [oneP_2, ← HE.out, Bool.eq_iff_iff, decide_eq_true_iff]
            all_goals have hb := HB.out
            all_goals simp
            all_goals omega
          · have e1 : szB s = false := decide_eq_false hb
            rw [e1] at HP
            have HB := Lib.hid hb
            clear hb
            obtain ⟨z, hz⟩ : ∃ z, z = szR s := ⟨_, rfl⟩
            rw [← hz] at HP
            clear hz
            go_enter Tryd.func4, Tryd.ntmps4
            go_wp2_with fail
            refine (HP.out _ HW.out).mono ?_
            rintro e w' ⟨rfl, rfl⟩
            go_wp2
            all_goals go_ret
            all_goals refine ⟨retb ?_, (Below.refl _ _).alloc (Nat.le_refl _) _⟩
            all_goals rw [oneP_2]
            all_goals exact (decide_eq_false (fun q => HB.out ⟨q.2.1, q.2.2.1⟩)).symm
        · have HN := Lib.hid (oneP_no k c r s n k0 k1 k2 k3)
          go_enter Tryd.func4, Tryd.ntmps4
          go_wp2
          go_ret
          refine ⟨retb ?_, (Below.refl _ _).alloc (Nat.le_refl _) _⟩
          rw [HN.out]
/-! the document's May -/
theorem isT_one {p : Pg} (h : isT p = true) : oneP p = true := by rw [oneP_iff, isT_iff.1 h]; exact .inr (.inl rfl)
theorem ok_not {l : List Pg} {k : Nat} (hk : k < l.length) (h : oneP (pg l k) = false ∨ (pg l k).k = 3) : okL (l.drop k) = false := by
  cases hq : okL (l.drop k)
  · rfl
  · rw [drop_at hk, okL_cons] at hq
    rcases h with h | h
    · rw [h] at hq; cases hq.1
    · exact absurd h hq.2.1
theorem ok_go {l : List Pg} {k m : Nat} (hk : k < l.length) (h1 : oneP (pg l k) = true) (h3 : (pg l k).k ≠ 3) (hm : max (pg l k).r 1 = (m : Int)) :
    okL (l.drop k) = (decide (k + m ≤ l.length) && (((l.drop (k + 1)).take (m - 1)).all isT && okL (l.drop (k + m)))) := by
  have e : (max (pg l k).r 1 - 1).toNat = m - 1 := by omega
  have m1 : 1 ≤ m := by omega
  rw [Bool.eq_iff_iff, drop_at hk, okL_cons, e, Bool.and_eq_true, Bool.and_eq_true, decide_eq_true_iff, List.drop_drop, List.length_drop]
  have e2 : k + 1 + (m - 1) = k + m := by omega
  rw [e2]
  constructor
  · rintro ⟨_, _, q3, q4, q5⟩; exact ⟨by omega, q4, q5⟩
  · rintro ⟨q3, q4, q5⟩; exact ⟨h1, h3, by omega, q4, q5⟩
theorem pg_some {l : List Pg} {i : Nat} (h : i < l.length) : l[i]? = some (pg l i) := by
  show l[i]? = some (l.getD i pz)
  rw [List.getD_eq_getElem?_getD, List.getElem?_eq_getElem h]; rfl
theorem all_no {l : List Pg} {f : Pg → Bool} {a j m : Nat} (hj : j < m) (hl : a + j < l.length) (h : f (pg l (a + j)) = false) : ((l.drop a).take m).all f = false := by
  cases hq : ((l.drop a).take m).all f
  · rfl
  · rw [List.all_eq_true] at hq
    have e : ((l.drop a).take m)[j]? = some (pg l (a + j)) := by
      rw [List.getElem?_take_of_lt hj, List.getElem?_drop]; exact pg_some hl
    rw [hq _ (List.mem_of_getElem? e)] at h
    cases h
theorem all_more {l : List Pg} {f : Pg → Bool} {a j : Nat} (hl : a + j < l.length) (h : ((l.drop a).take j).all f = true) (h1 : f (pg l (a + j)) = true) : ((l.drop a).take (j + 1)).all f = true := by
  have e : (l.drop a)[j]? = some (pg l (a + j)) := by
    rw [List.getElem?_drop]; exact pg_some hl
  rw [List.take_add_one, e, List.all_append, h]
  simp only [Option.toList_some, List.all_cons, h1, List.all_nil]; rfl
theorem PS.cells {w : World} {A : Option Addr} {n c : Nat} {l : List Pg} (h : PS w A n c l) (hn : 0 < n) : ∃ b o, A = some ⟨b, o, none⟩ ∧ b < w.heap.size ∧ ∀ W, Below w.heap.size w W → b < W.heap.size ∧ ∀ i, i < n → PAt W b (o + i * 5) (pg l i) := by
  obtain ⟨b, o, h1, h2, h3⟩ := h.at_ hn
  exact ⟨b, o, h1, h2, fun W hb => ⟨Nat.lt_of_lt_of_le h2 hb.size, fun i hi => (h3 i hi).keep (hb.block b h2)⟩⟩
end Go.Proofs.YtooahpfeamobcaaDoor
