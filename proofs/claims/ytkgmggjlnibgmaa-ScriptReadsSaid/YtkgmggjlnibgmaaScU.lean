/-
  Package script: the act whose bytes come next.
-/
import Derived.Test.YtkgmggjlnibgmaaScJ
import Derived.Test.YtkgmggjlnibgmaaScK
namespace Go.Proofs.Ytkgmggjlnibgmaa
open Go.RowKit Go
set_option linter.unusedVariables false
set_option linter.unusedSimpArgs false
set_option maxRecDepth 100000
/-- the number of the next n bytes, and the row behind it: what is left, and what was wrong -/
def tkN (l : List Nat) (e : Int) (n : Nat) : Nat := num ((takeS l e (n : Int) (mayN (n : Int))).1.take 8)
def tkL (l : List Nat) (e : Int) (n : Nat) : List Nat := (takeS l e (n : Int) (mayN (n : Int))).2.1
def tkE (l : List Nat) (e : Int) (n : Nat) : Int := (takeS l e (n : Int) (mayN (n : Int))).2.2
theorem tk_ok {l : List Nat} {n : Nat} (h1 : 1 ≤ n) (h8 : n ≤ 8) (hl : n ≤ l.length) : tkN l 0 n = num (l.take n) ∧ tkL l 0 n = l.drop n ∧ tkE l 0 n = 0 := by
  have hm : mayN (n : Int) = true := decide_eq_true (by omega)
  unfold tkN tkL tkE takeS
  rw [hm, if_neg (by omega), if_neg (by simp), if_neg (by omega)]
  dsimp only
  rw [Int.toNat_natCast, List.take_take, Nat.min_eq_right h8]
  exact ⟨rfl, rfl, rfl⟩
theorem tk_no {l : List Nat} {n : Nat} (h1 : 1 ≤ n) (h8 : n ≤ 8) (hl : l.length < n) : tkN l 0 n = 0 ∧ tkL l 0 n = [] ∧ tkE l 0 n = 3 := by
  have hm : mayN (n : Int) = true := decide_eq_true (by omega)
  unfold tkN tkL tkE takeS
  rw [hm, if_neg (by omega), if_neg (by simp), if_pos (by omega)]
  exact ⟨rfl, rfl, rfl⟩
theorem tk_err {l : List Nat} {n : Nat} {e : Int} (he : e ≠ 0) : tkN l e n = 0 ∧ tkL l e n = l ∧ tkE l e n = e := by
  unfold tkN tkL tkE takeS
  rw [if_pos he]
  exact ⟨rfl, rfl, rfl⟩
def NmTo (W : World) (g : Nat) (l : List Nat) (e : Int) (n : Nat) (K : IntKind) (E : Ending) (W' : World) : Prop := E = .returned (.int K ((tkN l e n : Nat) : Int)) ∧ RowSt W' g 72 (tkL l e n) (tkE l e n) ∧ W.grownBy W' (some g)
theorem num_tk (g : Nat) (l : List Nat) (e : Int) (n : Nat) (W : World) (hst : RowSt W g 72 l e) : Calls Try.prog 41 #[.pointer (some ⟨g, 0, none⟩), .int .i64 (n : Int)] W (NmTo W g l e n .u64) := num_any g l e n W hst
theorem tkN_lt {l : List Nat} {e : Int} (h : byteL l) : tkN l e 2 < 65536 := by
  by_cases he : e = 0
  · subst he
    by_cases hl : 2 ≤ l.length
    · rw [(tk_ok (by omega) (by omega) hl).1]
      have := nAt_lt h 0
      unfold nAt at this
      simpa using this
    · rw [(tk_no (by omega) (by omega) (by omega)).1]; omega
  · rw [(tk_err he).1]; omega
/-- the function that next makes: the number of two bytes -/
theorem next1_any (g gp : Nat) (l : List Nat) (e : Int) (W : World) (hst : RowSt W g 72 l e) (hb : byteL l) (hp : W.heap[gp]? = some (.cells #[.pointer (some ⟨g, 0, none⟩)] 55 (0, 0))) :
    Calls Try.prog 40 #[.pointer (some ⟨gp, 0, none⟩)] W (NmTo W g l e 2 .i64) := by
  have c0 : W.cell? ⟨gp, 0, none⟩ = some (.pointer (some ⟨g, 0, none⟩)) := blk_cell hp 0
  have HN : Hid (Calls Try.prog 41 #[.pointer (some ⟨g, 0, none⟩), .int .i64 2] W (NmTo W g l e 2 .u64)) := Lib.hid (num_tk g l e 2 W hst)
  have hlt := tkN_lt (e := e) hb
  have HF : Hid (∀ W', RowSt W' g 72 (tkL l e 2) (tkE l e 2) → W.grownBy W' (some g) → NmTo W g l e 2 .i64 (.returned (.int .i64 ((tkN l e 2 : Nat) : Int))) W') := Lib.hid (fun W' h1 h2 => ⟨rfl, h1, h2⟩)
  unfold NmTo at HN
  generalize tkN l e 2 = x at *
  have hw : IntKind.i64.wrap (x : Int) = (x : Int) := IntWalk.i64_in _ (by omega)
  clear hst hp
  go_enter Try.func40, Try.ntmps40
  go_wp2_with fail
  refine HN.out.mono ?_
  rintro E w1 ⟨rfl, h1, h2⟩
  have HG := Lib.hid (HF.out _ h1 h2)
  clear h1 h2
  go_wp2
  go_ret
  exact HG.out
theorem tk_zero {l : List Nat} {n : Nat} {e : Int} (h1 : 1 ≤ n) (h8 : n ≤ 8) (h : tkE l e n = 0) : e = 0 ∧ n ≤ l.length ∧ tkL l e n = l.drop n ∧ tkN l e n = num (l.take n) := by
  by_cases he : e = 0
  · subst he
    by_cases hl : n ≤ l.length
    · exact ⟨rfl, hl, (tk_ok h1 h8 hl).2.1, (tk_ok h1 h8 hl).1⟩
    · rw [(tk_no h1 h8 (by omega)).2.2] at h; omega
  · rw [(tk_err he).2.2] at h; exact absurd h he
theorem tkL_byte {l : List Nat} (h : byteL l) (e : Int) (n : Nat) : byteL (tkL l e n) := by
  unfold tkL takeS
  split
  · exact h
  · split
    · intro i; simp
    · split
      · intro i; simp
      · exact drop_byte' h _
theorem tkL_len (l : List Nat) (e : Int) (n : Nat) : (tkL l e n).length ≤ l.length := by
  unfold tkL takeS
  split
  · exact Nat.le_refl _
  · split
    · simp
    · split
      · simp
      · simp
/-- the row behind the seven numbers of an act -/
structure Seq (l : List Nat) (x0 x1 y1 y2 y3 y4 n : Nat) (l7 : List Nat) (e7 : Int) : Prop where
  yes : e7 = 0 → 12 ≤ l.length ∧ x0 = l.getD 0 0 ∧ x1 = l.getD 1 0 ∧ y1 = nAt l 2 ∧ y2 = nAt l 4 ∧ y3 = nAt l 6 ∧ y4 = nAt l 8 ∧ n = nAt l 10 ∧ l7 = l.drop 12
  no : 12 ≤ l.length → e7 = 0
theorem num_take1 {l : List Nat} (h : 1 ≤ l.length) : num (l.take 1) = l.getD 0 0 := by
  match l, h with
  | a :: l, _ => simp [num]
theorem seq_mk (l : List Nat) : ∀ l1 e1 l2 e2 l3 e3 l4 e4 l5 e5 l6 e6 l7 e7, l1 = tkL l 0 1 → e1 = tkE l 0 1 → l2 = tkL l1 e1 1 → e2 = tkE l1 e1 1 → l3 = tkL l2 e2 2 → e3 = tkE l2 e2 2 → l4 = tkL l3 e3 2 → e4 = tkE l3 e3 2 → l5 = tkL l4 e4 2 → e5 = tkE l4 e4 2 → l6 = tkL l5 e5 2 → e6 = tkE l5 e5 2 → l7 = tkL l6 e6 2 → e7 = tkE l6 e6 2 →
    Seq l (tkN l 0 1) (tkN l1 e1 1) (tkN l2 e2 2) (tkN l3 e3 2) (tkN l4 e4 2) (tkN l5 e5 2) (tkN l6 e6 2) l7 e7 := by
  intro l1 e1 l2 e2 l3 e3 l4 e4 l5 e5 l6 e6 l7 e7 hl1 he1 hl2 he2 hl3 he3 hl4 he4 hl5 he5 hl6 he6 hl7 he7
  constructor
  · intro h
    obtain ⟨q6, r6, s6, t6⟩ := tk_zero (l := l6) (e := e6) (n := 2) (by omega) (by omega) (by rw [← he7]; exact h)
    obtain ⟨q5, r5, s5, t5⟩ := tk_zero (l := l5) (e := e5) (n := 2) (by omega) (by omega) (by rw [← he6]; exact q6)
    obtain ⟨q4, r4, s4, t4⟩ := tk_zero (l := l4) (e := e4) (n := 2) (by omega) (by omega) (by rw [← he5]; exact q5)
    obtain ⟨q3, r3, s3, t3⟩ := tk_zero (l := l3) (e := e3) (n := 2) (by omega) (by omega) (by rw [← he4]; exact q4)
    obtain ⟨q2, r2, s2, t2⟩ := tk_zero (l := l2) (e := e2) (n := 2) (by omega) (by omega) (by rw [← he3]; exact q3)
    obtain ⟨q1, r1, s1, t1⟩ := tk_zero (l := l1) (e := e1) (n := 1) (by omega) (by omega) (by rw [← he2]; exact q2)
    obtain ⟨_, r0, s0, t0⟩ := tk_zero (l := l) (e := 0) (n := 1) (by omega) (by omega) (by rw [← he1]; exact q1)
    have d1 : l1 = l.drop 1 := hl1.trans s0
    have d2 : l2 = l.drop 2 := by rw [hl2, s1, d1, List.drop_drop]
    have d3 : l3 = l.drop 4 := by rw [hl3, s2, d2, List.drop_drop]
    have d4 : l4 = l.drop 6 := by rw [hl4, s3, d3, List.drop_drop]
    have d5 : l5 = l.drop 8 := by rw [hl5, s4, d4, List.drop_drop]
    have d6 : l6 = l.drop 10 := by rw [hl6, s5, d5, List.drop_drop]
    have d7 : l7 = l.drop 12 := by rw [hl7, s6, d6, List.drop_drop]
    have len : 12 ≤ l.length := by rw [d6, List.length_drop] at r6; omega
    have g1 : num (l1.take 1) = l.getD 1 0 := by
      rw [num_take1 r1, d1, List.getD_eq_getElem?_getD, List.getElem?_drop, ← List.getD_eq_getElem?_getD]
    exact ⟨len, by rw [t0, num_take1 r0], by rw [t1, g1], by rw [t2, d2]; rfl, by rw [t3, d3]; rfl, by rw [t4, d4]; rfl, by rw [t5, d5]; rfl, by rw [t6, d6]; rfl, d7⟩
  · intro h
    obtain ⟨_, a0, b0⟩ := tk_ok (l := l) (n := 1) (by omega) (by omega) (by omega)
    rw [a0] at hl1; rw [b0] at he1; subst he1
    have n1 : l1.length = l.length - 1 := by rw [hl1, List.length_drop]
    obtain ⟨_, a1, b1⟩ := tk_ok (l := l1) (n := 1) (by omega) (by omega) (by omega)
    rw [a1] at hl2; rw [b1] at he2; subst he2
    have n2 : l2.length = l.length - 2 := by rw [hl2, List.length_drop]; omega
    obtain ⟨_, a2, b2⟩ := tk_ok (l := l2) (n := 2) (by omega) (by omega) (by omega)
    rw [a2] at hl3; rw [b2] at he3; subst he3
    have n3 : l3.length = l.length - 4 := by rw [hl3, List.length_drop]; omega
    obtain ⟨_, a3, b3⟩ := tk_ok (l := l3) (n := 2) (by omega) (by omega) (by omega)
    rw [a3] at hl4; rw [b3] at he4; subst he4
    have n4 : l4.length = l.length - 6 := by rw [hl4, List.length_drop]; omega
    obtain ⟨_, a4, b4⟩ := tk_ok (l := l4) (n := 2) (by omega) (by omega) (by omega)
    rw [a4] at hl5; rw [b4] at he5; subst he5
    have n5 : l5.length = l.length - 8 := by rw [hl5, List.length_drop]; omega
    obtain ⟨_, a5, b5⟩ := tk_ok (l := l5) (n := 2) (by omega) (by omega) (by omega)
    rw [a5] at hl6; rw [b5] at he6; subst he6
    have n6 : l6.length = l.length - 10 := by rw [hl6, List.length_drop]; omega
    obtain ⟨_, a6, b6⟩ := tk_ok (l := l6) (n := 2) (by omega) (by omega) (by omega)
    rw [b6] at he7
    exact he7
/-- .. and its bytes: what is asked of the act, and what is left -/
theorem seq_one {l : List Nat} {x0 x1 y1 y2 y3 y4 n : Nat} {l7 : List Nat} {e7 : Int} (h : Seq l x0 x1 y1 y2 y3 y4 n l7 e7) {bs l8 : List Nat} {e8 : Int} (hr : (n = 0 ∧ bs = [] ∧ l8 = l7 ∧ e8 = e7) ∨ (0 < n ∧ (bs, l8, e8) = takeS l7 e7 (n : Int) true)) :
    ((x1 ≤ 1 ∧ e8 = 0 ∧ mayA ⟨(x0 : Nat), x1 == 1, (y1 : Nat), (y2 : Nat), (y3 : Nat), (y4 : Nat), bs⟩ = true) → oneP l = some (⟨(x0 : Nat), x1 == 1, (y1 : Nat), (y2 : Nat), (y3 : Nat), (y4 : Nat), bs⟩, l8)) ∧
    (¬ (x1 ≤ 1 ∧ e8 = 0 ∧ mayA ⟨(x0 : Nat), x1 == 1, (y1 : Nat), (y2 : Nat), (y3 : Nat), (y4 : Nat), bs⟩ = true) → oneP l = none) := by
  -- the error behind the bytes
  have key : (e8 = 0 ↔ (e7 = 0 ∧ n ≤ l7.length)) ∧ (e8 = 0 → bs = l7.take n ∧ l8 = l7.drop n) := by
    rcases hr with ⟨h0, rfl, rfl, rfl⟩ | ⟨h0, h1⟩
    · subst h0
      exact ⟨⟨fun h => ⟨h, by omega⟩, fun h => h.1⟩, fun _ => by simp⟩
    · unfold takeS at h1
      by_cases he : e7 = 0
      · rw [if_neg (by rw [he]; simp), if_neg (by simp)] at h1
        by_cases hl : (l7.length : Int) < (n : Int)
        · rw [if_pos hl] at h1
          have e3 : e8 = 3 := (Prod.ext_iff.mp (Prod.ext_iff.mp h1).2).2
          exact ⟨⟨fun h => by omega, fun h => by omega⟩, fun h => by omega⟩
        · rw [if_neg hl] at h1
          have e3 : e8 = 0 := (Prod.ext_iff.mp (Prod.ext_iff.mp h1).2).2
          have e4 : bs = l7.take (n : Int).toNat := (Prod.ext_iff.mp h1).1
          have e5 : l8 = l7.drop (n : Int).toNat := (Prod.ext_iff.mp (Prod.ext_iff.mp h1).2).1
          rw [Int.toNat_natCast] at e4 e5
          exact ⟨⟨fun _ => ⟨he, by omega⟩, fun _ => e3⟩, fun _ => ⟨e4, e5⟩⟩
      · rw [if_pos he] at h1
        have e3 : e8 = e7 := (Prod.ext_iff.mp (Prod.ext_iff.mp h1).2).2
        exact ⟨⟨fun h => absurd (e3.symm.trans h) he, fun h => absurd h.1 he⟩, fun h => absurd (e3.symm.trans h) he⟩
  have hone : ∀ (he : e8 = 0), oneP l = if x1 ≤ 1 ∧ mayA ⟨(x0 : Nat), x1 == 1, (y1 : Nat), (y2 : Nat), (y3 : Nat), (y4 : Nat), bs⟩ = true then some (⟨(x0 : Nat), x1 == 1, (y1 : Nat), (y2 : Nat), (y3 : Nat), (y4 : Nat), bs⟩, l8) else none := fun he => by
    obtain ⟨h7, hn⟩ := key.1.mp he
    obtain ⟨hb, hl8⟩ := key.2 he
    obtain ⟨len, rfl, rfl, rfl, rfl, rfl, rfl, rfl, rfl⟩ := h.yes h7
    have hh : headP l = ⟨(l.getD 0 0 : Nat), l.getD 1 0 == 1, (nAt l 2 : Nat), (nAt l 4 : Nat), (nAt l 6 : Nat), (nAt l 8 : Nat), bs⟩ := by unfold headP; rw [hb]
    rw [List.length_drop] at hn
    unfold oneP
    rw [hh]
    by_cases hx : l.getD 1 0 ≤ 1
    · rw [if_neg (by omega), if_neg (by omega)]
      by_cases hm : mayA ⟨(l.getD 0 0 : Nat), l.getD 1 0 == 1, (nAt l 2 : Nat), (nAt l 4 : Nat), (nAt l 6 : Nat), (nAt l 8 : Nat), bs⟩ = true
      · rw [if_pos hm, if_pos ⟨hx, hm⟩, hl8, List.drop_drop]
      · rw [if_neg hm, if_neg (fun h => hm h.2)]
    · rw [if_pos (by omega), if_neg (fun h => hx h.1)]
  constructor
  · rintro ⟨h1, h2, h3⟩
    rw [hone h2, if_pos ⟨h1, h3⟩]
  · intro hno
    by_cases he : e8 = 0
    · rw [hone he, if_neg (fun h => hno ⟨h.1, he, h.2⟩)]
    · unfold oneP
      by_cases h12 : l.length < 12
      · rw [if_pos (.inl h12)]
      · have h7 := h.no (by omega)
        obtain ⟨len, _, _, _, _, _, _, hn, hl7⟩ := h.yes h7
        have hgt : ¬ n ≤ l7.length := fun hn2 => he (key.1.mpr ⟨h7, hn2⟩)
        rw [hl7, List.length_drop] at hgt
        split
        · rfl
        · rw [if_pos (by omega)]
end Go.Proofs.Ytkgmggjlnibgmaa
