/-
  Acts of a script as values, and what the chapter says of them: which may be, their bytes, what bytes are parsed as. No program is named here.
-/
import Derived.Test.YtcaogiaoabdkdaaDoorZWordMath
namespace Go.Proofs.YtcaogiaoabdkdaaDoor
set_option linter.unusedVariables false
set_option linter.unusedSimpArgs false
structure Ac where
  kind : Int
  yes : Bool
  which : Int
  k : Int
  n : Int
  pos : Int
  b : List Nat
theorem Ac.ext' {p q : Ac} (h1 : p.kind = q.kind) (h2 : p.yes = q.yes) (h3 : p.which = q.which) (h4 : p.k = q.k) (h5 : p.n = q.n) (h6 : p.pos = q.pos) (h7 : p.b = q.b) : p = q := by
  cases p; cases q; simp_all
abbrev acZ : Ac := ⟨0, false, 0, 0, 0, 0, []⟩
def aAt (l : List Ac) (i : Nat) : Ac := l.getD i acZ
theorem aAt_lt {l : List Ac} {i : Nat} (h : i < l.length) : aAt l i = l[i] := by simp [aAt, List.getD, List.getElem?_eq_getElem h]
theorem aAt_map {l : List Ac} {f : Ac → Ac} {i : Nat} (h : i < l.length) : aAt (l.map f) i = f (aAt l i) := by simp [aAt, List.getD, List.getElem?_eq_getElem h]
theorem aAt_app_lt {l m : List Ac} {i : Nat} (h : i < l.length) : aAt (l ++ m) i = aAt l i := by simp [aAt, List.getD, List.getElem?_append_left h]
theorem aAt_app_last (l : List Ac) (p : Ac) : aAt (l ++ [p]) l.length = p := by simp [aAt, List.getD]
theorem take_succ_aAt {l : List Ac} {k : Nat} (h : k < l.length) : l.take (k + 1) = l.take k ++ [aAt l k] := by rw [aAt_lt h]; exact List.take_succ_eq_append_getElem h
theorem take_map_succ {l : List Ac} {f : Ac → Ac} {k : Nat} (h : k < l.length) : (l.take (k + 1)).map f = (l.take k).map f ++ [f (aAt l k)] := by rw [take_succ_aAt h, List.map_append]; rfl
/-- the letters of the fields that a kind has -/
def fldL (K : Int) : List Nat :=
  if K = 1 then [121] else if K = 6 then [110] else if K = 7 ∨ K = 13 then [119] else if K = 8 then [119, 110] else if K = 9 then [119, 97, 98]
  else if K = 10 then [119, 97, 110] else if K = 11 then [107, 119, 121] else if K = 12 then [107] else if K = 16 then [98] else if K = 17 then [110, 98] else if K = 18 then [97, 98] else []
def hasF (K : Int) (c : Nat) : Bool := decide (c ∈ fldL K)
def numF (z : Int) (h : Bool) : Bool := decide (0 ≤ z) && (decide (z ≤ 65535) && (h || decide (z = 0)))
def mayN' (a : Ac) : Bool := numF a.which (hasF a.kind 119) && (numF a.k (hasF a.kind 107) && (numF a.n (hasF a.kind 110) && (numF a.pos (hasF a.kind 97) && ((!a.yes || hasF a.kind 121) && (decide (a.b.length = 0) || hasF a.kind 98)))))
def mayA (a : Ac) : Bool := decide (0 ≤ a.kind ∧ a.kind ≤ 19 ∧ a.b.length ≤ 1024) && mayN' a
theorem mayA_nat {a : Ac} (h : mayA a = true) : ∃ kd w k n p : Nat, kd < 20 ∧ w < 65536 ∧ k < 65536 ∧ n < 65536 ∧ p < 65536 ∧ a.b.length ≤ 1024 ∧ a.kind = (kd : Int) ∧ a.which = (w : Int) ∧ a.k = (k : Int) ∧ a.n = (n : Int) ∧ a.pos = (p : Int) := by
  simp only [mayA, mayN', numF, Bool.and_eq_true, decide_eq_true_eq] at h
  obtain ⟨⟨h1, h2, h3⟩, ⟨h4, h5, _⟩, ⟨h6, h7, _⟩, ⟨h8, h9, _⟩, ⟨h10, h11, _⟩, _⟩ := h
  exact ⟨a.kind.toNat, a.which.toNat, a.k.toNat, a.n.toNat, a.pos.toNat, by omega, by omega, by omega, by omega, by omega, h3, by omega, by omega, by omega, by omega, by omega⟩
def put2 (z : Int) : List Nat := putL 2 z.toNat
theorem putL2 (v : Nat) : putL 2 v = [v % 256, v / 256 % 256] := by simp [putL, List.range, List.range.loop]
def headA (a : Ac) : List Nat := [a.kind.toNat % 256, if a.yes then 1 else 0]
def bytesA (a : Ac) : List Nat := headA a ++ put2 a.which ++ put2 a.k ++ put2 a.n ++ put2 a.pos ++ put2 (a.b.length : Int) ++ a.b
def byteL (l : List Nat) : Prop := ∀ i, l.getD i 0 < 256
theorem byteL_app {l m : List Nat} (h : byteL l) (h' : byteL m) : byteL (l ++ m) := fun i => by
  by_cases hi : i < l.length
  · have : (l ++ m).getD i 0 = l.getD i 0 := by simp [List.getD, List.getElem?_append_left hi]
    rw [this]; exact h i
  · have : (l ++ m).getD i 0 = m.getD (i - l.length) 0 := by simp [List.getD, List.getElem?_append_right (Nat.le_of_not_lt hi)]
    rw [this]; exact h' _
theorem put2_byte (z : Int) : byteL (put2 z) := putL_byte 2 _
theorem headA_byte (a : Ac) : byteL (headA a) := fun i => by
  unfold headA
  match i with
  | 0 => simp; omega
  | 1 => simp; split <;> omega
  | i + 2 => simp
theorem bytesA_byte {a : Ac} (h : byteL a.b) : byteL (bytesA a) :=
  byteL_app (byteL_app (byteL_app (byteL_app (byteL_app (byteL_app (headA_byte a) (put2_byte _)) (put2_byte _)) (put2_byte _)) (put2_byte _)) (put2_byte _)) h
theorem bytesA_len (a : Ac) : (bytesA a).length = 12 + a.b.length := by simp [bytesA, headA, put2, putL_len]; omega
def flatA (l : List Ac) : List Nat := l.flatMap bytesA
theorem flatA_app (l m : List Ac) : flatA (l ++ m) = flatA l ++ flatA m := by simp [flatA]
theorem flatA_one (a : Ac) : flatA [a] = bytesA a := by simp [flatA]
theorem flatA_len {l : List Ac} (h : ∀ i, i < l.length → (aAt l i).b.length ≤ 1030) : (flatA l).length ≤ 1042 * l.length := by
  induction l with
  | nil => simp [flatA]
  | cons a l ih =>
    have h0 := h 0 (by simp)
    have h1 := ih (fun i hi => by have := h (i + 1) (by simpa using hi); simpa [aAt] using this)
    have e : flatA (a :: l) = bytesA a ++ flatA l := by simp [flatA]
    have h2 : a.b.length ≤ 1030 := by simpa [aAt] using h0
    rw [e, List.length_append, bytesA_len, List.length_cons]
    omega
theorem flatA_byte {l : List Ac} (h : ∀ i, i < l.length → byteL (aAt l i).b) : byteL (flatA l) := by
  induction l with
  | nil => intro i; simp [flatA]
  | cons a l ih =>
    have e : flatA (a :: l) = bytesA a ++ flatA l := by simp [flatA]
    rw [e]
    refine byteL_app (bytesA_byte (by have := h 0 (by simp); simpa [aAt] using this)) (ih fun i hi => ?_)
    have := h (i + 1) (by simpa using hi)
    simpa [aAt] using this
/-! bytes as acts -/
def nAt (b : List Nat) (o : Nat) : Nat := num ((b.drop o).take 2)
theorem drop_byte' {l : List Nat} (h : byteL l) (k : Nat) : byteL (l.drop k) := fun i => by
  have e : (l.drop k).getD i 0 = l.getD (k + i) 0 := by rw [List.getD_eq_getElem?_getD, List.getElem?_drop, ← List.getD_eq_getElem?_getD]
  rw [e]; exact h _
theorem nAt_lt {b : List Nat} (h : byteL b) (o : Nat) : nAt b o < 65536 := by
  have h1 := num_lt (l := (b.drop o).take 2) (take_byte (drop_byte' h o) 2)
  have h2 : ((b.drop o).take 2).length ≤ 2 := by rw [List.length_take]; omega
  have h3 : 256 ^ ((b.drop o).take 2).length ≤ 256 ^ 2 := Nat.pow_le_pow_right (by omega) h2
  unfold nAt
  omega
def headP (b : List Nat) : Ac := ⟨(b.getD 0 0 : Nat), b.getD 1 0 == 1, (nAt b 2 : Nat), (nAt b 4 : Nat), (nAt b 6 : Nat), (nAt b 8 : Nat), (b.drop 12).take (nAt b 10)⟩
def oneP (b : List Nat) : Option (Ac × List Nat) :=
  if b.length < 12 ∨ 1 < b.getD 1 0 then none else if b.length - 12 < nAt b 10 then none else if mayA (headP b) = true then some (headP b, b.drop (12 + nAt b 10)) else none
theorem oneP_short {b r : List Nat} {a : Ac} (h : oneP b = some (a, r)) : r.length + 12 ≤ b.length := by
  unfold oneP at h
  split at h
  · cases h
  · split at h
    · cases h
    · split at h
      · have e := Option.some.inj h
        have e2 : r = b.drop (12 + nAt b 10) := (Prod.ext_iff.mp e).2.symm
        rw [e2, List.length_drop]
        omega
      · cases h
def parseG : Nat → List Nat → Option (List Ac)
  | 0, _ => some []
  | f + 1, b => if b.length = 0 then some [] else match oneP b with
    | none => none
    | some p => (parseG f p.2).map (p.1 :: ·)
def parseL (b : List Nat) : Option (List Ac) := parseG b.length b
theorem parseG_more : ∀ (f : Nat) (b : List Nat), b.length ≤ f → parseG f b = parseL b := by
  intro f
  induction f using Nat.strongRecOn with
  | ind f ih =>
    intro b hb
    match f, hb with
    | 0, hb =>
      have : b = [] := List.eq_nil_of_length_eq_zero (by omega)
      subst this; rfl
    | f + 1, hb =>
      unfold parseL
      by_cases h0 : b.length = 0
      · have : b = [] := List.eq_nil_of_length_eq_zero h0
        subst this; rfl
      · obtain ⟨m, hm⟩ : ∃ m, b.length = m + 1 := ⟨b.length - 1, by omega⟩
        rw [hm]
        unfold parseG
        rw [if_neg h0, if_neg h0]
        cases h1 : oneP b with
        | none => rfl
        | some p =>
          have h2 := oneP_short (a := p.1) (r := p.2) h1
          dsimp only
          rw [ih f (by omega) p.2 (by omega), ih m (by omega) p.2 (by omega)]
theorem parseL_nil : parseL [] = some [] := rfl
theorem parseL_none {b : List Nat} (h0 : b.length ≠ 0) (h : oneP b = none) : parseL b = none := by
  obtain ⟨m, hm⟩ : ∃ m, b.length = m + 1 := ⟨b.length - 1, by omega⟩
  unfold parseL
  rw [hm]
  unfold parseG
  rw [if_neg h0, h]
theorem parseL_some {b r : List Nat} {a : Ac} (h : oneP b = some (a, r)) : parseL b = (parseL r).map (a :: ·) := by
  have h2 := oneP_short h
  obtain ⟨m, hm⟩ : ∃ m, b.length = m + 1 := ⟨b.length - 1, by omega⟩
  have h3 : parseL b = parseG (m + 1) b := by unfold parseL; rw [hm]
  rw [h3]
  unfold parseG
  rw [if_neg (by omega), h]
  dsimp only
  rw [parseG_more m r (by omega)]
theorem bytesA_row (a : Ac) : bytesA a = (a.kind.toNat % 256) :: (if a.yes then 1 else 0) :: (a.which.toNat % 256) :: (a.which.toNat / 256 % 256) :: (a.k.toNat % 256) :: (a.k.toNat / 256 % 256) :: (a.n.toNat % 256) :: (a.n.toNat / 256 % 256) :: (a.pos.toNat % 256) :: (a.pos.toNat / 256 % 256) :: (a.b.length % 256) :: (a.b.length / 256 % 256) :: a.b := by
  simp [bytesA, headA, put2, putL2]
theorem num2 (v : Nat) (h : v < 65536) : num [v % 256, v / 256 % 256] = v := by simp [num]; omega
theorem oneP_back {a : Ac} (h : mayA a = true) (r : List Nat) : oneP (bytesA a ++ r) = some (a, r) := by
  obtain ⟨kd, w, k, n, p, q0, q1, q2, q3, q4, q5, e0, e1, e2, e3, e4⟩ := mayA_nat h
  have eb : bytesA a ++ r = kd :: (if a.yes then 1 else 0) :: (w % 256) :: (w / 256 % 256) :: (k % 256) :: (k / 256 % 256) :: (n % 256) :: (n / 256 % 256) :: (p % 256) :: (p / 256 % 256) :: (a.b.length % 256) :: (a.b.length / 256 % 256) :: (a.b ++ r) := by
    rw [bytesA_row, e0, e1, e2, e3, e4]
    simp
    omega
  have n2 : nAt (bytesA a ++ r) 2 = w := by rw [eb]; simpa [nAt] using num2 w q1
  have n4 : nAt (bytesA a ++ r) 4 = k := by rw [eb]; simpa [nAt] using num2 k q2
  have n6 : nAt (bytesA a ++ r) 6 = n := by rw [eb]; simpa [nAt] using num2 n q3
  have n8 : nAt (bytesA a ++ r) 8 = p := by rw [eb]; simpa [nAt] using num2 p q4
  have n10 : nAt (bytesA a ++ r) 10 = a.b.length := by rw [eb]; simpa [nAt] using num2 a.b.length (by omega)
  have g0 : (bytesA a ++ r).getD 0 0 = kd := by rw [eb]; simp
  have g1 : (bytesA a ++ r).getD 1 0 = if a.yes then 1 else 0 := by rw [eb]; simp
  have d12 : (bytesA a ++ r).drop 12 = a.b ++ r := by rw [eb]; simp
  have hl : (bytesA a ++ r).length = 12 + a.b.length + r.length := by rw [List.length_append, bytesA_len]
  have hh : headP (bytesA a ++ r) = a := by
    unfold headP
    rw [n2, n4, n6, n8, n10, g0, g1, d12]
    refine Ac.ext' e0.symm ?_ e1.symm e2.symm e3.symm e4.symm (by simp)
    cases a.yes <;> rfl
  have hy : ¬ ((bytesA a ++ r).length < 12 ∨ 1 < (bytesA a ++ r).getD 1 0) := by
    rw [hl, g1]
    have : (if a.yes = true then 1 else 0) ≤ 1 := by split <;> omega
    omega
  unfold oneP
  rw [if_neg hy, if_neg (by rw [hl, n10]; omega), hh, if_pos h, n10]
  have e9 : (bytesA a ++ r).drop (12 + a.b.length) = r := by rw [← bytesA_len, List.drop_left]
  rw [e9]
theorem parse_flat {l : List Ac} (h : ∀ i, i < l.length → mayA (aAt l i) = true) : parseL (flatA l) = some l := by
  induction l with
  | nil => rfl
  | cons a l ih =>
    have e : flatA (a :: l) = bytesA a ++ flatA l := by simp [flatA]
    rw [e, parseL_some (oneP_back (by have := h 0 (by simp); simpa [aAt] using this) _), ih (fun i hi => by have := h (i + 1) (by simpa using hi); simpa [aAt] using this)]
    rfl
/-! acts that are held against one another -/
def sameF (like : Bool) (p q : Ac) : Bool := p.kind == q.kind && (p.yes == q.yes && (p.which == q.which && (p.k == q.k && (p.n == q.n && (p.pos == q.pos && (p.b.length == q.b.length && ((like && p.kind == 9) || decide (p.b = q.b))))))))
theorem sameF_iff (p q : Ac) : sameF false p q = true ↔ p = q := by
  unfold sameF
  constructor
  · intro h
    simp only [Bool.and_eq_true, beq_iff_eq, Bool.false_and, Bool.false_or, decide_eq_true_eq] at h
    exact Ac.ext' h.1 h.2.1 h.2.2.1 h.2.2.2.1 h.2.2.2.2.1 h.2.2.2.2.2.1 h.2.2.2.2.2.2.2
  · rintro rfl; simp
theorem sameF_like {p q : Ac} (h : sameF false p q = true) : sameF true p q = true := by
  obtain rfl := (sameF_iff p q).mp h
  simp [sameF]
def allF (like : Bool) (l m : List Ac) : Bool := decide (l.length = m.length ∧ ∀ i, i < l.length → sameF like (aAt l i) (aAt m i) = true)
theorem allF_iff (l m : List Ac) : allF false l m = true ↔ l = m := by
  unfold allF
  rw [decide_eq_true_eq]
  constructor
  · rintro ⟨h1, h2⟩
    refine List.ext_getElem h1 fun i h3 h4 => ?_
    have h5 := (sameF_iff _ _).mp (h2 i h3)
    rw [aAt_lt h3, aAt_lt h4] at h5
    exact h5
  · rintro rfl
    exact ⟨rfl, fun i _ => (sameF_iff _ _).mpr rfl⟩
theorem allF_self (l : List Ac) : allF false l l = true := (allF_iff l l).mpr rfl
theorem allF_like {l m : List Ac} (h : allF false l m = true) : allF true l m = true := by
  unfold allF at h ⊢
  rw [decide_eq_true_eq] at h ⊢
  exact ⟨h.1, fun i hi => sameF_like (h.2 i hi)⟩
/-- acts that are cut -/
def cutA (a : Ac) : Ac := ⟨a.kind, a.yes, a.which, a.k, a.n, a.pos, a.b.take 1030⟩
def cutL (m : Nat) (l : List Ac) : List Ac := (l.take m).map cutA
theorem cutL_len (m : Nat) (l : List Ac) : (cutL m l).length ≤ m := by unfold cutL; rw [List.length_map, List.length_take]; omega
theorem cutL_b (m : Nat) (l : List Ac) (i : Nat) (hi : i < (cutL m l).length) : (aAt (cutL m l) i).b.length ≤ 1030 := by
  have h2 : i < (l.take m).length := by unfold cutL at hi; simpa using hi
  unfold cutL
  rw [aAt_map h2]
  unfold cutA
  dsimp only
  rw [List.length_take]
  omega
end Go.Proofs.YtcaogiaoabdkdaaDoor
