/-
  Layer 31 as lists of numbers: an act's line, its words, what words tell. No program is named here.
-/
import Derived.Test.YtcaogiaoabdkdaaDoorZScM
namespace Go.Proofs.YtcaogiaoabdkdaaDoor
set_option linter.unusedVariables false
set_option linter.unusedSimpArgs false
/-- a number's digits -/
def numL (n : Nat) : List Nat := if n < 10 then [48 + n] else numL (n / 10) ++ [48 + n % 10]
termination_by n
decreasing_by omega
def valN (w : List Nat) : Nat := w.foldl (fun n c => 10 * n + (c - 48)) 0
def digB (c : Nat) : Bool := decide (48 ≤ c ∧ c ≤ 57)
/-- the number that a word is -/
def valL (w : List Nat) : Option Nat := if w ≠ [] ∧ w.length ≤ 5 ∧ w.all digB = true ∧ valN w ≤ 65535 then some (valN w) else none
theorem valN_app (a : List Nat) (c : Nat) : valN (a ++ [c]) = 10 * valN a + (c - 48) := by simp [valN]
theorem numL_dig (n : Nat) : (numL n).all digB = true := by
  induction n using Nat.strongRecOn with
  | _ n ih =>
    rw [numL]; split
    · simp [digB]; omega
    · rw [List.all_append, ih (n / 10) (by omega)]; simp [digB]; omega
theorem numL_val (n : Nat) : valN (numL n) = n := by
  induction n using Nat.strongRecOn with
  | _ n ih =>
    rw [numL]; split
    · simp [valN]
    · rw [valN_app, ih (n / 10) (by omega)]; omega
theorem numL_ne (n : Nat) : numL n ≠ [] := by rw [numL]; split <;> simp
theorem numL_len (n k : Nat) (h : n < 10 ^ (k + 1)) : (numL n).length ≤ k + 1 := by
  induction k generalizing n with
  | zero => rw [numL, if_pos (by simpa using h)]; simp
  | succ k ih =>
    rw [numL]; split
    · simp
    · rw [List.length_append]
      have := ih (n / 10) (by rw [Nat.pow_succ] at h; omega)
      simp; omega
theorem valL_num {n : Nat} (h : n ≤ 65535) : valL (numL n) = some n := by
  unfold valL
  rw [if_pos ⟨numL_ne n, numL_len n 4 (by omega), numL_dig n, by rw [numL_val]; exact h⟩, numL_val]
/-- a byte's two signs -/
def sgL (d : Nat) : Nat := if d < 10 then 48 + d else 87 + d
def hexL (b : List Nat) : List Nat := if b = [] then [45] else b.flatMap fun c => [sgL (c / 16), sgL (c % 16)]
def dgL (c : Nat) : Option Nat := if 48 ≤ c ∧ c ≤ 57 then some (c - 48) else if 97 ≤ c ∧ c ≤ 102 then some (c - 87) else none
def unhL : List Nat → Option (List Nat)
  | [] => some []
  | [_] => none
  | x :: y :: r => match dgL x, dgL y, unhL r with
    | some a, some b, some l => some ((16 * a + b) :: l)
    | _, _, _ => none
/-- the bytes that a word is -/
def bytL (w : List Nat) : Option (List Nat) := if w = [45] then some [] else if w = [] then none else unhL w
theorem dg_sg {d : Nat} (h : d < 16) : dgL (sgL d) = some d := by
  unfold dgL sgL
  split
  · rw [if_pos (by omega)]; simp
  · rw [if_neg (by omega), if_pos (by omega)]; simp
theorem unh_hex {b : List Nat} (h : ∀ c ∈ b, c < 256) : unhL (b.flatMap fun c => [sgL (c / 16), sgL (c % 16)]) = some b := by
  induction b with
  | nil => rfl
  | cons c b ih =>
    have hc := h c (by simp)
    have e : ((c :: b).flatMap fun c => [sgL (c / 16), sgL (c % 16)]) = sgL (c / 16) :: sgL (c % 16) :: (b.flatMap fun c => [sgL (c / 16), sgL (c % 16)]) := by simp
    rw [e]
    unfold unhL
    rw [dg_sg (by omega), dg_sg (by omega), ih (fun x hx => h x (by simp [hx]))]
    simp; omega
theorem sg_ne (d : Nat) (h : d < 16) : sgL d ≠ 45 ∧ sgL d ≠ 32 ∧ sgL d ≠ 9 ∧ sgL d ≠ 35 ∧ sgL d ≠ 10 := by
  unfold sgL; split <;> omega
theorem bytL_hex {b : List Nat} (h : ∀ c ∈ b, c < 256) : bytL (hexL b) = some b := by
  unfold bytL hexL
  by_cases e : b = []
  · subst e; rfl
  · rw [if_neg e]
    obtain ⟨c, r, rfl⟩ : ∃ c r, b = c :: r := by cases b with | nil => exact absurd rfl e | cons c r => exact ⟨c, r, rfl⟩
    rw [if_neg (by simp), if_neg (by simp)]
    exact unh_hex h
/-! words -/
def splW : List Nat → List Nat → List (List Nat)
  | w, [] => if w = [] then [] else [w]
  | w, c :: s => if c = 32 ∨ c = 9 then (if w = [] then splW [] s else w :: splW [] s) else splW (w ++ [c]) s
def cutH (s : List Nat) : List Nat := s.takeWhile fun c => !decide (c = 35)
/-- a line's words -/
def wordsL (s : List Nat) : List (List Nat) := splW [] (cutH s)
def joinW : List (List Nat) → List Nat
  | [] => []
  | [w] => w
  | w :: x :: r => w ++ 32 :: joinW (x :: r)
/-- a word: no blank, no remark, no line's end -/
def wordB (w : List Nat) : Prop := w ≠ [] ∧ ∀ c ∈ w, c ≠ 32 ∧ c ≠ 9 ∧ c ≠ 35 ∧ c ≠ 10
theorem spl_in (w : List Nat) : ∀ (u s : List Nat), (∀ c ∈ w, c ≠ 32 ∧ c ≠ 9 ∧ c ≠ 35 ∧ c ≠ 10) → splW u (w ++ s) = splW (u ++ w) s := by
  induction w with
  | nil => intro u s _; simp
  | cons c w ih =>
    intro u s h
    have hc := h c (by simp)
    rw [List.cons_append, splW, if_neg (by omega), ih _ _ (fun x hx => h x (by simp [hx])), List.append_assoc]; rfl
theorem spl_join (l : List (List Nat)) (h : ∀ w ∈ l, wordB w) : splW [] (joinW l) = l := by
  induction l with
  | nil => rfl
  | cons w l ih =>
    have hw := h w (by simp)
    cases l with
    | nil =>
      have := spl_in w [] [] hw.2
      rw [List.append_nil, List.nil_append] at this
      rw [joinW, this, splW, if_neg hw.1]
    | cons x r =>
      rw [joinW, spl_in w [] _ hw.2, List.nil_append, splW, if_pos (.inl rfl), if_neg hw.1, ih (fun y hy => h y (by simp [hy]))]
theorem join_no (l : List (List Nat)) (h : ∀ w ∈ l, wordB w) : ∀ c ∈ joinW l, c ≠ 35 ∧ c ≠ 10 := by
  induction l with
  | nil => intro c hc; simp [joinW] at hc
  | cons w l ih =>
    have hw := h w (by simp)
    cases l with
    | nil => intro c hc; rw [joinW] at hc; have := hw.2 c hc; omega
    | cons x r =>
      intro c hc
      rw [joinW, List.mem_append, List.mem_cons] at hc
      rcases hc with hc | hc | hc
      · have := hw.2 c hc; omega
      · omega
      · exact ih (fun y hy => h y (by simp [hy])) c hc
theorem cut_no {s : List Nat} (h : ∀ c ∈ s, c ≠ 35) : cutH s = s := by
  unfold cutH
  induction s with
  | nil => rfl
  | cons c s ih => rw [List.takeWhile_cons, if_pos (by simp [h c (by simp)]), ih (fun x hx => h x (by simp [hx]))]
theorem words_join {l : List (List Nat)} (h : ∀ w ∈ l, wordB w) : wordsL (joinW l) = l := by
  unfold wordsL
  rw [cut_no (fun c hc => (join_no l h c hc).1), spl_join l h]
/-! acts -/
def namesL : List (List Nat) := [[102, 111, 114, 109, 97, 116], [111, 112, 101, 110], [99, 108, 111, 115, 101], [98, 101, 103, 105, 110], [99, 111, 109, 109, 105, 116], [97, 98, 111, 114, 116], [97, 108, 108, 111, 99], [102, 114, 101, 101], [114, 101, 97, 108, 108, 111, 99], [119, 114, 105, 116, 101], [114, 101, 97, 100], [115, 101, 116], [114, 111, 111, 116], [115, 105, 122, 101], [115, 116, 97, 116], [99, 104, 101, 99, 107], [99, 114, 97, 115, 104], [97, 114, 109], [116, 97, 109, 112, 101, 114], [111, 110]]
def ordL (K : Nat) : List Nat := if K = 1 then [111] else if K = 11 then [107, 115] else fldL (K : Int)
def rdW : List Nat := [114, 101, 97, 100]
def wrW : List Nat := [119, 114, 105, 116, 101]
def noW : List Nat := [110, 111, 110, 101]
/-- the word of a field -/
def fldW (a : Ac) (c : Nat) : List Nat :=
  if c = 119 then numL a.which.toNat else if c = 107 then numL a.k.toNat else if c = 110 then numL a.n.toNat else if c = 97 then numL a.pos.toNat
  else if c = 98 then hexL a.b else if c = 111 then (if a.yes then wrW else rdW) else (if a.yes then noW else numL a.which.toNat)
def wrdsA (a : Ac) : List (List Nat) := namesL.getD a.kind.toNat [] :: (ordL a.kind.toNat).map (fldW a)
def lineA (a : Ac) : List Nat := joinW (wrdsA a)
def mayLn (a : Ac) : Bool := mayA a && (decide (a.kind ≠ 11) || !a.yes || decide (a.which = 0))
/-- what a word tells of a field -/
def setW (a : Ac) (c : Nat) (w : List Nat) : Option Ac :=
  if c = 119 then (valL w).map fun n => { a with which := n } else if c = 107 then (valL w).map fun n => { a with k := n }
  else if c = 110 then (valL w).map fun n => { a with n := n } else if c = 97 then (valL w).map fun n => { a with pos := n }
  else if c = 98 then (bytL w).map fun b => { a with b := b }
  else if c = 111 then (if w = wrW then some { a with yes := true } else if w = rdW then some { a with yes := false } else none)
  else (if w = noW then some { a with yes := true, which := 0 } else (valL w).map fun n => { a with yes := false, which := n })
def setsW : Ac → List (Nat × List Nat) → Option Ac
  | a, [] => some a
  | a, (c, w) :: r => match setW a c w with | some b => setsW b r | none => none
def kindW (w : List Nat) : Option Nat := (List.range 20).find? fun k => decide (namesL.getD k [] = w)
/-- an act of a kind, with nothing -/
def kA (K : Int) : Ac := ⟨K, false, 0, 0, 0, 0, []⟩
/-- the act that words tell -/
def actW : List (List Nat) → Option Ac
  | [] => none
  | w :: r => match kindW w with
    | some k => if r.length = (ordL k).length then
        match setsW (kA k) ((ordL k).zip r) with
        | some a => if mayA a then some a else none
        | none => none
      else none
    | none => none
theorem kind_name : ∀ k, k < 20 → kindW (namesL.getD k []) = some k := by decide
theorem name_word : ∀ k, k < 20 → wordB (namesL.getD k []) := by
  intro k hk
  have : ∀ k, k < 20 → (namesL.getD k [] ≠ [] ∧ (namesL.getD k []).all (fun c => decide (c ≠ 32 ∧ c ≠ 9 ∧ c ≠ 35 ∧ c ≠ 10)) = true) := by decide
  obtain ⟨h1, h2⟩ := this k hk
  exact ⟨h1, fun c hc => of_decide_eq_true (List.all_eq_true.1 h2 c hc)⟩
theorem num_word (n : Nat) : wordB (numL n) := ⟨numL_ne n, fun c hc => by
  have := List.all_eq_true.1 (numL_dig n) c hc
  have := of_decide_eq_true this
  omega⟩
theorem hex_word {b : List Nat} (h : ∀ c ∈ b, c < 256) : wordB (hexL b) := by
  unfold hexL
  by_cases e : b = []
  · subst e; exact ⟨by simp, by simp⟩
  · rw [if_neg e]
    refine ⟨?_, fun c hc => ?_⟩
    · cases b with | nil => exact absurd rfl e | cons c r => simp
    · rw [List.mem_flatMap] at hc
      obtain ⟨x, hx, hc⟩ := hc
      have h1 := h x hx
      simp only [List.mem_cons, List.not_mem_nil, or_false] at hc
      rcases hc with rfl | rfl
      · have := sg_ne (x / 16) (by omega); omega
      · have := sg_ne (x % 16) (by omega); omega
theorem fld_word {a : Ac} (h : ∀ c ∈ a.b, c < 256) (c : Nat) : wordB (fldW a c) := by
  have hr : wordB rdW := ⟨by decide, by decide⟩
  have hw : wordB wrW := ⟨by decide, by decide⟩
  have hn : wordB noW := ⟨by decide, by decide⟩
  unfold fldW
  repeat' split
  all_goals first | exact num_word _ | exact hex_word h | assumption
theorem wrds_word {a : Ac} (h : ∀ c ∈ a.b, c < 256) (hk : a.kind.toNat < 20) : ∀ w ∈ wrdsA a, wordB w := by
  intro w hw
  unfold wrdsA at hw
  rw [List.mem_cons, List.mem_map] at hw
  rcases hw with rfl | ⟨c, _, rfl⟩
  · exact name_word _ hk
  · exact fld_word h c
end Go.Proofs.YtcaogiaoabdkdaaDoor
