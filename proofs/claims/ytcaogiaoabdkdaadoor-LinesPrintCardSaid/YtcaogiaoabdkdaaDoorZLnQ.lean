/-
  Lines: bounds of what is parsed; lines' bytes; blanks. No program is named here.
-/
import Derived.Test.YtcaogiaoabdkdaaDoorZLnF
import Derived.Test.YtcaogiaoabdkdaaDoorZLqA
namespace Go.Proofs.YtcaogiaoabdkdaaDoor
open Go.RowKit Go
set_option linter.unusedVariables false
set_option linter.unusedSimpArgs false
set_option maxRecDepth 100000
set_option maxHeartbeats 4000000
/-- a string's bytes -/
def natL (s : ByteArray) : List Nat := s.data.toList.map UInt8.toNat
theorem str_natL (s : ByteArray) : str (natL s) = s := by
  apply ByteArray.ext
  apply Array.ext'
  rw [str_data]
  unfold natL
  rw [List.map_map]
  have : (UInt8.ofNat ∘ UInt8.toNat) = id := by funext x; simp
  rw [this, List.map_id]
theorem natL_len (s : ByteArray) : (natL s).length = s.size := by
  have := str_size (natL s)
  rw [str_natL] at this
  exact this.symm
theorem natL_byte (s : ByteArray) : ∀ c ∈ natL s, c < 256 := by
  intro c hc
  unfold natL at hc
  rw [List.mem_map] at hc
  obtain ⟨x, _, rfl⟩ := hc
  exact x.toNat_lt
theorem actW_may {ws : List (List Nat)} {a : Ac} (h : actW ws = some a) : mayA a = true := by
  cases ws with
  | nil => cases h
  | cons w r =>
    simp only [actW] at h
    split at h
    · split at h
      · split at h
        · split at h
          · injection h with h; subst h; assumption
          · cases h
        · cases h
      · cases h
    · cases h
theorem may_b {a : Ac} (h : mayA a = true) : a.b.length ≤ 1024 := by
  obtain ⟨_, _, _, _, _, _, _, _, _, _, h6, _⟩ := mayA_nat h
  exact h6
theorem actsL_all {Q : Ac → Prop} (hQ : ∀ ws a, actW ws = some a → Q a) (ls : List (List Nat)) : ∀ (k : Nat) (o : List Ac), (∀ a ∈ o, Q a) → ∀ a ∈ (actsL ls k o).1, Q a := by
  induction ls with
  | nil => intro k o ho; exact ho
  | cons x r ih =>
    intro k o ho
    rw [actsL]
    split
    · exact ih _ _ ho
    · split
      · rename_i a h
        refine ih _ _ (fun b hb => ?_)
        rw [List.mem_append, List.mem_singleton] at hb
        rcases hb with hb | rfl
        · exact ho b hb
        · exact hQ _ _ h
      · intro a ha; cases ha
theorem actsL_len (ls : List (List Nat)) : ∀ (k : Nat) (o : List Ac), (actsL ls k o).1.length ≤ o.length + ls.length := by
  induction ls with
  | nil => intro k o; simp [actsL]
  | cons x r ih =>
    intro k o
    rw [actsL]
    split
    · have := ih (k + 1) o; simp; omega
    · split
      · rename_i a h
        have := ih (k + 1) (o ++ [a]); simp at this ⊢; omega
      · simp
theorem cutN_len2 (s : List Nat) : ∀ u : List Nat, (cutN u s).length ≤ s.length + 1 := by
  induction s with
  | nil => intro u; simp [cutN]
  | cons c s ih =>
    intro u
    rw [cutN]
    split
    · have := ih []; simp; omega
    · have := ih (u ++ [c]); simp at this ⊢; omega
theorem parse_len (s : List Nat) : (parseT s).1.length ≤ s.length + 1 := by
  have h1 := actsL_len (linesL s) 1 []
  have h2 := cutN_len2 s []
  unfold parseT
  unfold linesL at h1 ⊢
  simp at h1
  omega
theorem aAt_of {Q : Ac → Prop} {l : List Ac} (h : ∀ a ∈ l, Q a) (h0 : Q acZ) (i : Nat) : Q (aAt l i) := by
  unfold aAt
  rw [List.getD_eq_getElem?_getD]
  by_cases hi : i < l.length
  · rw [List.getElem?_eq_getElem hi]; exact h _ (List.getElem_mem hi)
  · rw [List.getElem?_eq_none (by omega)]; exact h0
theorem parse_b (s : List Nat) (i : Nat) : (aAt (parseT s).1 i).b.length ≤ 1024 :=
  aAt_of (Q := fun a => a.b.length ≤ 1024) (actsL_all (fun ws a h => may_b (actW_may h)) _ _ _ (fun a ha => by cases ha)) (by decide) i
/-! a line's bytes, and how many -/
theorem joinW_byte (l : List (List Nat)) (h : ∀ w ∈ l, ∀ c ∈ w, c < 256) : ∀ c ∈ joinW l, c < 256 := by
  induction l with
  | nil => intro c hc; cases hc
  | cons w r ih =>
    cases r with
    | nil => intro c hc; exact h w (by simp) c hc
    | cons x r =>
      intro c hc
      rw [joinW, List.mem_append, List.mem_cons] at hc
      rcases hc with hc | rfl | hc
      · exact h w (by simp) c hc
      · omega
      · exact ih (fun y hy => h y (List.mem_cons_of_mem _ hy)) c hc
theorem numL_byte (n : Nat) : ∀ c ∈ numL n, c < 256 := fun c hc => by
  have h := List.all_eq_true.1 (numL_dig n) c hc
  unfold digB at h
  have := of_decide_eq_true h
  omega
theorem sgL_byte {d : Nat} (h : d < 16) : sgL d < 256 := by unfold sgL; split <;> omega
theorem hexL_byte {b : List Nat} (h : ∀ c ∈ b, c < 256) : ∀ c ∈ hexL b, c < 256 := by
  unfold hexL
  split
  · intro c hc; simp at hc; omega
  · intro c hc
    rw [List.mem_flatMap] at hc
    obtain ⟨x, hx, hc⟩ := hc
    have := h x hx
    simp at hc
    rcases hc with rfl | rfl
    · exact sgL_byte (by omega)
    · exact sgL_byte (by omega)
theorem fldW_byte {a : Ac} (h : ∀ c ∈ a.b, c < 256) (k : Nat) : ∀ c ∈ fldW a k, c < 256 := by
  have r : ∀ c ∈ rdW, c < 256 := by decide
  have w : ∀ c ∈ wrW, c < 256 := by decide
  have n : ∀ c ∈ noW, c < 256 := by decide
  unfold fldW
  repeat' split
  all_goals first | exact numL_byte _ | exact hexL_byte h | exact r | exact w | exact n
theorem nameL_byte : ∀ k, k < 20 → ∀ c ∈ namesL.getD k [], c < 256 := by decide
theorem lineA_byte {a : Ac} (hm : mayLn a = true) (hb : ∀ c ∈ a.b, c < 256) : ∀ c ∈ lineA a, c < 256 := by
  have hA : mayA a = true := by unfold mayLn at hm; rw [Bool.and_eq_true] at hm; exact hm.1
  obtain ⟨kd, w, k, n, p, hkd, _, _, _, _, _, e1, _⟩ := mayA_nat hA
  unfold lineA
  refine joinW_byte _ (fun x hx => ?_)
  unfold wrdsA at hx
  rw [List.mem_cons, List.mem_map] at hx
  rcases hx with rfl | ⟨c, _, rfl⟩
  · exact nameL_byte _ (by rw [e1]; exact hkd)
  · exact fldW_byte hb c
theorem lineA_len {a : Ac} (hm : mayLn a = true) : (lineA a).length ≤ 6310 := by
  have hA : mayA a = true := by unfold mayLn at hm; rw [Bool.and_eq_true] at hm; exact hm.1
  obtain ⟨kd, w, k, n, p, hkd, h1, h2, h3, h4, h5, e1, e2, e3, e4, e5⟩ := mayA_nat hA
  have hk : a.kind.toNat < 20 := by rw [e1]; exact hkd
  rw [← preA_end a]
  have := pre_len a hk (fld_len a (by omega) (by omega) (by omega) (by omega) h5) _ (Nat.le_refl _)
  have := ord_len _ hk
  omega
/-! blanks -/
theorem spl_end {c : Nat} (hc : c = 32 ∨ c = 9) (s : List Nat) : ∀ u : List Nat, splW u (s ++ [c]) = splW u s := by
  induction s with
  | nil =>
    intro u
    have e1 : splW u [c] = if u = [] then splW [] [] else u :: splW [] [] := by
      have h := splW.eq_2 u c []
      rw [h, if_pos hc]
    have e2 : splW [] [] = [] := rfl
    have e3 : splW u [] = if u = [] then [] else [u] := by rw [splW.eq_def]
    rw [List.nil_append, e1, e2, e3]
  | cons d s ih =>
    intro u
    rw [List.cons_append, splW, splW]
    rw [ih, ih]
theorem spl_front {c : Nat} (hc : c = 32 ∨ c = 9) (s : List Nat) : splW [] (c :: s) = splW [] s := by
  rw [splW, if_pos hc, if_pos rfl]
theorem cutH_mark {s : List Nat} (h : ∀ c ∈ s, c ≠ 35) (r : List Nat) : cutH (s ++ 35 :: r) = s := by
  unfold cutH
  induction s with
  | nil => rfl
  | cons c s ih => rw [List.cons_append, List.takeWhile_cons, if_pos (by simp [h c (by simp)]), ih (fun x hx => h x (by simp [hx]))]
/-- what stands before, behind and under a line -/
def bA (k : Nat) : List Nat := if k = 0 then [] else if k = 1 then [32] else if k = 2 then [9] else [10, 35, 120, 10]
def bB (k : Nat) : List Nat := if k = 0 then [] else if k = 1 then [32, 35, 32, 121] else if k = 2 then [9, 32] else [35, 122]
def bC (k : Nat) : List Nat := if k = 0 then [] else if k = 1 then [10] else if k = 2 then [32, 10] else [35, 10]
def blkA (k : Nat) (a : Ac) : List Nat := bA k ++ lineA a ++ bB k ++ [10] ++ bC k
def Pt (t : List Nat) (o : List Ac) : Prop := ∀ r, ∃ ls, linesL (t ++ r) = ls ++ linesL r ∧ ∀ rest k p, ∃ k', actsL (ls ++ rest) k p = actsL rest k' (p ++ o)
theorem Pt.nil : Pt [] [] := fun r => ⟨[], rfl, fun rest k p => ⟨k, by simp⟩⟩
theorem Pt.app {t u : List Nat} {o q : List Ac} (h : Pt t o) (h' : Pt u q) : Pt (t ++ u) (o ++ q) := fun r => by
  obtain ⟨l1, e1, f1⟩ := h (u ++ r)
  obtain ⟨l2, e2, f2⟩ := h' r
  refine ⟨l1 ++ l2, by rw [List.append_assoc, e1, e2, List.append_assoc], fun rest k p => ?_⟩
  obtain ⟨k1, g1⟩ := f1 (l2 ++ rest) k p
  obtain ⟨k2, g2⟩ := f2 rest k1 (p ++ o)
  exact ⟨k2, by rw [List.append_assoc, g1, g2, List.append_assoc]⟩
/-- one line -/
theorem Pt.line {x : List Nat} (hx : ∀ c ∈ x, c ≠ 10) {o : List Ac} (h : (wordsL x = [] ∧ o = []) ∨ (wordsL x ≠ [] ∧ ∃ a, actW (wordsL x) = some a ∧ o = [a])) : Pt (x ++ [10]) o := fun r => by
  refine ⟨[x], ?_, fun rest k p => ⟨k + 1, ?_⟩⟩
  · unfold linesL
    rw [List.append_assoc, cutN_in x _ _ hx, List.nil_append, List.singleton_append, cutN, if_pos rfl]; rfl
  · rw [List.singleton_append, actsL]
    rcases h with ⟨h, rfl⟩ | ⟨h, a, ha, rfl⟩
    · rw [if_pos h, List.append_nil]
    · rw [if_neg h, ha]
theorem Pt.done {t : List Nat} {o : List Ac} (h : Pt t o) : parseT t = (o, 0) := by
  obtain ⟨ls, e, f⟩ := h []
  rw [List.append_nil] at e
  unfold parseT
  rw [e]
  obtain ⟨k', g⟩ := f (linesL []) 1 []
  rw [g, List.nil_append]
  have e1 : linesL [] = [[]] := rfl
  have e2 : wordsL [] = [] := rfl
  rw [e1, actsL, if_pos e2, actsL]
theorem words_blk {a : Ac} (hm : mayLn a = true) (hb : ∀ c ∈ a.b, c < 256) :
    wordsL (32 :: lineA a ++ [32, 35, 32, 121]) = wrdsA a ∧ wordsL (9 :: lineA a ++ [9, 32]) = wrdsA a ∧ wordsL (lineA a ++ [35, 122]) = wrdsA a := by
  have hA : mayA a = true := by unfold mayLn at hm; rw [Bool.and_eq_true] at hm; exact hm.1
  obtain ⟨kd, w, k, n, p, hkd, _, _, _, _, _, e1, _⟩ := mayA_nat hA
  have hno : ∀ c ∈ lineA a, c ≠ 35 := fun c hc => (join_no _ (wrds_word hb (by rw [e1]; exact hkd)) c hc).1
  have hw := line_words hm hb
  have hs : splW [] (lineA a) = wrdsA a := by
    unfold wordsL at hw
    rw [cut_no hno] at hw
    exact hw
  refine ⟨?_, ?_, ?_⟩
  · have e : 32 :: lineA a ++ [32, 35, 32, 121] = (32 :: lineA a ++ [32]) ++ 35 :: [32, 121] := by simp
    unfold wordsL
    rw [e, cutH_mark (fun c hc => by
      rw [List.mem_append, List.mem_cons, List.mem_singleton] at hc
      rcases hc with (rfl | hc) | rfl
      · omega
      · exact hno c hc
      · omega), List.cons_append, spl_front (.inl rfl), spl_end (.inl rfl), hs]
  · have e : 9 :: lineA a ++ [9, 32] = (9 :: lineA a ++ [9]) ++ [32] := by simp
    unfold wordsL
    rw [cut_no (fun c hc => by
      rw [List.mem_append, List.mem_cons] at hc
      rcases hc with (rfl | hc) | hc
      · omega
      · exact hno c hc
      · simp at hc; omega), e, spl_end (.inl rfl), spl_end (.inr rfl), spl_front (.inr rfl), hs]
  · unfold wordsL
    rw [cutH_mark hno, hs]
theorem Pt.blk {a : Ac} (k : Nat) (hm : mayLn a = true) (hb : ∀ c ∈ a.b, c < 256) : Pt (blkA k a) [a] := by
  have hno := lineA_no hm hb
  obtain ⟨w1, w2, w3⟩ := words_blk hm hb
  have hne := wrds_ne a
  have hac := act_back hm hb
  have hw := line_words hm hb
  unfold blkA bA bB bC
  by_cases h0 : k = 0
  · simp only [h0, if_pos]
    simp only [List.nil_append, List.append_nil]
    exact Pt.line hno (.inr ⟨by rw [hw]; exact hne, a, by rw [hw]; exact hac, rfl⟩)
  by_cases h1 : k = 1
  · simp only [h1]
    have := (Pt.line (x := 32 :: lineA a ++ [32, 35, 32, 121]) (fun c hc => by
      rw [List.mem_append, List.mem_cons] at hc
      rcases hc with (rfl | hc) | hc
      · omega
      · exact hno c hc
      · simp at hc; omega) (.inr ⟨by rw [w1]; exact hne, a, by rw [w1]; exact hac, rfl⟩)).app (Pt.line (x := []) (fun c hc => by cases hc) (.inl ⟨rfl, rfl⟩))
    simpa using this
  by_cases h2 : k = 2
  · simp only [h2]
    have := (Pt.line (x := 9 :: lineA a ++ [9, 32]) (fun c hc => by
      rw [List.mem_append, List.mem_cons] at hc
      rcases hc with (rfl | hc) | hc
      · omega
      · exact hno c hc
      · simp at hc; omega) (.inr ⟨by rw [w2]; exact hne, a, by rw [w2]; exact hac, rfl⟩)).app (Pt.line (x := [32]) (fun c hc => by simp at hc; omega) (.inl ⟨rfl, rfl⟩))
    simpa using this
  · rw [if_neg h0, if_neg h1, if_neg h2, if_neg h0, if_neg h1, if_neg h2, if_neg h0, if_neg h1, if_neg h2]
    have p1 := Pt.line (x := []) (o := []) (fun c hc => by cases hc) (.inl ⟨rfl, rfl⟩)
    have p2 := Pt.line (x := [35, 120]) (o := []) (fun c hc => by simp at hc; omega) (.inl ⟨rfl, rfl⟩)
    have p3 := Pt.line (x := lineA a ++ [35, 122]) (fun c hc => by
      rw [List.mem_append] at hc
      rcases hc with hc | hc
      · exact hno c hc
      · simp at hc; omega) (.inr ⟨by rw [w3]; exact hne, a, by rw [w3]; exact hac, rfl⟩)
    have p4 := Pt.line (x := [35]) (o := []) (fun c hc => by simp at hc; omega) (.inl ⟨rfl, rfl⟩)
    have := ((p1.app p2).app p3).app p4
    simpa using this
theorem blk_len {a : Ac} (k : Nat) (hm : mayLn a = true) : (blkA k a).length ≤ 6330 := by
  have := lineA_len hm
  unfold blkA bA bB bC
  repeat' split
  all_goals (simp; omega)
theorem blk_byte {a : Ac} (k : Nat) (hm : mayLn a = true) (hb : ∀ c ∈ a.b, c < 256) : ∀ c ∈ blkA k a, c < 256 := by
  have h := lineA_byte hm hb
  have hA : ∀ c ∈ bA k, c < 256 := by unfold bA; repeat' split
                                      all_goals decide
  have hB : ∀ c ∈ bB k, c < 256 := by unfold bB; repeat' split
                                      all_goals decide
  have hC : ∀ c ∈ bC k, c < 256 := by unfold bC; repeat' split
                                      all_goals decide
  intro c hc
  unfold blkA at hc
  simp only [List.mem_append, List.mem_singleton] at hc
  rcases hc with (((hc | hc) | hc) | hc) | hc
  · exact hA c hc
  · exact h c hc
  · exact hB c hc
  · omega
  · exact hC c hc
end Go.Proofs.YtcaogiaoabdkdaaDoor
