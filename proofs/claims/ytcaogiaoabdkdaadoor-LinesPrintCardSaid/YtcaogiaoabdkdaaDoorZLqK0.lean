/-
  Layer 31: words to an act as the program reads them, and as the document does. No program is named here.
-/
import Derived.Test.YtcaogiaoabdkdaaDoorZLqJ
namespace Go.Proofs.YtcaogiaoabdkdaaDoor
open Go.RowKit Go Go.Shelf
set_option linter.unusedVariables false
set_option linter.unusedSimpArgs false
set_option maxRecDepth 100000
set_option maxHeartbeats 1000000
def setsP : Ac → List (Nat × List Nat) → Option Ac
  | a, [] => some a
  | a, (c, w) :: r => match setP a c w with | some b => setsP b r | none => none
theorem setsP_app (l1 l2 : List (Nat × List Nat)) : ∀ a : Ac, setsP a (l1 ++ l2) = match setsP a l1 with | some b => setsP b l2 | none => none := by
  induction l1 with
  | nil => intro a; rfl
  | cons x l1 ih =>
    intro a
    obtain ⟨c, w⟩ := x
    rw [List.cons_append, setsP, setsP]
    cases setP a c w with
    | none => rfl
    | some b => exact ih b
theorem zip_take {f : List Nat} {r : List (List Nat)} {j : Nat} (h1 : j < f.length) (h2 : j < r.length) : (f.take (j + 1)).zip (r.take (j + 1)) = (f.take j).zip (r.take j) ++ [(f.getD j 0, r.getD j [])] := by
  rw [List.take_add_one, List.take_add_one, List.getElem?_eq_getElem h1, List.getElem?_eq_getElem h2, List.getD_eq_getElem?_getD, List.getD_eq_getElem?_getD, List.getElem?_eq_getElem h1, List.getElem?_eq_getElem h2]
  simp only [Option.toList, Option.getD_some]
  rw [List.zip_append (by simp; omega)]
  rfl
theorem setsP_snoc {a : Ac} {f : List Nat} {r : List (List Nat)} {j : Nat} (h1 : j < f.length) (h2 : j < r.length) {b : Ac} (hb : setsP a ((f.take j).zip (r.take j)) = some b) : setsP a ((f.take (j + 1)).zip (r.take (j + 1))) = setP b (f.getD j 0) (r.getD j []) := by
  rw [zip_take h1 h2, setsP_app, hb]
  simp only [setsP]
  cases setP b (f.getD j 0) (r.getD j []) <;> rfl
theorem setsP_pre {a : Ac} {f : List Nat} {r : List (List Nat)} (j : Nat) (h1 : j ≤ f.length) (h2 : j ≤ r.length) (h : setsP a ((f.take j).zip (r.take j)) = none) : setsP a (f.zip r) = none := by
  have e : f.zip r = (f.take j).zip (r.take j) ++ (f.drop j).zip (r.drop j) := by
    rw [← List.zip_append (by rw [List.length_take, List.length_take]; omega), List.take_append_drop, List.take_append_drop]
  rw [e, setsP_app, h]
theorem valP_nil : valP [] = none := by unfold valP okN; rfl
theorem setP_nil (a : Ac) (c : Nat) : setP a c [] = none := by
  unfold setP
  rw [valP_nil, show bytL [] = none from rfl]
  repeat' split
  all_goals first | rfl | (rename_i h; exact absurd h (by decide))
/-- the field that a letter tells of -/
def fldV (c : Nat) (a : Ac) : Int := if c = 107 then a.k else if c = 110 then a.n else if c = 97 then a.pos else if c = 98 ∨ c = 111 then 0 else a.which
def fldI (c : Nat) : Nat := if c = 107 then 1 else if c = 110 then 2 else if c = 97 then 3 else if c = 98 then 4 else if c = 111 then 5 else 0
theorem valW_P {w : List Nat} {n : Nat} (h : valL w = some n) : valP w = some n := by
  unfold valL at h
  split at h
  · rename_i hc
    injection h with h
    unfold valP okN
    rw [decide_eq_true ⟨hc.1, hc.2.1⟩, hc.2.2.1]
    simp [h]
  · cases h
theorem valP_W {w : List Nat} {n : Nat} (h : valP w = some n) (hn : n ≤ 65535) : valL w = some n := by
  unfold valP okN at h
  split at h
  · rename_i hc
    injection h with h
    rw [Bool.and_eq_true, decide_eq_true_eq] at hc
    unfold valL
    rw [if_pos ⟨hc.1.1, hc.1.2, hc.2, by omega⟩, h]
  · cases h
theorem setW_P {a b : Ac} {c : Nat} {w : List Nat} (h : setW a c w = some b) : setP a c w = some b := by
  unfold setW at h
  unfold setP
  by_cases c1 : c = 119
  · subst c1
    (try rw [if_pos rfl] at h ⊢)
    cases hv : valL w with
    | none => rw [hv] at h; cases h
    | some n =>
      rw [hv] at h
      rw [valW_P hv]
      exact h
  · rw [if_neg c1] at h ⊢
    by_cases c2 : c = 107
    · subst c2
      (try rw [if_pos rfl] at h ⊢)
      cases hv : valL w with
      | none => rw [hv] at h; cases h
      | some n =>
        rw [hv] at h
        rw [valW_P hv]
        exact h
    · rw [if_neg c2] at h ⊢
      by_cases c3 : c = 110
      · subst c3
        (try rw [if_pos rfl] at h ⊢)
        cases hv : valL w with
        | none => rw [hv] at h; cases h
        | some n =>
          rw [hv] at h
          rw [valW_P hv]
          exact h
      · rw [if_neg c3] at h ⊢
        by_cases c4 : c = 97
        · subst c4
          (try rw [if_pos rfl] at h ⊢)
          cases hv : valL w with
          | none => rw [hv] at h; cases h
          | some n =>
            rw [hv] at h
            rw [valW_P hv]
            exact h
        · rw [if_neg c4] at h ⊢
          by_cases c5 : c = 98
          · rw [if_pos c5] at h ⊢; exact h
          · rw [if_neg c5] at h ⊢
            by_cases c6 : c = 111
            · rw [if_pos c6] at h ⊢; exact h
            · rw [if_neg c6] at h ⊢
              by_cases hw : w = noW
              · rw [if_pos hw] at h ⊢; exact h
              · rw [if_neg hw] at h ⊢
                (try rw [if_pos rfl] at h ⊢)
                cases hv : valL w with
                | none => rw [hv] at h; cases h
                | some n =>
                  rw [hv] at h
                  rw [valW_P hv]
                  exact h
theorem setP_W {a b : Ac} {c : Nat} {w : List Nat} (h : setP a c w = some b) (hb : fldV c b ≤ 65535) : setW a c w = some b := by
  unfold setP at h
  unfold setW
  by_cases c1 : c = 119
  · subst c1
    rw [if_pos rfl] at h ⊢
    cases hv : valP w with
    | none => rw [hv] at h; cases h
    | some n =>
      rw [hv] at h
      have h2 := Option.some.inj h
      rw [← h2] at hb
      have h3 : (n : Int) ≤ 65535 := by simpa [fldV] using hb
      rw [valP_W hv (by omega)]
      exact h
  · rw [if_neg c1] at h ⊢
    by_cases c2 : c = 107
    · subst c2
      rw [if_pos rfl] at h ⊢
      cases hv : valP w with
      | none => rw [hv] at h; cases h
      | some n =>
        rw [hv] at h
        have h2 := Option.some.inj h
        rw [← h2] at hb
        have h3 : (n : Int) ≤ 65535 := by simpa [fldV] using hb
        rw [valP_W hv (by omega)]
        exact h
    · rw [if_neg c2] at h ⊢
      by_cases c3 : c = 110
      · subst c3
        rw [if_pos rfl] at h ⊢
        cases hv : valP w with
        | none => rw [hv] at h; cases h
        | some n =>
          rw [hv] at h
          have h2 := Option.some.inj h
          rw [← h2] at hb
          have h3 : (n : Int) ≤ 65535 := by simpa [fldV] using hb
          rw [valP_W hv (by omega)]
          exact h
      · rw [if_neg c3] at h ⊢
        by_cases c4 : c = 97
        · subst c4
          rw [if_pos rfl] at h ⊢
          cases hv : valP w with
          | none => rw [hv] at h; cases h
          | some n =>
            rw [hv] at h
            have h2 := Option.some.inj h
            rw [← h2] at hb
            have h3 : (n : Int) ≤ 65535 := by simpa [fldV] using hb
            rw [valP_W hv (by omega)]
            exact h
        · rw [if_neg c4] at h ⊢
          by_cases c5 : c = 98
          · rw [if_pos c5] at h ⊢; exact h
          · rw [if_neg c5] at h ⊢
            by_cases c6 : c = 111
            · rw [if_pos c6] at h ⊢; exact h
            · rw [if_neg c6] at h ⊢
              by_cases hw : w = noW
              · rw [if_pos hw] at h ⊢; exact h
              · rw [if_neg hw] at h ⊢
                unfold fldV at hb
                rw [if_neg c2, if_neg c3, if_neg c4, if_neg (by omega)] at hb
                cases hv : valP w with
                | none => rw [hv] at h; cases h
                | some n =>
                  rw [hv] at h
                  have h2 := Option.some.inj h
                  rw [← h2] at hb
                  have h3 : (n : Int) ≤ 65535 := by simpa using hb
                  rw [valP_W hv (by omega)]
                  exact h
/-- a letter changes its own field alone -/
theorem setP_fld {a b : Ac} {c d : Nat} {w : List Nat} (h : setP a c w = some b) (hd : fldI d ≠ fldI c) : fldV d b = fldV d a := by
  unfold setP at h
  unfold fldI at hd
  unfold fldV
  by_cases c1 : c = 119
  · subst c1
    rw [if_pos rfl] at h
    cases hv : valP w with
    | none => rw [hv] at h; cases h
    | some n =>
      rw [hv] at h
      have h2 := Option.some.inj h
      rw [← h2]
      repeat' split
      all_goals first | rfl | (simp_all)
  · rw [if_neg c1] at h
    by_cases c2 : c = 107
    · subst c2
      rw [if_pos rfl] at h
      cases hv : valP w with
      | none => rw [hv] at h; cases h
      | some n =>
        rw [hv] at h
        have h2 := Option.some.inj h
        rw [← h2]
        repeat' split
        all_goals first | rfl | (simp_all)
    · rw [if_neg c2] at h
      by_cases c3 : c = 110
      · subst c3
        rw [if_pos rfl] at h
        cases hv : valP w with
        | none => rw [hv] at h; cases h
        | some n =>
          rw [hv] at h
          have h2 := Option.some.inj h
          rw [← h2]
          repeat' split
          all_goals first | rfl | (simp_all)
      · rw [if_neg c3] at h
        by_cases c4 : c = 97
        · subst c4
          rw [if_pos rfl] at h
          cases hv : valP w with
          | none => rw [hv] at h; cases h
          | some n =>
            rw [hv] at h
            have h2 := Option.some.inj h
            rw [← h2]
            repeat' split
            all_goals first | rfl | (simp_all)
        · rw [if_neg c4] at h
          by_cases c5 : c = 98
          · rw [if_pos c5] at h
            cases hv : bytL w with
            | none => rw [hv] at h; cases h
            | some n =>
              rw [hv] at h
              have h2 := Option.some.inj h
              rw [← h2]
          · rw [if_neg c5] at h
            by_cases c6 : c = 111
            · rw [if_pos c6] at h
              split at h
              · injection h with h; subst h; rfl
              · split at h
                · injection h with h; subst h; rfl
                · cases h
            · rw [if_neg c6] at h
              have h0 : ∀ x : Int, (if d = 107 then a.k else if d = 110 then a.n else if d = 97 then a.pos else if d = 98 ∨ d = 111 then 0 else x) = (if d = 107 then a.k else if d = 110 then a.n else if d = 97 then a.pos else if d = 98 ∨ d = 111 then 0 else a.which) := by
                intro x
                rw [if_neg c2, if_neg c3, if_neg c4, if_neg c5, if_neg c6] at hd
                by_cases d1 : d = 107
                · rw [if_pos d1, if_pos d1]
                · by_cases d2 : d = 110
                  · rw [if_neg d1, if_pos d2, if_neg d1, if_pos d2]
                  · by_cases d3 : d = 97
                    · rw [if_neg d1, if_neg d2, if_pos d3, if_neg d1, if_neg d2, if_pos d3]
                    · by_cases d4 : d = 98
                      · rw [if_neg d1, if_neg d2, if_neg d3, if_pos (.inl d4), if_neg d1, if_neg d2, if_neg d3, if_pos (.inl d4)]
                      · by_cases d5 : d = 111
                        · rw [if_neg d1, if_neg d2, if_neg d3, if_pos (.inr d5), if_neg d1, if_neg d2, if_neg d3, if_pos (.inr d5)]
                        · rw [if_neg d1, if_neg d2, if_neg d3, if_neg d4, if_neg d5] at hd
                          exact absurd rfl hd
              split at h
              · injection h with h; subst h; exact h0 0
              · cases hv : valP w with
                | none => rw [hv] at h; cases h
                | some n =>
                  rw [hv] at h
                  have h2 := Option.some.inj h
                  rw [← h2]
                  exact h0 _
theorem setsP_W : ∀ (l : List (Nat × List Nat)) (a z : Ac), setsP a l = some z → (l.map fun x => fldI x.1).Nodup → (∀ x ∈ l, fldV x.1 z ≤ 65535) → setsW a l = some z
  | [], a, z, h, _, _ => h
  | (c, w) :: r, a, z, h, hn, hb => by
    rw [setsP] at h
    rw [setsW]
    cases hc : setP a c w with
    | none => rw [hc] at h; cases h
    | some b =>
      rw [hc] at h
      rw [List.map_cons, List.nodup_cons] at hn
      have hv : ∀ (r : List (Nat × List Nat)) (b : Ac), setsP b r = some z → fldI c ∉ r.map (fun x => fldI x.1) → fldV c z = fldV c b := by
        intro r
        induction r with
        | nil => intro b h _; rw [setsP] at h; injection h with h; subst h; rfl
        | cons x r ih =>
          intro b h hx
          obtain ⟨d, w2⟩ := x
          rw [setsP] at h
          rw [List.map_cons, List.mem_cons, not_or] at hx
          cases hd : setP b d w2 with
          | none => rw [hd] at h; cases h
          | some b2 =>
            rw [hd] at h
            rw [ih b2 h hx.2, setP_fld hd hx.1]
      have hw := setP_W hc (by rw [← hv r b h hn.1]; exact hb (c, w) (by simp))
      rw [hw]
      exact setsP_W r b z h hn.2 (fun x hx => hb x (List.mem_cons_of_mem _ hx))
theorem setsW_P : ∀ (l : List (Nat × List Nat)) (a z : Ac), setsW a l = some z → setsP a l = some z
  | [], a, z, h => h
  | (c, w) :: r, a, z, h => by
    rw [setsW] at h
    rw [setsP]
    cases hc : setW a c w with
    | none => rw [hc] at h; cases h
    | some b =>
      rw [hc] at h
      rw [setW_P hc]
      exact setsW_P r b z h
theorem ord_nodup : ∀ kd, kd < 20 → ((ordL kd).map fldI).Nodup := by decide
/-- an act as the program reads it is the document's -/
theorem actW_P {w0 : List Nat} {r : List (List Nat)} {k : Nat} (hk : kindW w0 = some k) : actW (w0 :: r) = if r.length = (ordL k).length then (match setsP (kA k) ((ordL k).zip r) with | some a => if mayA a then some a else none | none => none) else none := by
  rw [actW, hk]
  simp only []
  by_cases hl : r.length = (ordL k).length
  · rw [if_pos hl, if_pos hl]
    cases hP : setsP (kA k) ((ordL k).zip r) with
    | none =>
      cases hW : setsW (kA k) ((ordL k).zip r) with
      | none => rfl
      | some z => rw [setsW_P _ _ _ hW] at hP; cases hP
    | some z =>
      simp only []
      cases hm : mayA z with
      | true =>
        have hfst : ((ordL k).zip r).map (fun x => fldI x.1) = (ordL k).map fldI := by
          rw [show (fun x : Nat × List Nat => fldI x.1) = fldI ∘ Prod.fst from rfl, ← List.map_map, List.map_fst_zip (by omega)]
        have := setsP_W _ _ _ hP (by rw [hfst]; exact ord_nodup k (kindW_lt hk)) (fun x _ => by
          obtain ⟨kd, w, kk, n, p, _, h1, h2, h3, h4, _, _, e1, e2, e3, e4⟩ := mayA_nat hm
          unfold fldV
          repeat' split
          all_goals omega)
        rw [this]
        simp [hm]
      | false =>
        cases hW : setsW (kA k) ((ordL k).zip r) with
        | none => rfl
        | some y =>
          have := setsW_P _ _ _ hW
          rw [hP] at this
          injection this with this
          subst this
          simp [hm]
  · rw [if_neg hl, if_neg hl]
end Go.Proofs.YtcaogiaoabdkdaaDoor
