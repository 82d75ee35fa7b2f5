/-
  A heap as a list: entries in order of their number, then of their turn. No program is named here.
-/
namespace Go.Proofs.Ytoioflbgmofgfab
set_option linter.unusedVariables false
set_option linter.unnecessarySimpa false
structure En where
  n : Int
  m : Int
  t : Nat
abbrev e0 : En := ⟨0, 0, 0⟩
/-- entry i of a list -/
def ea (es : List En) (i : Nat) : En := es.getD i e0
def enLt (a b : En) : Bool := decide (a.n < b.n) || (decide (a.t < b.t) && !decide (b.n < a.n))
theorem enLt_iff (a b : En) : enLt a b = true ↔ a.n < b.n ∨ (a.t < b.t ∧ ¬ b.n < a.n) := by simp [enLt]
def enLe (a b : En) : Prop := a.n < b.n ∨ (a.n = b.n ∧ a.t ≤ b.t)
theorem enLe_of (a b : En) (h : enLt b a = false) : enLe a b := by
  have : ¬ (b.n < a.n ∨ (b.t < a.t ∧ ¬ a.n < b.n)) := fun q => by rw [(enLt_iff b a).2 q] at h; cases h
  unfold enLe; omega
theorem enLt_le (a b : En) (h : enLt a b = true) : enLe a b := by have := (enLt_iff a b).1 h; unfold enLe; omega
theorem enLe_trans {a b c : En} (h : enLe a b) (k : enLe b c) : enLe a c := by unfold enLe at *; omega
theorem enLe_refl (a : En) : enLe a a := by unfold enLe; omega
/-- two entries in each other's place -/
def sw (es : List En) (i j : Nat) : List En := (es.set i (ea es j)).set j (ea es i)
@[simp] theorem sw_len (es : List En) (i j : Nat) : (sw es i j).length = es.length := by simp [sw]
theorem ea_set (es : List En) (i k : Nat) (e : En) (hi : i < es.length) : ea (es.set i e) k = if k = i then e else ea es k := by
  unfold ea
  rw [List.getD_eq_getElem?_getD, List.getD_eq_getElem?_getD, List.getElem?_set]
  by_cases h : i = k
  · subst h; simp [hi]
  · rw [if_neg h, if_neg (fun q => h q.symm)]
theorem ea_sw (es : List En) (i j k : Nat) (hi : i < es.length) (hj : j < es.length) : ea (sw es i j) k = if k = j then ea es i else if k = i then ea es j else ea es k := by
  unfold sw
  rw [ea_set _ _ _ _ (by simpa using hj)]
  by_cases h : k = j
  · rw [if_pos h, if_pos h]
  · rw [if_neg h, if_neg h, ea_set _ _ _ _ hi]
theorem sw_perm (es : List En) (i j : Nat) (hi : i < es.length) (hj : j < es.length) : (sw es i j).Perm es := by
  have h := (Array.swap_perm (xs := es.toArray) (i := i) (j := j) (by simpa using hi) (by simpa using hj))
  have h2 := Array.perm_iff_toList_perm.1 h
  rw [Array.toList_swap] at h2
  simpa [sw, ea, List.getD_eq_getElem?_getD, List.getElem?_eq_getElem hi, List.getElem?_eq_getElem hj] using h2
theorem ea_mem (es : List En) (i : Nat) (hi : i < es.length) : ea es i ∈ es := by
  unfold ea; rw [List.getD_eq_getElem?_getD, List.getElem?_eq_getElem hi]; exact List.getElem_mem hi
theorem mem_ea (es : List En) (e : En) (h : e ∈ es) : ∃ i, i < es.length ∧ ea es i = e := by
  obtain ⟨i, hi, rfl⟩ := List.mem_iff_getElem.1 h
  exact ⟨i, hi, by unfold ea; rw [List.getD_eq_getElem?_getD, List.getElem?_eq_getElem hi]; rfl⟩
/-- entry j goes up -/
def upF (es : List En) (j : Nat) : List En :=
  if h : 0 < j then if enLt (ea es j) (ea es ((j - 1) / 2)) = true then upF (sw es ((j - 1) / 2) j) ((j - 1) / 2) else es else es
termination_by j
decreasing_by omega
/-- the lesser one below i -/
def dnC (es : List En) (i n : Nat) : Nat := if 2 * i + 2 < n ∧ enLt (ea es (2 * i + 2)) (ea es (2 * i + 1)) = true then 2 * i + 2 else 2 * i + 1
theorem dnC_bd (es : List En) (i n : Nat) (h : 2 * i + 1 < n) : 2 * i + 1 ≤ dnC es i n ∧ dnC es i n < n ∧ dnC es i n ≤ 2 * i + 2 := by unfold dnC; split <;> omega
/-- entry i goes down, of the first n -/
def dnF (es : List En) (i n : Nat) : List En :=
  if h : 2 * i + 1 < n then if enLt (ea es (dnC es i n)) (ea es i) = true then dnF (sw es i (dnC es i n)) (dnC es i n) n else es else es
termination_by n - i
decreasing_by have := dnC_bd es i n h; omega
theorem upF_len (j : Nat) : ∀ es : List En, (upF es j).length = es.length := by
  induction j using Nat.strongRecOn with
  | _ j ih =>
    intro es
    rw [upF]
    split
    · split
      · rw [ih _ (by omega), sw_len]
      · rfl
    · rfl
theorem upF_perm (j : Nat) : ∀ es : List En, j < es.length → (upF es j).Perm es := by
  induction j using Nat.strongRecOn with
  | _ j ih =>
    intro es hj
    rw [upF]
    split
    · split
      · exact (ih _ (by omega) _ (by rw [sw_len]; omega)).trans (sw_perm es _ _ (by omega) hj)
      · exact .refl _
    · exact .refl _
def Heap (es : List En) (n : Nat) : Prop := ∀ k, 0 < k → k < n → enLe (ea es ((k - 1) / 2)) (ea es k)
theorem upF_heap (j : Nat) : ∀ (es : List En), j < es.length → (∀ k, 0 < k → k < es.length → k ≠ j → enLe (ea es ((k - 1) / 2)) (ea es k)) →
    (∀ k, k < es.length → 0 < k → (k - 1) / 2 = j → 0 < j → enLe (ea es ((j - 1) / 2)) (ea es k)) → Heap (upF es j) es.length := by
  induction j using Nat.strongRecOn with
  | _ j ih =>
    intro es hj h1 h2
    rw [upF]
    split
    · rename_i h0
      split
      · rename_i hl
        have hp : (j - 1) / 2 < j := by omega
        have := ih ((j - 1) / 2) hp (sw es ((j - 1) / 2) j) (by rw [sw_len]; omega) ?_ ?_
        · rwa [sw_len] at this
        · intro k hk0 hk hkj
          rw [sw_len] at hk
          rw [ea_sw _ _ _ _ (by omega) hj, ea_sw _ _ _ _ (by omega) hj]
          by_cases e1 : k = j
          · subst e1
            rw [if_pos rfl, if_neg (by omega), if_pos rfl]
            exact enLt_le _ _ hl
          · rw [if_neg e1, if_neg hkj]
            by_cases e2 : (k - 1) / 2 = j
            · rw [if_pos e2]; exact h2 k hk hk0 e2 h0
            · rw [if_neg e2]
              by_cases e3 : (k - 1) / 2 = (j - 1) / 2
              · rw [if_pos e3]
                exact enLe_trans (enLt_le _ _ hl) (by have := h1 k hk0 hk e1; rwa [e3] at this)
              · rw [if_neg e3]; exact h1 k hk0 hk e1
        · intro k hk hk0 hkp hp0
          rw [sw_len] at hk
          have hpp := h1 ((j - 1) / 2) hp0 (by omega) (by omega)
          rw [ea_sw _ _ _ _ (by omega) hj, ea_sw _ _ _ _ (by omega) hj]
          rw [if_neg (by omega), if_neg (by omega)]
          by_cases e1 : k = j
          · rw [if_pos e1]; exact hpp
          · rw [if_neg e1, if_neg (by omega)]
            exact enLe_trans hpp (by have := h1 k hk0 hk e1; rwa [hkp] at this)
      · rename_i hl
        intro k hk0 hk
        by_cases e1 : k = j
        · subst e1; exact enLe_of _ _ (by simpa using hl)
        · exact h1 k hk0 hk e1
    · intro k hk0 hk
      exact h1 k hk0 hk (by omega)
theorem dnF_props (d : Nat) : ∀ (es : List En) (i n : Nat), n - i ≤ d → n ≤ es.length → i < es.length → (dnF es i n).length = es.length ∧ (dnF es i n).Perm es ∧ (∀ k, n ≤ k → i < n → ea (dnF es i n) k = ea es k) ∧
    ((∀ k, 0 < k → k < n → (k - 1) / 2 ≠ i → enLe (ea es ((k - 1) / 2)) (ea es k)) → (∀ k, k < n → 0 < k → (k - 1) / 2 = i → 0 < i → enLe (ea es ((i - 1) / 2)) (ea es k)) → Heap (dnF es i n) n) := by
  induction d with
  | zero =>
    intro es i n hd hn hi
    rw [dnF, dif_neg (by omega)]
    exact ⟨rfl, .refl _, fun k _ _ => rfl, fun h1 h2 k hk0 hk => h1 k hk0 hk (by omega)⟩
  | succ d ih =>
    intro es i n hd hn hi
    rw [dnF]
    split
    · rename_i h0
      have hb := dnC_bd es i n h0
      split
      · rename_i hl
        obtain ⟨a1, a2, a3, a4⟩ := ih (sw es i (dnC es i n)) (dnC es i n) n (by omega) (by rw [sw_len]; exact hn) (by rw [sw_len]; omega)
        refine ⟨by rw [a1, sw_len], a2.trans (sw_perm es _ _ hi (by omega)), fun k hk hin => ?_, fun h1 h2 => a4 ?_ ?_⟩
        · rw [a3 k hk (by omega), ea_sw _ _ _ _ hi (by omega), if_neg (by omega), if_neg (by omega)]
        · intro k hk0 hk hkc
          rw [ea_sw _ _ _ _ hi (by omega), ea_sw _ _ _ _ hi (by omega), if_neg hkc]
          by_cases e1 : k = dnC es i n
          · subst e1
            rw [if_pos (by omega), if_pos rfl]
            exact enLt_le _ _ hl
          · rw [if_neg e1]
            by_cases e2 : (k - 1) / 2 = i
            · rw [if_pos e2, if_neg (by omega)]
              unfold dnC
              have hc : dnC es i n = 2 * i + 1 ∨ dnC es i n = 2 * i + 2 := by omega
              by_cases hq : 2 * i + 2 < n ∧ enLt (ea es (2 * i + 2)) (ea es (2 * i + 1)) = true
              · have hcc : dnC es i n = 2 * i + 2 := by unfold dnC; rw [if_pos hq]
                rw [if_pos hq]
                have : k = 2 * i + 1 := by omega
                subst this
                exact enLt_le _ _ hq.2
              · have hcc : dnC es i n = 2 * i + 1 := by unfold dnC; rw [if_neg hq]
                rw [if_neg hq]
                have : k = 2 * i + 2 := by omega
                subst this
                refine enLe_of _ _ ?_
                cases hx : enLt (ea es (2 * i + 2)) (ea es (2 * i + 1))
                · rfl
                · exact absurd ⟨hk, hx⟩ hq
            · rw [if_neg e2]
              by_cases e3 : k = i
              · subst e3
                rw [if_pos rfl]
                exact h2 (dnC es k n) hb.2.1 (by omega) (by omega) hk0
              · rw [if_neg e3]; exact h1 k hk0 hk e2
        · intro k hk hk0 hkp hc0
          rw [ea_sw _ _ _ _ hi (by omega), ea_sw _ _ _ _ hi (by omega), if_neg (by omega), if_pos (by omega), if_neg (by omega), if_neg (by omega)]
          have := h1 k hk0 hk (by omega)
          rwa [hkp] at this
      · rename_i hl
        refine ⟨rfl, .refl _, fun k _ _ => rfl, fun h1 h2 k hk0 hk => ?_⟩
        by_cases e1 : (k - 1) / 2 = i
        · rw [e1]
          have hle : enLe (ea es i) (ea es (dnC es i n)) := enLe_of _ _ (by simpa using hl)
          refine enLe_trans hle ?_
          by_cases hq : 2 * i + 2 < n ∧ enLt (ea es (2 * i + 2)) (ea es (2 * i + 1)) = true
          · have hcc : dnC es i n = 2 * i + 2 := by unfold dnC; rw [if_pos hq]
            rw [hcc]
            rcases (by omega : k = 2 * i + 1 ∨ k = 2 * i + 2) with rfl | rfl
            · exact enLt_le _ _ hq.2
            · exact enLe_refl _
          · have hcc : dnC es i n = 2 * i + 1 := by unfold dnC; rw [if_neg hq]
            rw [hcc]
            rcases (by omega : k = 2 * i + 1 ∨ k = 2 * i + 2) with rfl | rfl
            · exact enLe_refl _
            · refine enLe_of _ _ ?_
              cases hx : enLt (ea es (2 * i + 2)) (ea es (2 * i + 1))
              · rfl
              · exact absurd ⟨hk, hx⟩ hq
        · exact h1 k hk0 hk e1
    · exact ⟨rfl, .refl _, fun k _ _ => rfl, fun h1 h2 k hk0 hk => h1 k hk0 hk (by omega)⟩
/-- the first one of a heap is the least one -/
theorem heap_least (es : List En) (n : Nat) (h : Heap es n) (k : Nat) : k < n → enLe (ea es 0) (ea es k) := by
  induction k using Nat.strongRecOn with
  | _ k ih =>
    intro hk
    by_cases h0 : k = 0
    · subst h0; exact enLe_refl _
    · exact enLe_trans (ih ((k - 1) / 2) (by omega) (by omega)) (h k (by omega) hk)
/-- a heap with one more -/
def pushF (es : List En) (e : En) : List En := upF (es ++ [e]) es.length
theorem ea_app (es : List En) (e : En) (k : Nat) (h : k < es.length) : ea (es ++ [e]) k = ea es k := by
  unfold ea; rw [List.getD_eq_getElem?_getD, List.getD_eq_getElem?_getD, List.getElem?_append_left h]
theorem push_heap (es : List En) (e : En) (h : Heap es es.length) : Heap (pushF es e) (pushF es e).length ∧ (pushF es e).Perm (e :: es) := by
  unfold pushF
  refine ⟨?_, (upF_perm _ _ (by simp)).trans (by simpa using List.perm_append_comm (l₁ := es) (l₂ := [e]))⟩
  rw [upF_len]
  refine upF_heap _ _ (by simp) ?_ ?_
  · intro k hk0 hk hkl
    simp at hk
    rw [ea_app _ _ _ (by omega), ea_app _ _ _ (by omega)]
    exact h k hk0 (by omega)
  · intro k hk hk0 hp
    simp at hk
    omega
/-- a heap without its first one -/
def popF (es : List En) : List En := (dnF (sw es 0 (es.length - 1)) 0 (es.length - 1)).take (es.length - 1)
/-- what stands last then -/
def popE (es : List En) : En := ea (dnF (sw es 0 (es.length - 1)) 0 (es.length - 1)) (es.length - 1)
theorem pop_heap (es : List En) (h : Heap es es.length) (hl : 0 < es.length) : Heap (popF es) (popF es).length ∧ popE es = ea es 0 ∧ es.Perm (ea es 0 :: popF es) ∧ (popF es).length = es.length - 1 := by
  obtain ⟨a1, a2, a3, a4⟩ := dnF_props _ (sw es 0 (es.length - 1)) 0 (es.length - 1) (Nat.le_refl _) (by rw [sw_len]; omega) (by rw [sw_len]; omega)
  have hlen : (popF es).length = es.length - 1 := by unfold popF; rw [List.length_take, a1, sw_len]; omega
  have hE : popE es = ea es 0 := by
    unfold popE
    by_cases h1 : 0 < es.length - 1
    · rw [a3 _ (Nat.le_refl _) h1, ea_sw _ _ _ _ hl (by omega), if_pos rfl]
    · rw [dnF, dif_neg (by omega), ea_sw _ _ _ _ hl (by omega), if_pos rfl]
  have hsw := sw_perm es 0 (es.length - 1) hl (by omega)
  have hD := a4 (fun k hk0 hk hp => by
    rw [ea_sw _ _ _ _ hl (by omega), ea_sw _ _ _ _ hl (by omega), if_neg (by omega), if_neg (by omega), if_neg (by omega), if_neg (by omega)]
    exact h k hk0 (by omega)) (fun k hk hk0 hp h0 => absurd h0 (by omega))
  refine ⟨?_, hE, ?_, hlen⟩
  · rw [hlen]
    intro k hk0 hk
    have e : ∀ q, q < es.length - 1 → ea (popF es) q = ea (dnF (sw es 0 (es.length - 1)) 0 (es.length - 1)) q := fun q hq => by
      unfold popF ea; rw [List.getD_eq_getElem?_getD, List.getD_eq_getElem?_getD, List.getElem?_take_of_lt hq]
    rw [e _ (by omega), e _ hk]
    exact hD k hk0 hk
  · have hlast : dnF (sw es 0 (es.length - 1)) 0 (es.length - 1) = popF es ++ [popE es] := by
      unfold popF popE ea
      have hL : (dnF (sw es 0 (es.length - 1)) 0 (es.length - 1)).length = (es.length - 1) + 1 := by rw [a1, sw_len]; omega
      generalize dnF (sw es 0 (es.length - 1)) 0 (es.length - 1) = D at hL
      conv => lhs; rw [← List.take_append_drop (es.length - 1) D]
      congr 1
      rw [List.drop_eq_getElem_cons (by omega), List.drop_eq_nil_of_le (by omega), List.getD_eq_getElem?_getD, List.getElem?_eq_getElem (by omega)]
      rfl
    have hp := a2.trans hsw
    rw [hlast, hE] at hp
    exact hp.symm.trans (by simpa using List.perm_append_comm (l₁ := popF es) (l₂ := [ea es 0]))
end Go.Proofs.Ytoioflbgmofgfab
