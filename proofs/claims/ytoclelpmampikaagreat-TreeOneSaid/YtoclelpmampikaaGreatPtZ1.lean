/-
  Joined: PtM, PtG, PtA, PtB.
-/
import Derived.Test.YtoclelpmampikaaGreatRows
import Derived.Test.YtoclelpmampikaaGreatTurn
import Derived.WalkKit
import Derived.WalkSpells
import Derived.WalkLawsBesides
import Derived.Lib.Hide
import Derived.Test.YtoclelpmampikaaGreatClsC
namespace Go.Proofs.YtoclelpmampikaaGreat
set_option maxRecDepth 100000
section
set_option linter.unusedVariables false
set_option linter.unnecessarySimpa false
structure En where
  n : Int
  m : Int
  t : Nat
abbrev e0 : En := ⟨0, 0, 0⟩
/-- entry i of a list -/
def ea (es : List En) (i : Nat) : En := es.getD i e0
/-- is a ahead of b? -/
def kLt (a b : En) : Bool := decide (a.n < b.n) || (decide (a.n = b.n) && decide (a.m < b.m))
theorem kLt_iff (a b : En) : kLt a b = true ↔ a.n < b.n ∨ (a.n = b.n ∧ a.m < b.m) := by simp [kLt]
def enLt (a b : En) : Bool := kLt a b || (decide (a.t < b.t) && !kLt b a)
theorem enLt_iff (a b : En) : enLt a b = true ↔ (a.n < b.n ∨ (a.n = b.n ∧ a.m < b.m)) ∨ (a.t < b.t ∧ ¬ (b.n < a.n ∨ (b.n = a.n ∧ b.m < a.m))) := by
  unfold enLt
  rw [Bool.or_eq_true, Bool.and_eq_true, kLt_iff, decide_eq_true_eq, Bool.not_eq_true', ← Bool.not_eq_true, kLt_iff]
def enLe (a b : En) : Prop := a.n < b.n ∨ (a.n = b.n ∧ (a.m < b.m ∨ (a.m = b.m ∧ a.t ≤ b.t)))
theorem enLe_of (a b : En) (h : enLt b a = false) : enLe a b := by
  have : ¬ ((b.n < a.n ∨ (b.n = a.n ∧ b.m < a.m)) ∨ (b.t < a.t ∧ ¬ (a.n < b.n ∨ (a.n = b.n ∧ a.m < b.m)))) := fun q => by rw [(enLt_iff b a).2 q] at h; cases h
  unfold enLe; omega
theorem enLt_le (a b : En) (h : enLt a b = true) : enLe a b := by have := (enLt_iff a b).1 h; unfold enLe; omega
theorem enLe_trans {a b c : En} (h : enLe a b) (k : enLe b c) : enLe a c := by unfold enLe at *; omega
theorem enLe_refl (a : En) : enLe a a := by unfold enLe; omega
/-- two entries in each other's place -/
def sw (es : List En) (i j : Nat) : List En := (es.set i (ea es j)).set j (ea es i)
@[simp] theorem sw_len (es : List En) (i j : Nat) : (sw es i j).length = es.length := by simp [sw]
theorem ea_set (es : List En) (i k : Nat) (e : En) (hi : i < es.length) : ea (es.set i e) k = if k = i then e else ea es k := by
  unfold ea
  rw [List.getD_eq_getElem?_getD, List.getD_eq_getElem?_getD, List.getElem?_set]
  by_cases h : i = k
  · subst h; simp [hi]
  · rw [if_neg h, if_neg (fun q => h q.symm)]
theorem ea_sw (es : List En) (i j k : Nat) (hi : i < es.length) (hj : j < es.length) : ea (sw es i j) k = if k = j then ea es i else if k = i then ea es j else ea es k := by
  unfold sw
  rw [ea_set _ _ _ _ (by simpa using hj)]
  by_cases h : k = j
  · rw [if_pos h, if_pos h]
  · rw [if_neg h, if_neg h, ea_set _ _ _ _ hi]
theorem sw_perm (es : List En) (i j : Nat) (hi : i < es.length) (hj : j < es.length) : (sw es i j).Perm es := by
  have h := (Array.swap_perm (xs := es.toArray) (i := i) (j := j) (by simpa using hi) (by simpa using hj))
  have h2 := Array.perm_iff_toList_perm.1 h
  rw [Array.toList_swap] at h2
  simpa [sw, ea, List.getD_eq_getElem?_getD, List.getElem?_eq_getElem hi, List.getElem?_eq_getElem hj] using h2
theorem ea_mem (es : List En) (i : Nat) (hi : i < es.length) : ea es i ∈ es := by
  unfold ea; rw [List.getD_eq_getElem?_getD, List.getElem?_eq_getElem hi]; exact List.getElem_mem hi
theorem mem_ea (es : List En) (e : En) (h : e ∈ es) : ∃ i, i < es.length ∧ ea es i = e := by
  obtain ⟨i, hi, rfl⟩ := List.mem_iff_getElem.1 h
  exact ⟨i, hi, by unfold ea; rw [List.getD_eq_getElem?_getD, List.getElem?_eq_getElem hi]; rfl⟩
/-- entry j goes up -/
def upF (es : List En) (j : Nat) : List En :=
  if h : 0 < j then if enLt (ea es j) (ea es ((j - 1) / 2)) = true then upF (sw es ((j - 1) / 2) j) ((j - 1) / 2) else es else es
termination_by j
decreasing_by omega
/-- the lesser one below i -/
def dnC (es : List En) (i n : Nat) : Nat := if 2 * i + 2 < n ∧ enLt (ea es (2 * i + 2)) (ea es (2 * i + 1)) = true then 2 * i + 2 else 2 * i + 1
theorem dnC_bd (es : List En) (i n : Nat) (h : 2 * i + 1 < n) : 2 * i + 1 ≤ dnC es i n ∧ dnC es i n < n ∧ dnC es i n ≤ 2 * i + 2 := by unfold dnC; split <;> omega
/-- entry i goes down, of the first n -/
def dnF (es : List En) (i n : Nat) : List En :=
  if h : 2 * i + 1 < n then if enLt (ea es (dnC es i n)) (ea es i) = true then dnF (sw es i (dnC es i n)) (dnC es i n) n else es else es
termination_by n - i
decreasing_by have := dnC_bd es i n h; omega
theorem upF_len (j : Nat) : ∀ es : List En, (upF es j).length = es.length := by
  induction j using Nat.strongRecOn with
  | _ j ih =>
    intro es
    rw [upF]
    split
    · split
      · rw [ih _ (by omega), sw_len]
      · rfl
    · rfl
theorem upF_perm (j : Nat) : ∀ es : List En, j < es.length → (upF es j).Perm es := by
  induction j using Nat.strongRecOn with
  | _ j ih =>
    intro es hj
    rw [upF]
    split
    · split
      · exact (ih _ (by omega) _ (by rw [sw_len]; omega)).trans (sw_perm es _ _ (by omega) hj)
      · exact .refl _
    · exact .refl _
def Heap (es : List En) (n : Nat) : Prop := ∀ k, 0 < k → k < n → enLe (ea es ((k - 1) / 2)) (ea es k)
theorem upF_heap (j : Nat) : ∀ (es : List En), j < es.length → (∀ k, 0 < k → k < es.length → k ≠ j → enLe (ea es ((k - 1) / 2)) (ea es k)) →
    (∀ k, k < es.length → 0 < k → (k - 1) / 2 = j → 0 < j → enLe (ea es ((j - 1) / 2)) (ea es k)) → Heap (upF es j) es.length := by
  induction j using Nat.strongRecOn with
  | _ j ih =>
    intro es hj h1 h2
    rw [upF]
    split
    · rename_i h0
      split
      · rename_i hl
        have hp : (j - 1) / 2 < j := by omega
        have := ih ((j - 1) / 2) hp (sw es ((j - 1) / 2) j) (by rw [sw_len]; omega) ?_ ?_
        · rwa [sw_len] at this
        · intro k hk0 hk hkj
          rw [sw_len] at hk
          rw [ea_sw _ _ _ _ (by omega) hj, ea_sw _ _ _ _ (by omega) hj]
          by_cases e1 : k = j
          · subst e1
            rw [if_pos rfl, if_neg (by omega), if_pos rfl]
            exact enLt_le _ _ hl
          · rw [if_neg e1, if_neg hkj]
            by_cases e2 : (k - 1) / 2 = j
            · rw [if_pos e2]; exact h2 k hk hk0 e2 h0
            · rw [if_neg e2]
              by_cases e3 : (k - 1) / 2 = (j - 1) / 2
              · rw [if_pos e3]
                exact enLe_trans (enLt_le _ _ hl) (by have := h1 k hk0 hk e1; rwa [e3] at this)
              · rw [if_neg e3]; exact h1 k hk0 hk e1
        · intro k hk hk0 hkp hp0
          rw [sw_len] at hk
          have hpp := h1 ((j - 1) / 2) hp0 (by omega) (by omega)
          rw [ea_sw _ _ _ _ (by omega) hj, ea_sw _ _ _ _ (by omega) hj]
          rw [if_neg (by omega), if_neg (by omega)]
          by_cases e1 : k = j
          · rw [if_pos e1]; exact hpp
          · rw [if_neg e1, if_neg (by omega)]
            exact enLe_trans hpp (by have := h1 k hk0 hk e1; rwa [hkp] at this)
      · rename_i hl
        intro k hk0 hk
        by_cases e1 : k = j
        · subst e1; exact enLe_of _ _ (by simpa using hl)
        · exact h1 k hk0 hk e1
    · intro k hk0 hk
      exact h1 k hk0 hk (by omega)
theorem dnF_props (d : Nat) : ∀ (es : List En) (i n : Nat), n - i ≤ d → n ≤ es.length → i < es.length → (dnF es i n).length = es.length ∧ (dnF es i n).Perm es ∧ (∀ k, n ≤ k → i < n → ea (dnF es i n) k = ea es k) ∧
    ((∀ k, 0 < k → k < n → (k - 1) / 2 ≠ i → enLe (ea es ((k - 1) / 2)) (ea es k)) → (∀ k, k < n → 0 < k → (k - 1) / 2 = i → 0 < i → enLe (ea es ((i - 1) / 2)) (ea es k)) → Heap (dnF es i n) n) := by
  induction d with
  | zero =>
    intro es i n hd hn hi
    rw [dnF, dif_neg (by omega)]
    exact ⟨rfl, .refl _, fun k _ _ => rfl, fun h1 h2 k hk0 hk => h1 k hk0 hk (by omega)⟩
  | succ d ih =>
    intro es i n hd hn hi
    rw [dnF]
    split
    · rename_i h0
      have hb := dnC_bd es i n h0
      split
      · rename_i hl
        obtain ⟨a1, a2, a3, a4⟩ := ih (sw es i (dnC es i n)) (dnC es i n) n (by omega) (by rw [sw_len]; exact hn) (by rw [sw_len]; omega)
        refine ⟨by rw [a1, sw_len], a2.trans (sw_perm es _ _ hi (by omega)), fun k hk hin => ?_, fun h1 h2 => a4 ?_ ?_⟩
        · rw [a3 k hk (by omega), ea_sw _ _ _ _ hi (by omega), if_neg (by omega), if_neg (by omega)]
        · intro k hk0 hk hkc
          rw [ea_sw _ _ _ _ hi (by omega), ea_sw _ _ _ _ hi (by omega), if_neg hkc]
          by_cases e1 : k = dnC es i n
          · subst e1
            rw [if_pos (by omega), if_pos rfl]
            exact enLt_le _ _ hl
          · rw [if_neg e1]
            by_cases e2 : (k - 1) / 2 = i
            · rw [if_pos e2, if_neg (by omega)]
              unfold dnC
              have hc : dnC es i n = 2 * i + 1 ∨ dnC es i n = 2 * i + 2 := by omega
              by_cases hq : 2 * i + 2 < n ∧ enLt (ea es (2 * i + 2)) (ea es (2 * i + 1)) = true
              · have hcc : dnC es i n = 2 * i + 2 := by unfold dnC; rw [if_pos hq]
                rw [if_pos hq]
                have : k = 2 * i + 1 := by omega
                subst this
                exact enLt_le _ _ hq.2
              · have hcc : dnC es i n = 2 * i + 1 := by unfold dnC; rw [if_neg hq]
                rw [if_neg hq]
                have : k = 2 * i + 2 := by omega
                subst this
                refine enLe_of _ _ ?_
                cases hx : enLt (ea es (2 * i + 2)) (ea es (2 * i + 1))
                · rfl
                · exact absurd ⟨hk, hx⟩ hq
            · rw [if_neg e2]
              by_cases e3 : k = i
              · subst e3
                rw [if_pos rfl]
                exact h2 (dnC es k n) hb.2.1 (by omega) (by omega) hk0
              · rw [if_neg e3]; exact h1 k hk0 hk e2
        · intro k hk hk0 hkp hc0
          rw [ea_sw _ _ _ _ hi (by omega), ea_sw _ _ _ _ hi (by omega), if_neg (by omega), if_pos (by omega), if_neg (by omega), if_neg (by omega)]
          have := h1 k hk0 hk (by omega)
          rwa [hkp] at this
      · rename_i hl
        refine ⟨rfl, .refl _, fun k _ _ => rfl, fun h1 h2 k hk0 hk => ?_⟩
        by_cases e1 : (k - 1) / 2 = i
        · rw [e1]
          have hle : enLe (ea es i) (ea es (dnC es i n)) := enLe_of _ _ (by simpa using hl)
          refine enLe_trans hle ?_
          by_cases hq : 2 * i + 2 < n ∧ enLt (ea es (2 * i + 2)) (ea es (2 * i + 1)) = true
          · have hcc : dnC es i n = 2 * i + 2 := by unfold dnC; rw [if_pos hq]
            rw [hcc]
            rcases (by omega : k = 2 * i + 1 ∨ k = 2 * i + 2) with rfl | rfl
            · exact enLt_le _ _ hq.2
            · exact enLe_refl _
          · have hcc : dnC es i n = 2 * i + 1 := by unfold dnC; rw [if_neg hq]
            rw [hcc]
            rcases (by omega : k = 2 * i + 1 ∨ k = 2 * i + 2) with rfl | rfl
            · exact enLe_refl _
            · refine enLe_of _ _ ?_
              cases hx : enLt (ea es (2 * i + 2)) (ea es (2 * i + 1))
              · rfl
              · exact absurd ⟨hk, hx⟩ hq
        · exact h1 k hk0 hk e1
    · exact ⟨rfl, .refl _, fun k _ _ => rfl, fun h1 h2 k hk0 hk => h1 k hk0 hk (by omega)⟩
/-- the first one of a heap is the least one -/
theorem heap_least (es : List En) (n : Nat) (h : Heap es n) (k : Nat) : k < n → enLe (ea es 0) (ea es k) := by
  induction k using Nat.strongRecOn with
  | _ k ih =>
    intro hk
    by_cases h0 : k = 0
    · subst h0; exact enLe_refl _
    · exact enLe_trans (ih ((k - 1) / 2) (by omega) (by omega)) (h k (by omega) hk)
/-- a heap with one more -/
def pushF (es : List En) (e : En) : List En := upF (es ++ [e]) es.length
theorem ea_app (es : List En) (e : En) (k : Nat) (h : k < es.length) : ea (es ++ [e]) k = ea es k := by
  unfold ea; rw [List.getD_eq_getElem?_getD, List.getD_eq_getElem?_getD, List.getElem?_append_left h]
theorem push_heap (es : List En) (e : En) (h : Heap es es.length) : Heap (pushF es e) (pushF es e).length ∧ (pushF es e).Perm (e :: es) := by
  unfold pushF
  refine ⟨?_, (upF_perm _ _ (by simp)).trans (by simpa using List.perm_append_comm (l₁ := es) (l₂ := [e]))⟩
  rw [upF_len]
  refine upF_heap _ _ (by simp) ?_ ?_
  · intro k hk0 hk hkl
    simp at hk
    rw [ea_app _ _ _ (by omega), ea_app _ _ _ (by omega)]
    exact h k hk0 (by omega)
  · intro k hk hk0 hp
    simp at hk
    omega
/-- a heap without its first one -/
def popF (es : List En) : List En := (dnF (sw es 0 (es.length - 1)) 0 (es.length - 1)).take (es.length - 1)
/-- what stands last then -/
def popE (es : List En) : En := ea (dnF (sw es 0 (es.length - 1)) 0 (es.length - 1)) (es.length - 1)
theorem pop_heap (es : List En) (h : Heap es es.length) (hl : 0 < es.length) : Heap (popF es) (popF es).length ∧ popE es = ea es 0 ∧ es.Perm (ea es 0 :: popF es) ∧ (popF es).length = es.length - 1 := by
  obtain ⟨a1, a2, a3, a4⟩ := dnF_props _ (sw es 0 (es.length - 1)) 0 (es.length - 1) (Nat.le_refl _) (by rw [sw_len]; omega) (by rw [sw_len]; omega)
  have hlen : (popF es).length = es.length - 1 := by unfold popF; rw [List.length_take, a1, sw_len]; omega
  have hE : popE es = ea es 0 := by
    unfold popE
    by_cases h1 : 0 < es.length - 1
    · rw [a3 _ (Nat.le_refl _) h1, ea_sw _ _ _ _ hl (by omega), if_pos rfl]
    · rw [dnF, dif_neg (by omega), ea_sw _ _ _ _ hl (by omega), if_pos rfl]
  have hsw := sw_perm es 0 (es.length - 1) hl (by omega)
  have hD := a4 (fun k hk0 hk hp => by
    rw [ea_sw _ _ _ _ hl (by omega), ea_sw _ _ _ _ hl (by omega), if_neg (by omega), if_neg (by omega), if_neg (by omega), if_neg (by omega)]
    exact h k hk0 (by omega)) (fun k hk hk0 hp h0 => absurd h0 (by omega))
  refine ⟨?_, hE, ?_, hlen⟩
  · rw [hlen]
    intro k hk0 hk
    have e : ∀ q, q < es.length - 1 → ea (popF es) q = ea (dnF (sw es 0 (es.length - 1)) 0 (es.length - 1)) q := fun q hq => by
      unfold popF ea; rw [List.getD_eq_getElem?_getD, List.getD_eq_getElem?_getD, List.getElem?_take_of_lt hq]
    rw [e _ (by omega), e _ hk]
    exact hD k hk0 hk
  · have hlast : dnF (sw es 0 (es.length - 1)) 0 (es.length - 1) = popF es ++ [popE es] := by
      unfold popF popE ea
      have hL : (dnF (sw es 0 (es.length - 1)) 0 (es.length - 1)).length = (es.length - 1) + 1 := by rw [a1, sw_len]; omega
      generalize dnF (sw es 0 (es.length - 1)) 0 (es.length - 1) = D at hL
      conv => lhs; rw [← List.take_append_drop (es.length - 1) D]
      congr 1
      rw [List.drop_eq_getElem_cons (by omega), List.drop_eq_nil_of_le (by omega), List.getD_eq_getElem?_getD, List.getElem?_eq_getElem (by omega)]
      rfl
    have hp := a2.trans hsw
    rw [hlast, hE] at hp
    exact hp.symm.trans (by simpa using List.perm_append_comm (l₁ := popF es) (l₂ := [ea es 0]))
end
section
set_option linter.unusedVariables false
set_option linter.unnecessarySimpa false
set_option linter.unusedSimpArgs false
def pushN : List En → Nat → List (Int × Int) → List En
  | es, _, [] => es
  | es, t, p :: r => pushN (pushF es ⟨p.1, p.2, t⟩) (t + 1) r
def ents : Nat → List (Int × Int) → List En
  | _, [] => []
  | t, p :: r => ⟨p.1, p.2, t⟩ :: ents (t + 1) r
def En.pr (e : En) : Int × Int := (e.n, e.m)
theorem ents_pr (l : List (Int × Int)) : ∀ t, (ents t l).map En.pr = l := by
  induction l with
  | nil => intro t; rfl
  | cons p r ih => intro t; show _ :: (ents (t + 1) r).map En.pr = _; rw [ih]; rfl
theorem ents_t (l : List (Int × Int)) : ∀ t, ∀ e ∈ ents t l, t ≤ e.t ∧ e.t < t + l.length := by
  induction l with
  | nil => intro t e h; cases h
  | cons p r ih =>
    intro t e h
    rcases List.mem_cons.1 h with rfl | h
    · simp
    · have := ih _ e h; simp; omega
theorem ents_sorted (l : List (Int × Int)) : ∀ t, (ents t l).Pairwise (fun a b => a.t < b.t) := by
  induction l with
  | nil => intro t; exact .nil
  | cons p r ih => intro t; exact .cons (fun e h => by have := ents_t r _ e h; show t < e.t; omega) (ih _)
structure QI (es ws : List En) : Prop where
  heap : Heap es es.length
  perm : es.Perm ws
  sorted : ws.Pairwise (fun a b => a.t < b.t)
theorem QI.nil : QI [] [] := ⟨fun k _ h => by simp at h, .refl _, .nil⟩
theorem pushN_heap (l : List (Int × Int)) : ∀ (es : List En) (t : Nat), Heap es es.length → Heap (pushN es t l) (pushN es t l).length ∧ (pushN es t l).Perm (es ++ ents t l) := by
  induction l with
  | nil => intro es t h; exact ⟨h, by simp [pushN, ents]⟩
  | cons p r ih =>
    intro es t h
    obtain ⟨h1, h2⟩ := push_heap es ⟨p.1, p.2, t⟩ h
    obtain ⟨h3, h4⟩ := ih _ (t + 1) h1
    refine ⟨h3, h4.trans ?_⟩
    have : (pushF es ⟨p.1, p.2, t⟩ ++ ents (t + 1) r).Perm ((⟨p.1, p.2, t⟩ :: es) ++ ents (t + 1) r) := h2.append_right _
    exact this.trans (List.perm_middle.symm)
theorem QI.push {es ws : List En} (h : QI es ws) (t : Nat) (ht : ∀ e ∈ ws, e.t < t) (l : List (Int × Int)) : QI (pushN es t l) (ws ++ ents t l) ∧ ∀ e ∈ ws ++ ents t l, e.t < t + l.length := by
  obtain ⟨h1, h2⟩ := pushN_heap l es t h.heap
  refine ⟨⟨h1, h2.trans (h.perm.append_right _), List.pairwise_append.2 ⟨h.sorted, ents_sorted l t, fun a ha b hb => ?_⟩⟩, fun e he => ?_⟩
  · have := ht a ha; have := ents_t l t b hb; omega
  · rcases List.mem_append.1 he with he | he
    · have := ht e he; omega
    · exact (ents_t l t e he).2
theorem sorted_inj {ws : List En} (h : ws.Pairwise (fun a b => a.t < b.t)) {x y : En} (hx : x ∈ ws) (hy : y ∈ ws) (he : x.t = y.t) : x = y := by
  obtain ⟨i, hi, rfl⟩ := List.mem_iff_getElem.1 hx
  obtain ⟨j, hj, rfl⟩ := List.mem_iff_getElem.1 hy
  have hp := List.pairwise_iff_getElem.1 h
  rcases Nat.lt_trichotomy i j with q | q | q
  · have := hp i j hi hj q; omega
  · subst q; rfl
  · have := hp j i hj hi q; omega
theorem QI.len {es ws : List En} (h : QI es ws) : es.length = ws.length := h.perm.length_eq
/-- number a is the least one -/
def LeastAt (ws : List En) (a : Nat) : Prop := a < ws.length ∧ ∀ j, j < ws.length → enLe (ea ws a) (ea ws j)
theorem QI.first {es ws : List En} (h : QI es ws) {a : Nat} (ha : LeastAt ws a) : ea es 0 = ea ws a := by
  have hl : 0 < es.length := by have := h.len; have := ha.1; omega
  have h0 : ea es 0 ∈ ws := h.perm.mem_iff.1 (ea_mem es 0 hl)
  obtain ⟨j, hj, hje⟩ := mem_ea ws _ h0
  obtain ⟨k, hk, hke⟩ := mem_ea es _ (h.perm.mem_iff.2 (ea_mem ws a ha.1))
  have l1 := ha.2 j hj
  have l2 := heap_least es es.length h.heap k hk
  rw [hje] at l1
  rw [hke] at l2
  exact sorted_inj h.sorted h0 (ea_mem ws a ha.1) (by unfold enLe at *; omega)
theorem erase_perm (ws : List En) (a : Nat) (ha : a < ws.length) : ws.Perm (ea ws a :: ws.eraseIdx a) := by
  have e : ea ws a = ws[a] := by unfold ea; rw [List.getD_eq_getElem?_getD, List.getElem?_eq_getElem ha]; rfl
  rw [e, List.eraseIdx_eq_take_drop_succ]
  conv => lhs; rw [← List.take_append_drop a ws, List.drop_eq_getElem_cons ha]
  exact List.perm_middle
theorem QI.pop {es ws : List En} (h : QI es ws) {a : Nat} (ha : LeastAt ws a) : popE es = ea ws a ∧ QI (popF es) (ws.eraseIdx a) := by
  have hl : 0 < es.length := by have := h.len; have := ha.1; omega
  obtain ⟨h1, h2, h3, h4⟩ := pop_heap es h.heap hl
  have hf := h.first ha
  refine ⟨h2.trans hf, h1, ?_, h.sorted.sublist (List.eraseIdx_sublist _ _)⟩
  have p := (h3.symm.trans h.perm).trans (erase_perm ws a ha.1)
  rw [hf] at p
  exact p.cons_inv
end
section
open Go.RowKit Go
set_option linter.unusedVariables false
set_option linter.unusedSimpArgs false
abbrev EnT : TypeId := 104
abbrev QuT : TypeId := 99
def En.cells (e : En) : List Value := [.int .i64 e.n, .int .i64 e.m, .int .u64 (e.t : Int)]
def flat (es : List En) : List Value := es.flatMap En.cells
theorem pt_flat_len (es : List En) : (flat es).length = es.length * 3 := by
  induction es with
  | nil => rfl
  | cons e r ih => simp only [flat, List.flatMap_cons, List.length_append, List.length_cons] at *; simp only [En.cells, List.length_cons, List.length_nil]; omega
theorem flat_get (es : List En) : ∀ (i k : Nat), i < es.length → k < 3 → (flat es)[i * 3 + k]? = (ea es i).cells[k]? := by
  induction es with
  | nil => intro i k h; simp at h
  | cons e r ih =>
    intro i k hi hk
    have e1 : flat (e :: r) = e.cells ++ flat r := rfl
    rw [e1]
    cases i with
    | zero => rw [List.getElem?_append_left (by simp [En.cells]; omega)]; simp [ea]
    | succ i =>
      have h3 : e.cells.length = 3 := rfl
      rw [List.getElem?_append_right (by omega), h3, show (i + 1) * 3 + k - 3 = i * 3 + k by omega, ih i k (by simpa using hi) hk]
      rfl
theorem flat_ext {xs : List Value} {es : List En} (h : xs.length = es.length * 3) (hc : ∀ i k, i < es.length → k < 3 → xs[i * 3 + k]? = (ea es i).cells[k]?) : xs = flat es := by
  apply List.ext_getElem?
  intro j
  by_cases hj : j < es.length * 3
  · have h1 := hc (j / 3) (j % 3) (by omega) (by omega)
    have h2 := flat_get es (j / 3) (j % 3) (by omega) (by omega)
    rw [show j / 3 * 3 + j % 3 = j by omega] at h1 h2
    rw [h1, h2]
  · rw [List.getElem?_eq_none (by omega), List.getElem?_eq_none (by rw [pt_flat_len]; omega)]
theorem cells_one (e : En) : ∀ u ∈ e.cells, u.oneCell' = true := by intro u hu; simp [En.cells] at hu; rcases hu with rfl | rfl | rfl <;> rfl
/-- the row's value v reads as the entries es -/
def EntB (W : World) (B : Nat) (v : Value) (es : List En) : Prop := W.ownsRow B EnT 3 v es.length (flat es)
/-- where entry i lies -/
structure EntAt (W : World) (b : Nat) (es : List En) (i : Nat) : Prop where
  c0 : W.cell? ⟨b, i * 3, none⟩ = some (.int .i64 (ea es i).n)
  c1 : W.cell? ⟨b, i * 3 + 1, none⟩ = some (.int .i64 (ea es i).m)
  c2 : W.cell? ⟨b, i * 3 + 2, none⟩ = some (.int .u64 ((ea es i).t : Int))
  there : W.there b (i * 3) 3
theorem EntB.lt {W : World} {B : Nat} {v : Value} {es : List En} (h : EntB W B v es) : ∀ k, v.ownBlock = some k → B ≤ k ∧ k < W.heap.size := World.ownsRow.lt h
theorem EntB.form {W : World} {B : Nat} {v : Value} {es : List En} (h : EntB W B v es) : ∃ A c, v = .slice A es.length c ∧ c ≤ 9223372036854775807 ∧ es.length ≤ c ∧ (∀ ad, A = some ad → ad = ⟨ad.block, 0, none⟩) ∧ (A = none → es = []) := by
  obtain ⟨h1, ⟨hv, h0⟩ | ⟨g, cap, cur, hv, _, _, hn, hm, _⟩⟩ := h
  · exact ⟨none, 0, by rw [hv, h0], by omega, by omega, fun _ q => (by cases q), fun _ => List.length_eq_zero_iff.mp h0⟩
  · exact ⟨_, cap, hv, by unfold maxLen at hm; omega, hn, fun ad q => by cases q; rfl, fun q => by cases q⟩
theorem EntB.at_ {W : World} {B b n cap : Nat} {es : List En} (h : EntB W B (.slice (some ⟨b, 0, none⟩) n cap) es) {i : Nat} (hi : i < es.length) : EntAt W b es i := by
  have hc := World.ownsRow.cells h (g := b) rfl
  have hh : ∃ cur, W.heap[b]? = some (.cells cur EnT (0, 0)) := by
    obtain ⟨h1, ⟨hv, h0⟩ | ⟨g, cap', cur, hv, _, hh, _⟩⟩ := h
    · cases hv
    · cases hv; exact ⟨cur, hh⟩
  obtain ⟨cur, hh⟩ := hh
  have q : ∀ k, k < 3 → W.cell? ⟨b, i * 3 + k, none⟩ = (ea es i).cells[k]? := fun k hk => by
    have h2 := flat_get es i k hi hk
    have h3 : (ea es i).cells[k]? = some ((ea es i).cells[k]'(by simp [En.cells]; omega)) := List.getElem?_eq_getElem _
    rw [h3] at h2 ⊢
    have := hc _ _ h2
    rwa [Addr.add_mid, Nat.zero_add] at this
  refine ⟨q 0 (by omega), q 1 (by omega), q 2 (by omega), fun j hj => ⟨?_, blk_free hh _⟩⟩
  rw [q j hj, List.getElem?_eq_getElem (by simp [En.cells]; omega)]; rfl
theorem EntAt.range {W : World} {b i : Nat} {es : List En} (h : EntAt W b es i) : W.rangeAt b (i * 3) (ea es i).cells := fun j v hv => by
  rcases j with _ | _ | _ | j
  · simp [En.cells] at hv; subst hv; exact h.c0
  · simp [En.cells] at hv; subst hv; exact h.c1
  · simp [En.cells] at hv; subst hv; exact h.c2
  · simp [En.cells] at hv
/-- an entry is put -/
theorem EntB.put {W : World} {B b n cap : Nat} {es : List En} (h : EntB W B (.slice (some ⟨b, 0, none⟩) n cap) es) {i : Nat} (hi : i < es.length) (e : En) :
    EntB (W.setCells b (i * 3) e.cells) B (.slice (some ⟨b, 0, none⟩) n cap) (es.set i e) := by
  obtain ⟨h1, ⟨hv, h0⟩ | ⟨g, cap', cur, hv, hg, hh, hn, hm, hs, ht⟩⟩ := h
  · cases hv
  · cases hv
    have hH : (W.setCells b (i * 3) e.cells).heap[b]? = some (.cells (((cur.setIfInBounds (i * 3) (.int .i64 e.n)).setIfInBounds (i * 3 + 1) (.int .i64 e.m)).setIfInBounds (i * 3 + 2) (.int .u64 (e.t : Int))) EnT (0, 0)) := blk_set (blk_set (blk_set hh _ _) _ _) _ _
    unfold EntB
    rw [List.length_set]
    refine ⟨by rw [pt_flat_len, List.length_set], .inr ⟨b, cap, _, rfl, hg, hH, hn, hm, by simp [hs], ?_⟩⟩
    refine flat_ext (by simp; omega) (fun q k hq hk => ?_)
    rw [List.length_set] at hq
    rw [ea_set _ _ _ _ hi]
    have h2 := flat_get es q k hq hk
    rw [← ht, List.getElem?_take_of_lt (by omega)] at h2
    rw [List.getElem?_take_of_lt (by omega)]
    simp only [Array.toList_setIfInBounds, List.getElem?_set, Array.length_toList, List.length_set]
    by_cases hqi : q = i
    · subst hqi
      rcases (by omega : k = 0 ∨ k = 1 ∨ k = 2) with rfl | rfl | rfl
      · rw [if_neg (by omega), if_neg (by omega), if_pos (by omega), if_pos (by omega), if_pos rfl]; rfl
      · rw [if_neg (by omega), if_pos rfl, if_pos (by omega), if_pos rfl]; rfl
      · rw [if_pos rfl, if_pos (by omega), if_pos rfl]; rfl
    · rw [if_neg (by omega), if_neg (by omega), if_neg (by omega), if_neg hqi, h2]
theorem EntB.keep {W W' : World} {B : Nat} {v : Value} {es : List En} (h : EntB W B v es) (hk : ∀ g, v.ownBlock = some g → W'.heap[g]? = W.heap[g]?) : EntB W' B v es := by
  obtain ⟨h1, h2⟩ := h
  refine ⟨h1, ?_⟩
  rcases h2 with h2 | ⟨g, cap, cur, hv, hg, hh, hr⟩
  · exact .inl h2
  · exact .inr ⟨g, cap, cur, hv, hg, (hk g (by rw [hv]; rfl)).trans hh, hr⟩
/-- the first ones alone -/
theorem EntB.cut {W : World} {B b n cap : Nat} {es : List En} (h : EntB W B (.slice (some ⟨b, 0, none⟩) n cap) es) {k : Nat} (hk : k ≤ es.length) : EntB W B (.slice (some ⟨b, 0, none⟩) k cap) (es.take k) := by
  obtain ⟨h1, ⟨hv, h0⟩ | ⟨g, cap', cur, hv, hg, hh, hn, hm, hs, ht⟩⟩ := h
  · cases hv
  · cases hv
    have hlk : (es.take k).length = k := by rw [List.length_take]; omega
    unfold EntB
    rw [hlk]
    refine ⟨by rw [pt_flat_len, hlk], .inr ⟨b, cap, cur, rfl, hg, hh, by omega, hm, hs, ?_⟩⟩
    have hcl : cur.toList.length = cap * 3 := by rw [Array.length_toList]; exact hs
    refine flat_ext (by rw [List.length_take, hlk]; omega) (fun q j hq hj => ?_)
    rw [hlk] at hq
    have h2 := flat_get es q j (by omega) hj
    rw [← ht, List.getElem?_take_of_lt (by omega)] at h2
    rw [List.getElem?_take_of_lt (by omega), h2]
    unfold ea
    rw [List.getD_eq_getElem?_getD, List.getD_eq_getElem?_getD, List.getElem?_take_of_lt hq]
/-- the three cells of a queue -/
def QuB (W : World) (g : Nat) (v : Value) (t : Nat) : Prop := W.heap[g]? = some (.cells #[.func (Fn.func 33) #[] #[], v, .int .u64 (t : Int)] QuT (0, 0))
section
variable {W W' : World} {g t : Nat} {v : Value}
theorem QuB.lt (h : QuB W g v t) : g < W.heap.size := blk_lt h
theorem QuB.less (h : QuB W g v t) : W.cell? ⟨g, 0, none⟩ = some (.func (Fn.func 33) #[] #[]) := blk_cell h 0
theorem QuB.l (h : QuB W g v t) : W.cell? ⟨g, 1, none⟩ = some v := blk_cell h 1
theorem QuB.turn (h : QuB W g v t) : W.cell? ⟨g, 2, none⟩ = some (.int .u64 (t : Int)) := blk_cell h 2
theorem QuB.free (h : QuB W g v t) (i : Nat) : W.frozen? ⟨g, i, none⟩ = false := blk_free h i
theorem QuB.keep (h : QuB W g v t) (e : W'.heap[g]? = W.heap[g]?) : QuB W' g v t := e.trans h
end
/-- a queue that has these entries -/
structure Qu (W : World) (g : Nat) (v : Value) (es : List En) (t : Nat) : Prop where
  dev : QuB W g v t
  own : EntB W (g + 1) v es
section
variable {W W' : World} {g t : Nat} {v : Value} {es : List En}
theorem Qu.next (h : Qu W g v es t) (hb : Below W.heap.size W W') : Qu W' g v es t :=
  ⟨h.dev.keep (hb.block g h.dev.lt), h.own.keep fun k hk => hb.block k (h.own.lt k hk).2⟩
/-- what a call that turns the queue leaves -/
structure Qed (W : World) (g : Nat) (v : Value) (es' : List En) (t' : Nat) (W' : World) : Prop where
  turns : Turns (fun j => j = g ∨ v.ownBlock = some j) W W'
  qu : ∃ v', Qu W' g v' es' t' ∧ (v'.ownBlock = v.ownBlock ∨ ∃ j, W.heap.size ≤ j ∧ v'.ownBlock = some j)
theorem Qed.of_qu (h : Qu W g v es t) : Qed W g v es t W := ⟨⟨rfl, rfl, rfl, Nat.le_refl _, fun _ _ _ => rfl⟩, v, h, .inl rfl⟩
theorem Qed.next (h : Qed W g v es t W') {W2 : World} (hb : Below W'.heap.size W' W2) : Qed W g v es t W2 := by
  obtain ⟨v', h1, h2⟩ := h.qu
  exact ⟨h.turns.trans (S' := fun _ => False) (Turns.of_below hb) (fun _ _ q => q.elim), v', h1.next hb, h2⟩
end
end
section
open Go.RowKit Go
set_option linter.unusedVariables false
set_option linter.unusedSimpArgs false
theorem less_any (a b c d : Int) (w : World) : Calls Tryz.prog 33 #[.agg #[.int .i64 a, .int .i64 b], .agg #[.int .i64 c, .int .i64 d]] w fun e w' => e = .returned (.bool (decide (a < c) || (decide (a = c) && decide (b < d)))) ∧ Below w.heap.size w w' := by
  have hb : ∀ o o', Below w.heap.size w ((w.alloc o).alloc o') := fun o o' => ((Below.refl _ _).alloc (Nat.le_refl _) _).alloc (by simp) _
  by_cases h : a = c
  · subst h
    have e1 : (decide (a < a) || (decide (a = a) && decide (b < d))) = decide (b < d) := by simp
    have hq : (a != a) = false := by simp
    rw [e1]
    go_enter Tryz.func33, Tryz.ntmps33
    go_wp2
    go_ret
    exact ⟨rfl, hb _ _⟩
  · have e1 : (decide (a < c) || (decide (a = c) && decide (b < d))) = decide (a < c) := by simp [h]
    have hq : (a != c) = true := by rw [bne_iff_ne]; exact h
    rw [e1]
    go_enter Tryz.func33, Tryz.ntmps33
    go_wp2
    go_ret
    exact ⟨rfl, hb _ _⟩
theorem rowlen_any (g n c : Nat) (A : Option Addr) (w : World) (h : w.cell? ⟨g, 1, none⟩ = some (.slice A n c)) :
    Calls Tryz.prog 66 #[.pointer (some ⟨g, 0, none⟩)] w fun e w' => e = .returned (.int .i64 (n : Int)) ∧ w = w' := by
  go_enter Tryz.func66, Tryz.ntmps66
  go_wp2
  go_ret
  exact ⟨rfl, rfl⟩
theorem noneq_any (g : Nat) (w : World) (h : w.cell? ⟨g, 0, none⟩ = some (.func (Fn.func 33) #[] #[])) :
    Calls Tryz.prog 48 #[.pointer (some ⟨g, 0, none⟩)] w fun e w' => e = .returned (.bool false) ∧ w = w' := by
  have q : ∀ w : World, (binOp .eql 67 (.func (Fn.func 33) #[] #[]) .nilFunc).run Tryz.prog w = .ok (.bool false) w := fun _ => by kernel_rfl
  go_enter Tryz.func48, Tryz.ntmps48
  go_wp2
  go_ret
  exact ⟨rfl, rfl⟩
theorem qlen_any (g t : Nat) (v : Value) (es : List En) (w : World) (h : Qu w g v es t) :
    Calls Tryz.prog 50 #[.pointer (some ⟨g, 0, none⟩)] w fun e w' => e = .returned (.int .i64 (es.length : Int)) ∧ w = w' := by
  obtain ⟨A, c, rfl, _⟩ := h.own.form
  have H1 := Lib.hid (rowlen_any g es.length c A w h.dev.l)
  have H0 := Lib.hid (noneq_any g w h.dev.less)
  clear h
  generalize es.length = n at *
  go_enter Tryz.func50, Tryz.ntmps50
  go_wp2_with (first
    | (go_at_call 48; (with_reducible refine H0.out.mono ?_); rintro e w' ⟨rfl, rfl⟩)
    | (go_at_call 66; (with_reducible refine H1.out.mono ?_); rintro e w' ⟨rfl, rfl⟩))
  go_ret
  exact ⟨rfl, rfl⟩
/-- what Less loads -/
def LS (g b n cap i j : Nat) (x y : En) (W : World) : Prop :=
  W.cell? ⟨g, 1, none⟩ = some (.slice (some ⟨b, 0, none⟩) n cap) ∧ W.cell? ⟨b, i * 3, none⟩ = some (.int .i64 x.n) ∧ W.cell? ⟨b, i * 3 + 1, none⟩ = some (.int .i64 x.m) ∧ W.cell? ⟨b, i * 3 + 2, none⟩ = some (.int .u64 (x.t : Int)) ∧ W.cell? ⟨b, j * 3, none⟩ = some (.int .i64 y.n) ∧ W.cell? ⟨b, j * 3 + 1, none⟩ = some (.int .i64 y.m) ∧ W.cell? ⟨b, j * 3 + 2, none⟩ = some (.int .u64 (y.t : Int))
theorem cell_next {W W' : World} {p : Addr} {v : Value} (h : W.cell? p = some v) (hb : Below W.heap.size W W') : W'.cell? p = some v := (hb.cell (World.block_lt_of_cell? W p h)).trans h
theorem LS.next {g b n cap i j : Nat} {x y : En} {W W' : World} (h : LS g b n cap i j x y W) (hb : Below W.heap.size W W') : LS g b n cap i j x y W' :=
  ⟨cell_next h.1 hb, cell_next h.2.1 hb, cell_next h.2.2.1 hb, cell_next h.2.2.2.1 hb, cell_next h.2.2.2.2.1 hb, cell_next h.2.2.2.2.2.1 hb, cell_next h.2.2.2.2.2.2 hb⟩
theorem zero_en : (Tryz.prog.info? EnT).map (fun i => (i.zero, i.size, i.bytes)) = some (some (.agg #[.int .i64 0, .int .i64 0, .int .u64 0]), 3, 24) := by kernel_rfl
abbrev zeroEn : Obj := .cells #[.int .i64 0, .int .i64 0, .int .u64 0] EnT
theorem set3 {W : World} {q : Nat} {c : Array Value} (h : W.heap[q]? = some (.cells c EnT (0, 0))) (hc : c.size = 3) (x : En) : (W.setCells q 0 x.cells).heap[q]? = some (.cells x.cells.toArray EnT (0, 0)) := by
  have := blk_set (blk_set (blk_set h 0 (.int .i64 x.n)) 1 (.int .i64 x.m)) 2 (.int .u64 (x.t : Int))
  refine Eq.trans this ?_
  match c, hc with
  | ⟨[a, b, d]⟩, _ => rfl
theorem new2 (W : World) : ∃ V0, V0 = ((W.alloc zeroEn).alloc zeroEn).drew ∧ V0.heap[W.heap.size]? = some zeroEn ∧ V0.heap[W.heap.size + 1]? = some zeroEn ∧ Below W.heap.size W V0 := by
  refine ⟨_, rfl, blk_alloc (heap_alloc_new W _) _, ?_, (((Below.refl W.heap.size W).alloc (Nat.le_refl _) _).alloc (by simp) _).drew⟩
  have h := heap_alloc_new (W.alloc zeroEn) zeroEn
  rw [show (W.alloc zeroEn).heap.size = W.heap.size + 1 by simp] at h
  exact h
theorem put2 {V : World} {p q : Nat} (h1 : V.heap[p]? = some zeroEn) (h2 : V.heap[q]? = some zeroEn) (hpq : p ≠ q) (x y : En) :
    ((V.setCells p 0 x.cells).setCells q 0 y.cells).heap[p]? = some (.cells x.cells.toArray EnT (0, 0)) ∧ ((V.setCells p 0 x.cells).setCells q 0 y.cells).heap[q]? = some (.cells y.cells.toArray EnT (0, 0)) := by
  have h3 := set3 h1 rfl x
  have h4 : (V.setCells p 0 x.cells).heap[q]? = some zeroEn := (heap_setCells p _ _ _ q (Ne.symm hpq)).trans h2
  exact ⟨(heap_setCells q _ _ _ p hpq).trans h3, set3 h4 rfl y⟩
theorem there3 {W : World} {q : Nat} {c : Array Value} {t : TypeId} (h : W.heap[q]? = some (.cells c t (0, 0))) (hc : 3 ≤ c.size) : W.there q 0 3 := fun j hj => ⟨by rw [Nat.zero_add, blk_cell h, Array.getElem?_eq_getElem (by omega)]; rfl, blk_free h _⟩
theorem range2 {W : World} {q : Nat} {x : En} (h : W.heap[q]? = some (.cells x.cells.toArray EnT (0, 0))) : W.rangeAt q 0 [.int .i64 x.n, .int .i64 x.m] := fun j v hv => by
  rw [Nat.zero_add, blk_cell h]
  rcases j with _ | _ | j
  · exact hv
  · exact hv
  · simp at hv
theorem turn2 {W : World} {q : Nat} {x : En} (h : W.heap[q]? = some (.cells x.cells.toArray EnT (0, 0))) : W.cell? ⟨q, 2, none⟩ = some (.int .u64 (x.t : Int)) := blk_cell h 2
theorem info_en : (Tryz.prog.info? EnT).map (·.size) = some 3 := by kernel_rfl
theorem info_th : (Tryz.prog.info? 61).map (·.size) = some 2 := by kernel_rfl
theorem info_th2 (x : En) : (Tryz.prog.info? 61).map (·.size) = some ([Value.int .i64 x.n, Value.int .i64 x.m] : List Value).length := info_th
abbrev LessY (x y : En) (p : Bool) : Prop := ∀ W : World, Calls Tryz.prog 33 #[.agg #[.int .i64 x.n, .int .i64 x.m], .agg #[.int .i64 y.n, .int .i64 y.m]] W fun e w' => e = .returned (.bool p) ∧ Below W.heap.size W w'
theorem lessY (x y : En) {p : Bool} (h : kLt x y = p) : LessY x y p := fun W => by rw [← h]; exact less_any _ _ _ _ W
set_option maxHeartbeats 2000000 in
set_option maxRecDepth 100000 in
theorem rowless_1 (g i j b cap n : Nat) (x y : En) (w : World) (k1 : LS g b n cap i j x y w) (k0 : w.cell? ⟨g, 0, none⟩ = some (.func (Fn.func 33) #[] #[])) (hi : i < n) (hj : j < n) (hm : n ≤ 1000000000) (c1 : kLt x y = true) :
    Calls Tryz.prog 116 #[.pointer (some ⟨g, 0, none⟩), .int .i64 (i : Int), .int .i64 (j : Int)] w fun e w' => e = .returned (.bool (enLt x y)) ∧ Below w.heap.size w w' := by
  have HK := Lib.hid (show LS g b n cap i j x y w.drew from k1)
  have HK0 := Lib.hid k1
  have HI := Lib.hid info_en
  have HIX := Lib.hid (info_th2 x)
  have HIY := Lib.hid (info_th2 y)
  obtain ⟨V0, hV0, f1, f2, f3⟩ := new2 w
  have HV0 := Lib.hid hV0
  have HF1 := Lib.hid f1
  have HF2 := Lib.hid f2
  have HF3 := Lib.hid f3
  have HKV : Hid (LS g b n cap i j x y V0) := Lib.hid (k1.next f3)
  clear hV0 f1 f2 f3
  have HB1 : Hid (Below w.drew.heap.size w.drew (w.drew.alloc zeroEn)) := Lib.hid ((Below.refl _ _).alloc (Nat.le_refl _) _)
  have HB2 : Hid (Below w.drew.heap.size w.drew ((w.drew.alloc zeroEn).alloc zeroEn)) := Lib.hid (((Below.refl _ _).alloc (Nat.le_refl _) _).alloc (by simp) _)
  have hpost : ∀ p : Bool, Hid (enLt x y = p) → True := fun _ _ => trivial
  clear hpost k1
  have HF : Hid (∀ W, After w W → W.cell? ⟨g, 0, none⟩ = some (.func (Fn.func 33) #[] #[])) := Lib.hid (fun W hW => cell_next k0 hW)
  clear k0
  have H1 := Lib.hid (lessY x y c1)
  have H2 := H1
  have HR : Hid (enLt x y = true) := Lib.hid (by unfold enLt; rw [c1]; rfl)
  clear c1
  go_enter Tryz.func116, Tryz.ntmps116
  go_wp2_with fail
  refine wp_region_F (S := LS g b n cap i j x y) [] (by kernel_rfl) HK.out (fun hHeld => ?_)
  refine wpAnyF_take (i := 0) (oi := _) (v := ?_) rfl (by kernel_rfl) (by kernel_rfl) (by kernel_rfl) (by kernel_rfl) (fun _ _ _ h => h) (Or.inl ⟨by rfl, ?_⟩) (by assumption) ?_
  rotate_left 1
  · intro w hSw
    simp only [LS] at hSw
    (first | (go_simp; done) | (go_simp; with_reducible rfl))
  (try simp only [Act.put, List.getElem_toArray, List.getElem_cons_succ, List.getElem_cons_zero, List.setIfInBounds_toArray, List.set_cons_zero, List.set_cons_succ])
  refine wpAnyF_take (i := 1) (oi := _) (v := ?_) rfl (by kernel_rfl) (by kernel_rfl) (by kernel_rfl) (by kernel_rfl) (fun _ _ _ h => h) (Or.inl ⟨by rfl, ?_⟩) (by assumption) ?_
  rotate_left 1
  · intro w hSw
    simp only [LS] at hSw
    (first | (go_simp; done) | (go_simp; with_reducible rfl))
  (try simp only [Act.put, List.getElem_toArray, List.getElem_cons_succ, List.getElem_cons_zero, List.setIfInBounds_toArray, List.set_cons_zero, List.set_cons_succ])
  refine wpAnyF_take (i := 2) (oi := _) (v := ?_) rfl (by kernel_rfl) (by kernel_rfl) (by kernel_rfl) (by kernel_rfl) (fun _ _ _ h => h) (Or.inl ⟨by rfl, ?_⟩) (by assumption) ?_
  rotate_left 1
  · intro w hSw
    simp only [LS] at hSw
    (first | (go_simp; done) | (go_simp; with_reducible rfl))
  (try simp only [Act.put, List.getElem_toArray, List.getElem_cons_succ, List.getElem_cons_zero, List.setIfInBounds_toArray, List.set_cons_zero, List.set_cons_succ])
  refine wpAnyF_take (i := 3) (oi := _) (v := ?_) rfl (by kernel_rfl) (by kernel_rfl) (by kernel_rfl) (by kernel_rfl) (fun _ _ _ h => h) (Or.inl ⟨by rfl, ?_⟩) (by assumption) ?_
  rotate_left 1
  · intro w hSw
    simp only [LS] at hSw
    (first | (go_simp; done) | (go_simp; with_reducible rfl))
  (try simp only [Act.put, List.getElem_toArray, List.getElem_cons_succ, List.getElem_cons_zero, List.setIfInBounds_toArray, List.set_cons_zero, List.set_cons_succ])
  refine wpAnyF_take (i := 4) (oi := _) (v := ?_) rfl (by kernel_rfl) (by kernel_rfl) (by kernel_rfl) (by kernel_rfl) (fun _ _ _ h => h) (Or.inl ⟨by rfl, ?_⟩) (by assumption) ?_
  rotate_left 1
  · intro w hSw
    simp only [LS] at hSw
    (first | (go_simp; done) | (go_simp; with_reducible rfl))
  (try simp only [Act.put, List.getElem_toArray, List.getElem_cons_succ, List.getElem_cons_zero, List.setIfInBounds_toArray, List.set_cons_zero, List.set_cons_succ])
  refine wpAnyF_take (i := 5) (oi := _) (v := ?_) rfl (by kernel_rfl) (by kernel_rfl) (by kernel_rfl) (by kernel_rfl) (fun _ _ _ h => h) (Or.inl ⟨by rfl, ?_⟩) (by assumption) ?_
  rotate_left 1
  · intro w hSw
    simp only [LS] at hSw
    (first | (go_simp; done) | (go_simp; with_reducible rfl))
  (try simp only [Act.put, List.getElem_toArray, List.getElem_cons_succ, List.getElem_cons_zero, List.setIfInBounds_toArray, List.set_cons_zero, List.set_cons_succ])
  refine wpAnyF_take (i := 6) (oi := _) (v := ?_) rfl (by kernel_rfl) (by kernel_rfl) (by kernel_rfl) (by kernel_rfl) (fun _ _ _ h => h) (Or.inl ⟨by rfl, ?_⟩) (by assumption) ?_
  rotate_left 1
  · intro w hSw
    simp only [LS] at hSw
    (first | (go_simp; done) | (go_simp; with_reducible rfl))
  (try simp only [Act.put, List.getElem_toArray, List.getElem_cons_succ, List.getElem_cons_zero, List.setIfInBounds_toArray, List.set_cons_zero, List.set_cons_succ])
  refine wpAnyF_take (i := 7) (oi := _) (v := ?_) rfl (by kernel_rfl) (by kernel_rfl) (by kernel_rfl) (by kernel_rfl) (fun _ _ _ h => h) (Or.inl ⟨by rfl, ?_⟩) (by assumption) ?_
  rotate_left 1
  · intro w hSw
    simp only [LS] at hSw
    (first | (go_simp; done) | (go_simp; with_reducible rfl))
  (try simp only [Act.put, List.getElem_toArray, List.getElem_cons_succ, List.getElem_cons_zero, List.setIfInBounds_toArray, List.set_cons_zero, List.set_cons_succ])
  refine wpAnyF_take (i := 8) (oi := _) (v := ?_) rfl (by kernel_rfl) (by kernel_rfl) (by kernel_rfl) (by kernel_rfl) (fun _ _ _ h => h) (Or.inl ⟨by rfl, ?_⟩) (by assumption) ?_
  rotate_left 1
  · intro w hSw
    simp only [LS] at hSw
    (first | (go_simp; done) | (go_simp; with_reducible rfl))
  (try simp only [Act.put, List.getElem_toArray, List.getElem_cons_succ, List.getElem_cons_zero, List.setIfInBounds_toArray, List.set_cons_zero, List.set_cons_succ])
  refine wpAnyF_take (i := 9) (oi := _) (v := ?_) rfl (by kernel_rfl) (by kernel_rfl) (by kernel_rfl) (by kernel_rfl) (fun _ _ _ h => h) (Or.inl ⟨by rfl, ?_⟩) (by assumption) ?_
  rotate_left 1
  · intro w hSw
    simp only [LS] at hSw
    (first | (go_simp; done) | (go_simp; with_reducible rfl))
  (try simp only [Act.put, List.getElem_toArray, List.getElem_cons_succ, List.getElem_cons_zero, List.setIfInBounds_toArray, List.set_cons_zero, List.set_cons_succ])
  refine wpAnyF_take (i := 10) (oi := _) (v := ?_) rfl (by kernel_rfl) (by kernel_rfl) (by kernel_rfl) (by kernel_rfl) (fun _ _ _ h => h) (Or.inl ⟨by rfl, ?_⟩) (by assumption) ?_
  rotate_left 1
  · intro w hSw
    simp only [LS] at hSw
    (first | (go_simp; done) | (go_simp; with_reducible rfl))
  (try simp only [Act.put, List.getElem_toArray, List.getElem_cons_succ, List.getElem_cons_zero, List.setIfInBounds_toArray, List.set_cons_zero, List.set_cons_succ])
  refine wpAnyF_take (i := 11) (oi := _) (v := ?_) rfl (by kernel_rfl) (by kernel_rfl) (by kernel_rfl) (by kernel_rfl) (fun _ _ _ h => h) (Or.inl ⟨by rfl, ?_⟩) (by assumption) ?_
  rotate_left 1
  · intro w hSw
    simp only [LS] at hSw
    (first | (go_simp; done) | (go_simp; with_reducible rfl))
  (try simp only [Act.put, List.getElem_toArray, List.getElem_cons_succ, List.getElem_cons_zero, List.setIfInBounds_toArray, List.set_cons_zero, List.set_cons_succ])
  refine wpAnyF_take (i := 12) (oi := _) (v := ?_) rfl (by kernel_rfl) (by kernel_rfl) (by kernel_rfl) (by kernel_rfl) (fun _ _ _ h => h) (Or.inl ⟨by rfl, ?_⟩) (by assumption) ?_
  rotate_left 1
  · intro w hSw
    simp only [LS] at hSw
    (first | (go_simp; done) | (go_simp; with_reducible rfl))
  (try simp only [Act.put, List.getElem_toArray, List.getElem_cons_succ, List.getElem_cons_zero, List.setIfInBounds_toArray, List.set_cons_zero, List.set_cons_succ])
  refine wpAnyF_take (i := 13) (oi := _) (v := ?_) rfl (by kernel_rfl) (by kernel_rfl) (by kernel_rfl) (by kernel_rfl) (fun _ _ _ h => h) (Or.inl ⟨by rfl, ?_⟩) (by assumption) ?_
  rotate_left 1
  · intro w hSw
    simp only [LS] at hSw
    (first | (go_simp; done) | (go_simp; with_reducible rfl))
  (try simp only [Act.put, List.getElem_toArray, List.getElem_cons_succ, List.getElem_cons_zero, List.setIfInBounds_toArray, List.set_cons_zero, List.set_cons_succ])
  refine wpAnyF_ready (rs := [14, 15]) (by kernel_rfl) (by simp) ?_
  refine AllReadyF.cons (o := _) rfl (fun K hK => ?_) (AllReadyF.cons (o := _) rfl (fun K hK => ?_) AllReadyF.nil)
  · go_simp
    refine hK.out _ _ (HK.out.next HB1.out) (fun hHeld14 => ?_)
    clear hK K
    (try simp only [Act.put, List.getElem_toArray, List.getElem_cons_succ, List.getElem_cons_zero, List.setIfInBounds_toArray, List.set_cons_zero, List.set_cons_succ])
    refine wpAnyF_ready (rs := [15]) (by kernel_rfl) (by simp) ?_
    refine AllReadyF.cons (o := _) rfl (fun K hK => ?_) AllReadyF.nil
    go_simp
    refine hK.out _ _ (HK.out.next HB2.out) (fun hHeld15 => ?_)
    clear hK K
    (try simp only [Act.put, List.getElem_toArray, List.getElem_cons_succ, List.getElem_cons_zero, List.setIfInBounds_toArray, List.set_cons_zero, List.set_cons_succ])
    rw [← HV0.out]
    have HP := Lib.hid (put2 HF1.out HF2.out (by omega) x y)
    have HBS : Hid (Below w.heap.size w (V0.setCells (w.heap.size) 0 x.cells)) := Lib.hid (below_setCells _ _ _ HF3.out (by omega))
    have HBT : Hid (Below w.heap.size w ((V0.setCells (w.heap.size) 0 x.cells).setCells (w.heap.size + 1) 0 y.cells)) := Lib.hid (below_setCells _ _ _ HBS.out (by omega))
    have H8 : Hid ((V0.setCells (w.heap.size) 0 x.cells).heap[w.heap.size + 1]? = some zeroEn) := Lib.hid ((heap_setCells _ _ _ _ _ (by omega)).trans HF2.out)
    refine wpAnyF_ready (rs := [16]) (by kernel_rfl) (by simp) ?_
    refine AllReadyF.cons (o := _) rfl (fun K hK => ?_) AllReadyF.nil
    rw [if_pos (by rfl)]
    refine wp_store_mid EnT (.tmp 7) (.tmp 15) rfl (w.heap.size) 0 x.cells.toArray rfl rfl (there3 HF1.out (by decide)) HI.out (all_oneCell_toArray (cells_one _)) ?_
    refine hK.out _ _ (HK0.out.next HBS.out) (fun hHeld16 => ?_)
    clear hK K
    (try simp only [Act.put, List.getElem_toArray, List.getElem_cons_succ, List.getElem_cons_zero, List.setIfInBounds_toArray, List.set_cons_zero, List.set_cons_succ])
    refine wpAnyF_ready (rs := [17]) (by kernel_rfl) (by simp) ?_
    refine AllReadyF.cons (o := _) rfl (fun K hK => ?_) AllReadyF.nil
    rw [if_pos (by rfl)]
    refine wp_store_mid EnT (.tmp 8) (.tmp 22) rfl (w.heap.size + 1) 0 y.cells.toArray rfl rfl (there3 H8.out (by decide)) HI.out (all_oneCell_toArray (cells_one _)) ?_
    refine hK.out _ _ (HK0.out.next HBT.out) (fun hHeld17 => ?_)
    clear hK K
    (try simp only [Act.put, List.getElem_toArray, List.getElem_cons_succ, List.getElem_cons_zero, List.setIfInBounds_toArray, List.set_cons_zero, List.set_cons_succ])
    refine wpAnyF_done (by kernel_rfl) ?_ _
    generalize (V0.setCells (w.heap.size) 0 x.cells).setCells (w.heap.size + 1) 0 y.cells = V at HP HBT ⊢
    have HC0 : Hid (∀ W, After V W → W.cell? ⟨g, 0, none⟩ = some (.func (Fn.func 33) #[] #[])) := Lib.hid (fun W hW => HF.out W (Below.trans HBT.out (Below.mono hW HBT.out.size)))
    have HCX : Hid (∀ W, After V W → W.rangeAt (w.heap.size) 0 [.int .i64 x.n, .int .i64 x.m]) := Lib.hid (fun W hW => range2 ((Below.block hW _ (blk_lt HP.out.1)).trans HP.out.1))
    have HCY : Hid (∀ W, After V W → W.rangeAt (w.heap.size + 1) 0 [.int .i64 y.n, .int .i64 y.m]) := Lib.hid (fun W hW => range2 ((Below.block hW _ (blk_lt HP.out.2)).trans HP.out.2))
    have HTX : Hid (∀ W, After V W → W.cell? ⟨w.heap.size, 2, none⟩ = some (.int .u64 (x.t : Int))) := Lib.hid (fun W hW => turn2 ((Below.block hW _ (blk_lt HP.out.1)).trans HP.out.1))
    have HTY : Hid (∀ W, After V W → W.cell? ⟨w.heap.size + 1, 2, none⟩ = some (.int .u64 (y.t : Int))) := Lib.hid (fun W hW => turn2 ((Below.block hW _ (blk_lt HP.out.2)).trans HP.out.2))
    go_wp2_with fail
    refine wp_region_class (After V) (by kernel_rfl) (by kernel_rfl) (After.drew V) ?_
    repeat (first
      | go_big_quiet_skip
      | (go_big_quiet_want; first
        | (with_reducible refine quiet_cell 67 _ rfl _ _ rfl _ _ (fun W h => HC0.out W h) Tryz.underlying67 rfl ?_; (simp only [Act.put, List.setIfInBounds_toArray, List.set_cons_zero, List.set_cons_succ]); go_big_quiet_on)
        | (with_reducible refine quiet_load 61 _ rfl _ _ rfl [.int .i64 x.n, .int .i64 x.m] _ (fun W h => HCX.out W h) Tryz.underlying61 rfl HIX.out ?_; (simp only [Act.put, List.setIfInBounds_toArray, List.set_cons_zero, List.set_cons_succ]); go_big_quiet_on)
        | (with_reducible refine quiet_load 61 _ rfl _ _ rfl [.int .i64 y.n, .int .i64 y.m] _ (fun W h => HCY.out W h) Tryz.underlying61 rfl HIY.out ?_; (simp only [Act.put, List.setIfInBounds_toArray, List.set_cons_zero, List.set_cons_succ]); go_big_quiet_on)
        | (with_reducible refine quiet_cell 91 _ rfl _ _ rfl (.int .u64 (x.t : Int)) _ (fun W h => HTX.out W h) Tryz.underlying91 rfl ?_; (simp only [Act.put, List.setIfInBounds_toArray, List.set_cons_zero, List.set_cons_succ]); go_big_quiet_on)
        | (with_reducible refine quiet_cell 91 _ rfl _ _ rfl (.int .u64 (y.t : Int)) _ (fun W h => HTY.out W h) Tryz.underlying91 rfl ?_; (simp only [Act.put, List.setIfInBounds_toArray, List.set_cons_zero, List.set_cons_succ]); go_big_quiet_on)
        | (go_big_quiet_op; first
          | go_big_quiet_on
          | ((with_reducible refine ⟨_, fun _ _ => rfl, ?_⟩); go_big_quiet_on)
          | ((with_reducible refine ⟨_, fun _ _ => ⟨rfl, rfl⟩, ?_⟩); go_big_quiet_on)
          | ((with_reducible refine ⟨_, fun W hW => calls_after hW (H1.out W), ?_⟩); go_big_quiet_on)
          | ((with_reducible refine ⟨_, fun W hW => calls_after hW (H2.out W), ?_⟩); go_big_quiet_on))))
    refine wpQuiet_nil ?_
    intro W4 hW4
    go_wp2
    go_ret
    exact ⟨by rw [HR.out]; rfl, HBT.out.trans (hW4.mono HBT.out.size)⟩
  · go_simp
    refine hK.out _ _ (HK.out.next HB1.out) (fun hHeld15 => ?_)
    clear hK K
    (try simp only [Act.put, List.getElem_toArray, List.getElem_cons_succ, List.getElem_cons_zero, List.setIfInBounds_toArray, List.set_cons_zero, List.set_cons_succ])
    refine wpAnyF_ready (rs := [14]) (by kernel_rfl) (by simp) ?_
    refine AllReadyF.cons (o := _) rfl (fun K hK => ?_) AllReadyF.nil
    go_simp
    refine hK.out _ _ (HK.out.next HB2.out) (fun hHeld14 => ?_)
    clear hK K
    (try simp only [Act.put, List.getElem_toArray, List.getElem_cons_succ, List.getElem_cons_zero, List.setIfInBounds_toArray, List.set_cons_zero, List.set_cons_succ])
    rw [← HV0.out]
    have HP := Lib.hid (put2 HF2.out HF1.out (by omega) x y)
    have HBS : Hid (Below w.heap.size w (V0.setCells (w.heap.size + 1) 0 x.cells)) := Lib.hid (below_setCells _ _ _ HF3.out (by omega))
    have HBT : Hid (Below w.heap.size w ((V0.setCells (w.heap.size + 1) 0 x.cells).setCells (w.heap.size) 0 y.cells)) := Lib.hid (below_setCells _ _ _ HBS.out (by omega))
    have H8 : Hid ((V0.setCells (w.heap.size + 1) 0 x.cells).heap[w.heap.size]? = some zeroEn) := Lib.hid ((heap_setCells _ _ _ _ _ (by omega)).trans HF1.out)
    refine wpAnyF_ready (rs := [16]) (by kernel_rfl) (by simp) ?_
    refine AllReadyF.cons (o := _) rfl (fun K hK => ?_) AllReadyF.nil
    rw [if_pos (by rfl)]
    refine wp_store_mid EnT (.tmp 7) (.tmp 15) rfl (w.heap.size + 1) 0 x.cells.toArray rfl rfl (there3 HF2.out (by decide)) HI.out (all_oneCell_toArray (cells_one _)) ?_
    refine hK.out _ _ (HK0.out.next HBS.out) (fun hHeld16 => ?_)
    clear hK K
    (try simp only [Act.put, List.getElem_toArray, List.getElem_cons_succ, List.getElem_cons_zero, List.setIfInBounds_toArray, List.set_cons_zero, List.set_cons_succ])
    refine wpAnyF_ready (rs := [17]) (by kernel_rfl) (by simp) ?_
    refine AllReadyF.cons (o := _) rfl (fun K hK => ?_) AllReadyF.nil
    rw [if_pos (by rfl)]
    refine wp_store_mid EnT (.tmp 8) (.tmp 22) rfl (w.heap.size) 0 y.cells.toArray rfl rfl (there3 H8.out (by decide)) HI.out (all_oneCell_toArray (cells_one _)) ?_
    refine hK.out _ _ (HK0.out.next HBT.out) (fun hHeld17 => ?_)
    clear hK K
    (try simp only [Act.put, List.getElem_toArray, List.getElem_cons_succ, List.getElem_cons_zero, List.setIfInBounds_toArray, List.set_cons_zero, List.set_cons_succ])
    refine wpAnyF_done (by kernel_rfl) ?_ _
    generalize (V0.setCells (w.heap.size + 1) 0 x.cells).setCells (w.heap.size) 0 y.cells = V at HP HBT ⊢
    have HC0 : Hid (∀ W, After V W → W.cell? ⟨g, 0, none⟩ = some (.func (Fn.func 33) #[] #[])) := Lib.hid (fun W hW => HF.out W (Below.trans HBT.out (Below.mono hW HBT.out.size)))
    have HCX : Hid (∀ W, After V W → W.rangeAt (w.heap.size + 1) 0 [.int .i64 x.n, .int .i64 x.m]) := Lib.hid (fun W hW => range2 ((Below.block hW _ (blk_lt HP.out.1)).trans HP.out.1))
    have HCY : Hid (∀ W, After V W → W.rangeAt (w.heap.size) 0 [.int .i64 y.n, .int .i64 y.m]) := Lib.hid (fun W hW => range2 ((Below.block hW _ (blk_lt HP.out.2)).trans HP.out.2))
    have HTX : Hid (∀ W, After V W → W.cell? ⟨w.heap.size + 1, 2, none⟩ = some (.int .u64 (x.t : Int))) := Lib.hid (fun W hW => turn2 ((Below.block hW _ (blk_lt HP.out.1)).trans HP.out.1))
    have HTY : Hid (∀ W, After V W → W.cell? ⟨w.heap.size, 2, none⟩ = some (.int .u64 (y.t : Int))) := Lib.hid (fun W hW => turn2 ((Below.block hW _ (blk_lt HP.out.2)).trans HP.out.2))
    go_wp2_with fail
    refine wp_region_class (After V) (by kernel_rfl) (by kernel_rfl) (After.drew V) ?_
    repeat (first
      | go_big_quiet_skip
      | (go_big_quiet_want; first
        | (with_reducible refine quiet_cell 67 _ rfl _ _ rfl _ _ (fun W h => HC0.out W h) Tryz.underlying67 rfl ?_; (simp only [Act.put, List.setIfInBounds_toArray, List.set_cons_zero, List.set_cons_succ]); go_big_quiet_on)
        | (with_reducible refine quiet_load 61 _ rfl _ _ rfl [.int .i64 x.n, .int .i64 x.m] _ (fun W h => HCX.out W h) Tryz.underlying61 rfl HIX.out ?_; (simp only [Act.put, List.setIfInBounds_toArray, List.set_cons_zero, List.set_cons_succ]); go_big_quiet_on)
        | (with_reducible refine quiet_load 61 _ rfl _ _ rfl [.int .i64 y.n, .int .i64 y.m] _ (fun W h => HCY.out W h) Tryz.underlying61 rfl HIY.out ?_; (simp only [Act.put, List.setIfInBounds_toArray, List.set_cons_zero, List.set_cons_succ]); go_big_quiet_on)
        | (with_reducible refine quiet_cell 91 _ rfl _ _ rfl (.int .u64 (x.t : Int)) _ (fun W h => HTX.out W h) Tryz.underlying91 rfl ?_; (simp only [Act.put, List.setIfInBounds_toArray, List.set_cons_zero, List.set_cons_succ]); go_big_quiet_on)
        | (with_reducible refine quiet_cell 91 _ rfl _ _ rfl (.int .u64 (y.t : Int)) _ (fun W h => HTY.out W h) Tryz.underlying91 rfl ?_; (simp only [Act.put, List.setIfInBounds_toArray, List.set_cons_zero, List.set_cons_succ]); go_big_quiet_on)
        | (go_big_quiet_op; first
          | go_big_quiet_on
          | ((with_reducible refine ⟨_, fun _ _ => rfl, ?_⟩); go_big_quiet_on)
          | ((with_reducible refine ⟨_, fun _ _ => ⟨rfl, rfl⟩, ?_⟩); go_big_quiet_on)
          | ((with_reducible refine ⟨_, fun W hW => calls_after hW (H1.out W), ?_⟩); go_big_quiet_on)
          | ((with_reducible refine ⟨_, fun W hW => calls_after hW (H2.out W), ?_⟩); go_big_quiet_on))))
    refine wpQuiet_nil ?_
    intro W4 hW4
    go_wp2
    go_ret
    exact ⟨by rw [HR.out]; rfl, HBT.out.trans (hW4.mono HBT.out.size)⟩
set_option maxHeartbeats 2000000 in
set_option maxRecDepth 100000 in
theorem rowless_2 (g i j b cap n : Nat) (x y : En) (w : World) (k1 : LS g b n cap i j x y w) (k0 : w.cell? ⟨g, 0, none⟩ = some (.func (Fn.func 33) #[] #[])) (hi : i < n) (hj : j < n) (hm : n ≤ 1000000000) (c1 : kLt x y = false) (c2 : decide (x.t < y.t) = false) :
    Calls Tryz.prog 116 #[.pointer (some ⟨g, 0, none⟩), .int .i64 (i : Int), .int .i64 (j : Int)] w fun e w' => e = .returned (.bool (enLt x y)) ∧ Below w.heap.size w w' := by
  have HK := Lib.hid (show LS g b n cap i j x y w.drew from k1)
  have HK0 := Lib.hid k1
  have HI := Lib.hid info_en
  have HIX := Lib.hid (info_th2 x)
  have HIY := Lib.hid (info_th2 y)
  obtain ⟨V0, hV0, f1, f2, f3⟩ := new2 w
  have HV0 := Lib.hid hV0
  have HF1 := Lib.hid f1
  have HF2 := Lib.hid f2
  have HF3 := Lib.hid f3
  have HKV : Hid (LS g b n cap i j x y V0) := Lib.hid (k1.next f3)
  clear hV0 f1 f2 f3
  have HB1 : Hid (Below w.drew.heap.size w.drew (w.drew.alloc zeroEn)) := Lib.hid ((Below.refl _ _).alloc (Nat.le_refl _) _)
  have HB2 : Hid (Below w.drew.heap.size w.drew ((w.drew.alloc zeroEn).alloc zeroEn)) := Lib.hid (((Below.refl _ _).alloc (Nat.le_refl _) _).alloc (by simp) _)
  have hpost : ∀ p : Bool, Hid (enLt x y = p) → True := fun _ _ => trivial
  clear hpost k1
  have HF : Hid (∀ W, After w W → W.cell? ⟨g, 0, none⟩ = some (.func (Fn.func 33) #[] #[])) := Lib.hid (fun W hW => cell_next k0 hW)
  clear k0
  have H1 := Lib.hid (lessY x y c1)
  have H2 := H1
  have HR : Hid (enLt x y = false) := Lib.hid (by unfold enLt; rw [c1, c2]; rfl)
  have c2b : decide ((x.t : Int) < (y.t : Int)) = false := by rw [decide_eq_false_iff_not] at c2 ⊢; omega
  clear c1
  go_enter Tryz.func116, Tryz.ntmps116
  go_wp2_with fail
  refine wp_region_F (S := LS g b n cap i j x y) [] (by kernel_rfl) HK.out (fun hHeld => ?_)
  refine wpAnyF_take (i := 0) (oi := _) (v := ?_) rfl (by kernel_rfl) (by kernel_rfl) (by kernel_rfl) (by kernel_rfl) (fun _ _ _ h => h) (Or.inl ⟨by rfl, ?_⟩) (by assumption) ?_
  rotate_left 1
  · intro w hSw
    simp only [LS] at hSw
    (first | (go_simp; done) | (go_simp; with_reducible rfl))
  (try simp only [Act.put, List.getElem_toArray, List.getElem_cons_succ, List.getElem_cons_zero, List.setIfInBounds_toArray, List.set_cons_zero, List.set_cons_succ])
  refine wpAnyF_take (i := 1) (oi := _) (v := ?_) rfl (by kernel_rfl) (by kernel_rfl) (by kernel_rfl) (by kernel_rfl) (fun _ _ _ h => h) (Or.inl ⟨by rfl, ?_⟩) (by assumption) ?_
  rotate_left 1
  · intro w hSw
    simp only [LS] at hSw
    (first | (go_simp; done) | (go_simp; with_reducible rfl))
  (try simp only [Act.put, List.getElem_toArray, List.getElem_cons_succ, List.getElem_cons_zero, List.setIfInBounds_toArray, List.set_cons_zero, List.set_cons_succ])
  refine wpAnyF_take (i := 2) (oi := _) (v := ?_) rfl (by kernel_rfl) (by kernel_rfl) (by kernel_rfl) (by kernel_rfl) (fun _ _ _ h => h) (Or.inl ⟨by rfl, ?_⟩) (by assumption) ?_
  rotate_left 1
  · intro w hSw
    simp only [LS] at hSw
    (first | (go_simp; done) | (go_simp; with_reducible rfl))
  (try simp only [Act.put, List.getElem_toArray, List.getElem_cons_succ, List.getElem_cons_zero, List.setIfInBounds_toArray, List.set_cons_zero, List.set_cons_succ])
  refine wpAnyF_take (i := 3) (oi := _) (v := ?_) rfl (by kernel_rfl) (by kernel_rfl) (by kernel_rfl) (by kernel_rfl) (fun _ _ _ h => h) (Or.inl ⟨by rfl, ?_⟩) (by assumption) ?_
  rotate_left 1
  · intro w hSw
    simp only [LS] at hSw
    (first | (go_simp; done) | (go_simp; with_reducible rfl))
  (try simp only [Act.put, List.getElem_toArray, List.getElem_cons_succ, List.getElem_cons_zero, List.setIfInBounds_toArray, List.set_cons_zero, List.set_cons_succ])
  refine wpAnyF_take (i := 4) (oi := _) (v := ?_) rfl (by kernel_rfl) (by kernel_rfl) (by kernel_rfl) (by kernel_rfl) (fun _ _ _ h => h) (Or.inl ⟨by rfl, ?_⟩) (by assumption) ?_
  rotate_left 1
  · intro w hSw
    simp only [LS] at hSw
    (first | (go_simp; done) | (go_simp; with_reducible rfl))
  (try simp only [Act.put, List.getElem_toArray, List.getElem_cons_succ, List.getElem_cons_zero, List.setIfInBounds_toArray, List.set_cons_zero, List.set_cons_succ])
  refine wpAnyF_take (i := 5) (oi := _) (v := ?_) rfl (by kernel_rfl) (by kernel_rfl) (by kernel_rfl) (by kernel_rfl) (fun _ _ _ h => h) (Or.inl ⟨by rfl, ?_⟩) (by assumption) ?_
  rotate_left 1
  · intro w hSw
    simp only [LS] at hSw
    (first | (go_simp; done) | (go_simp; with_reducible rfl))
  (try simp only [Act.put, List.getElem_toArray, List.getElem_cons_succ, List.getElem_cons_zero, List.setIfInBounds_toArray, List.set_cons_zero, List.set_cons_succ])
  refine wpAnyF_take (i := 6) (oi := _) (v := ?_) rfl (by kernel_rfl) (by kernel_rfl) (by kernel_rfl) (by kernel_rfl) (fun _ _ _ h => h) (Or.inl ⟨by rfl, ?_⟩) (by assumption) ?_
  rotate_left 1
  · intro w hSw
    simp only [LS] at hSw
    (first | (go_simp; done) | (go_simp; with_reducible rfl))
  (try simp only [Act.put, List.getElem_toArray, List.getElem_cons_succ, List.getElem_cons_zero, List.setIfInBounds_toArray, List.set_cons_zero, List.set_cons_succ])
  refine wpAnyF_take (i := 7) (oi := _) (v := ?_) rfl (by kernel_rfl) (by kernel_rfl) (by kernel_rfl) (by kernel_rfl) (fun _ _ _ h => h) (Or.inl ⟨by rfl, ?_⟩) (by assumption) ?_
  rotate_left 1
  · intro w hSw
    simp only [LS] at hSw
    (first | (go_simp; done) | (go_simp; with_reducible rfl))
  (try simp only [Act.put, List.getElem_toArray, List.getElem_cons_succ, List.getElem_cons_zero, List.setIfInBounds_toArray, List.set_cons_zero, List.set_cons_succ])
  refine wpAnyF_take (i := 8) (oi := _) (v := ?_) rfl (by kernel_rfl) (by kernel_rfl) (by kernel_rfl) (by kernel_rfl) (fun _ _ _ h => h) (Or.inl ⟨by rfl, ?_⟩) (by assumption) ?_
  rotate_left 1
  · intro w hSw
    simp only [LS] at hSw
    (first | (go_simp; done) | (go_simp; with_reducible rfl))
  (try simp only [Act.put, List.getElem_toArray, List.getElem_cons_succ, List.getElem_cons_zero, List.setIfInBounds_toArray, List.set_cons_zero, List.set_cons_succ])
  refine wpAnyF_take (i := 9) (oi := _) (v := ?_) rfl (by kernel_rfl) (by kernel_rfl) (by kernel_rfl) (by kernel_rfl) (fun _ _ _ h => h) (Or.inl ⟨by rfl, ?_⟩) (by assumption) ?_
  rotate_left 1
  · intro w hSw
    simp only [LS] at hSw
    (first | (go_simp; done) | (go_simp; with_reducible rfl))
  (try simp only [Act.put, List.getElem_toArray, List.getElem_cons_succ, List.getElem_cons_zero, List.setIfInBounds_toArray, List.set_cons_zero, List.set_cons_succ])
  refine wpAnyF_take (i := 10) (oi := _) (v := ?_) rfl (by kernel_rfl) (by kernel_rfl) (by kernel_rfl) (by kernel_rfl) (fun _ _ _ h => h) (Or.inl ⟨by rfl, ?_⟩) (by assumption) ?_
  rotate_left 1
  · intro w hSw
    simp only [LS] at hSw
    (first | (go_simp; done) | (go_simp; with_reducible rfl))
  (try simp only [Act.put, List.getElem_toArray, List.getElem_cons_succ, List.getElem_cons_zero, List.setIfInBounds_toArray, List.set_cons_zero, List.set_cons_succ])
  refine wpAnyF_take (i := 11) (oi := _) (v := ?_) rfl (by kernel_rfl) (by kernel_rfl) (by kernel_rfl) (by kernel_rfl) (fun _ _ _ h => h) (Or.inl ⟨by rfl, ?_⟩) (by assumption) ?_
  rotate_left 1
  · intro w hSw
    simp only [LS] at hSw
    (first | (go_simp; done) | (go_simp; with_reducible rfl))
  (try simp only [Act.put, List.getElem_toArray, List.getElem_cons_succ, List.getElem_cons_zero, List.setIfInBounds_toArray, List.set_cons_zero, List.set_cons_succ])
  refine wpAnyF_take (i := 12) (oi := _) (v := ?_) rfl (by kernel_rfl) (by kernel_rfl) (by kernel_rfl) (by kernel_rfl) (fun _ _ _ h => h) (Or.inl ⟨by rfl, ?_⟩) (by assumption) ?_
  rotate_left 1
  · intro w hSw
    simp only [LS] at hSw
    (first | (go_simp; done) | (go_simp; with_reducible rfl))
  (try simp only [Act.put, List.getElem_toArray, List.getElem_cons_succ, List.getElem_cons_zero, List.setIfInBounds_toArray, List.set_cons_zero, List.set_cons_succ])
  refine wpAnyF_take (i := 13) (oi := _) (v := ?_) rfl (by kernel_rfl) (by kernel_rfl) (by kernel_rfl) (by kernel_rfl) (fun _ _ _ h => h) (Or.inl ⟨by rfl, ?_⟩) (by assumption) ?_
  rotate_left 1
  · intro w hSw
    simp only [LS] at hSw
    (first | (go_simp; done) | (go_simp; with_reducible rfl))
  (try simp only [Act.put, List.getElem_toArray, List.getElem_cons_succ, List.getElem_cons_zero, List.setIfInBounds_toArray, List.set_cons_zero, List.set_cons_succ])
  refine wpAnyF_ready (rs := [14, 15]) (by kernel_rfl) (by simp) ?_
  refine AllReadyF.cons (o := _) rfl (fun K hK => ?_) (AllReadyF.cons (o := _) rfl (fun K hK => ?_) AllReadyF.nil)
  · go_simp
    refine hK.out _ _ (HK.out.next HB1.out) (fun hHeld14 => ?_)
    clear hK K
    (try simp only [Act.put, List.getElem_toArray, List.getElem_cons_succ, List.getElem_cons_zero, List.setIfInBounds_toArray, List.set_cons_zero, List.set_cons_succ])
    refine wpAnyF_ready (rs := [15]) (by kernel_rfl) (by simp) ?_
    refine AllReadyF.cons (o := _) rfl (fun K hK => ?_) AllReadyF.nil
    go_simp
    refine hK.out _ _ (HK.out.next HB2.out) (fun hHeld15 => ?_)
    clear hK K
    (try simp only [Act.put, List.getElem_toArray, List.getElem_cons_succ, List.getElem_cons_zero, List.setIfInBounds_toArray, List.set_cons_zero, List.set_cons_succ])
    rw [← HV0.out]
    have HP := Lib.hid (put2 HF1.out HF2.out (by omega) x y)
    have HBS : Hid (Below w.heap.size w (V0.setCells (w.heap.size) 0 x.cells)) := Lib.hid (below_setCells _ _ _ HF3.out (by omega))
    have HBT : Hid (Below w.heap.size w ((V0.setCells (w.heap.size) 0 x.cells).setCells (w.heap.size + 1) 0 y.cells)) := Lib.hid (below_setCells _ _ _ HBS.out (by omega))
    have H8 : Hid ((V0.setCells (w.heap.size) 0 x.cells).heap[w.heap.size + 1]? = some zeroEn) := Lib.hid ((heap_setCells _ _ _ _ _ (by omega)).trans HF2.out)
    refine wpAnyF_ready (rs := [16]) (by kernel_rfl) (by simp) ?_
    refine AllReadyF.cons (o := _) rfl (fun K hK => ?_) AllReadyF.nil
    rw [if_pos (by rfl)]
    refine wp_store_mid EnT (.tmp 7) (.tmp 15) rfl (w.heap.size) 0 x.cells.toArray rfl rfl (there3 HF1.out (by decide)) HI.out (all_oneCell_toArray (cells_one _)) ?_
    refine hK.out _ _ (HK0.out.next HBS.out) (fun hHeld16 => ?_)
    clear hK K
    (try simp only [Act.put, List.getElem_toArray, List.getElem_cons_succ, List.getElem_cons_zero, List.setIfInBounds_toArray, List.set_cons_zero, List.set_cons_succ])
    refine wpAnyF_ready (rs := [17]) (by kernel_rfl) (by simp) ?_
    refine AllReadyF.cons (o := _) rfl (fun K hK => ?_) AllReadyF.nil
    rw [if_pos (by rfl)]
    refine wp_store_mid EnT (.tmp 8) (.tmp 22) rfl (w.heap.size + 1) 0 y.cells.toArray rfl rfl (there3 H8.out (by decide)) HI.out (all_oneCell_toArray (cells_one _)) ?_
    refine hK.out _ _ (HK0.out.next HBT.out) (fun hHeld17 => ?_)
    clear hK K
    (try simp only [Act.put, List.getElem_toArray, List.getElem_cons_succ, List.getElem_cons_zero, List.setIfInBounds_toArray, List.set_cons_zero, List.set_cons_succ])
    refine wpAnyF_done (by kernel_rfl) ?_ _
    generalize (V0.setCells (w.heap.size) 0 x.cells).setCells (w.heap.size + 1) 0 y.cells = V at HP HBT ⊢
    have HC0 : Hid (∀ W, After V W → W.cell? ⟨g, 0, none⟩ = some (.func (Fn.func 33) #[] #[])) := Lib.hid (fun W hW => HF.out W (Below.trans HBT.out (Below.mono hW HBT.out.size)))
    have HCX : Hid (∀ W, After V W → W.rangeAt (w.heap.size) 0 [.int .i64 x.n, .int .i64 x.m]) := Lib.hid (fun W hW => range2 ((Below.block hW _ (blk_lt HP.out.1)).trans HP.out.1))
    have HCY : Hid (∀ W, After V W → W.rangeAt (w.heap.size + 1) 0 [.int .i64 y.n, .int .i64 y.m]) := Lib.hid (fun W hW => range2 ((Below.block hW _ (blk_lt HP.out.2)).trans HP.out.2))
    have HTX : Hid (∀ W, After V W → W.cell? ⟨w.heap.size, 2, none⟩ = some (.int .u64 (x.t : Int))) := Lib.hid (fun W hW => turn2 ((Below.block hW _ (blk_lt HP.out.1)).trans HP.out.1))
    have HTY : Hid (∀ W, After V W → W.cell? ⟨w.heap.size + 1, 2, none⟩ = some (.int .u64 (y.t : Int))) := Lib.hid (fun W hW => turn2 ((Below.block hW _ (blk_lt HP.out.2)).trans HP.out.2))
    go_wp2_with fail
    refine wp_region_class (After V) (by kernel_rfl) (by kernel_rfl) (After.drew V) ?_
    repeat (first
      | go_big_quiet_skip
      | (go_big_quiet_want; first
        | (with_reducible refine quiet_cell 67 _ rfl _ _ rfl _ _ (fun W h => HC0.out W h) Tryz.underlying67 rfl ?_; (simp only [Act.put, List.setIfInBounds_toArray, List.set_cons_zero, List.set_cons_succ]); go_big_quiet_on)
        | (with_reducible refine quiet_load 61 _ rfl _ _ rfl [.int .i64 x.n, .int .i64 x.m] _ (fun W h => HCX.out W h) Tryz.underlying61 rfl HIX.out ?_; (simp only [Act.put, List.setIfInBounds_toArray, List.set_cons_zero, List.set_cons_succ]); go_big_quiet_on)
        | (with_reducible refine quiet_load 61 _ rfl _ _ rfl [.int .i64 y.n, .int .i64 y.m] _ (fun W h => HCY.out W h) Tryz.underlying61 rfl HIY.out ?_; (simp only [Act.put, List.setIfInBounds_toArray, List.set_cons_zero, List.set_cons_succ]); go_big_quiet_on)
        | (with_reducible refine quiet_cell 91 _ rfl _ _ rfl (.int .u64 (x.t : Int)) _ (fun W h => HTX.out W h) Tryz.underlying91 rfl ?_; (simp only [Act.put, List.setIfInBounds_toArray, List.set_cons_zero, List.set_cons_succ]); go_big_quiet_on)
        | (with_reducible refine quiet_cell 91 _ rfl _ _ rfl (.int .u64 (y.t : Int)) _ (fun W h => HTY.out W h) Tryz.underlying91 rfl ?_; (simp only [Act.put, List.setIfInBounds_toArray, List.set_cons_zero, List.set_cons_succ]); go_big_quiet_on)
        | (go_big_quiet_op; first
          | go_big_quiet_on
          | ((with_reducible refine ⟨_, fun _ _ => rfl, ?_⟩); go_big_quiet_on)
          | ((with_reducible refine ⟨_, fun _ _ => ⟨rfl, rfl⟩, ?_⟩); go_big_quiet_on)
          | ((with_reducible refine ⟨_, fun W hW => calls_after hW (H1.out W), ?_⟩); go_big_quiet_on)
          | ((with_reducible refine ⟨_, fun W hW => calls_after hW (H2.out W), ?_⟩); go_big_quiet_on))))
    refine wpQuiet_nil ?_
    intro W4 hW4
    go_wp2
    go_ret
    exact ⟨by rw [HR.out]; rfl, HBT.out.trans (hW4.mono HBT.out.size)⟩
  · go_simp
    refine hK.out _ _ (HK.out.next HB1.out) (fun hHeld15 => ?_)
    clear hK K
    (try simp only [Act.put, List.getElem_toArray, List.getElem_cons_succ, List.getElem_cons_zero, List.setIfInBounds_toArray, List.set_cons_zero, List.set_cons_succ])
    refine wpAnyF_ready (rs := [14]) (by kernel_rfl) (by simp) ?_
    refine AllReadyF.cons (o := _) rfl (fun K hK => ?_) AllReadyF.nil
    go_simp
    refine hK.out _ _ (HK.out.next HB2.out) (fun hHeld14 => ?_)
    clear hK K
    (try simp only [Act.put, List.getElem_toArray, List.getElem_cons_succ, List.getElem_cons_zero, List.setIfInBounds_toArray, List.set_cons_zero, List.set_cons_succ])
    rw [← HV0.out]
    have HP := Lib.hid (put2 HF2.out HF1.out (by omega) x y)
    have HBS : Hid (Below w.heap.size w (V0.setCells (w.heap.size + 1) 0 x.cells)) := Lib.hid (below_setCells _ _ _ HF3.out (by omega))
    have HBT : Hid (Below w.heap.size w ((V0.setCells (w.heap.size + 1) 0 x.cells).setCells (w.heap.size) 0 y.cells)) := Lib.hid (below_setCells _ _ _ HBS.out (by omega))
    have H8 : Hid ((V0.setCells (w.heap.size + 1) 0 x.cells).heap[w.heap.size]? = some zeroEn) := Lib.hid ((heap_setCells _ _ _ _ _ (by omega)).trans HF1.out)
    refine wpAnyF_ready (rs := [16]) (by kernel_rfl) (by simp) ?_
    refine AllReadyF.cons (o := _) rfl (fun K hK => ?_) AllReadyF.nil
    rw [if_pos (by rfl)]
    refine wp_store_mid EnT (.tmp 7) (.tmp 15) rfl (w.heap.size + 1) 0 x.cells.toArray rfl rfl (there3 HF2.out (by decide)) HI.out (all_oneCell_toArray (cells_one _)) ?_
    refine hK.out _ _ (HK0.out.next HBS.out) (fun hHeld16 => ?_)
    clear hK K
    (try simp only [Act.put, List.getElem_toArray, List.getElem_cons_succ, List.getElem_cons_zero, List.setIfInBounds_toArray, List.set_cons_zero, List.set_cons_succ])
    refine wpAnyF_ready (rs := [17]) (by kernel_rfl) (by simp) ?_
    refine AllReadyF.cons (o := _) rfl (fun K hK => ?_) AllReadyF.nil
    rw [if_pos (by rfl)]
    refine wp_store_mid EnT (.tmp 8) (.tmp 22) rfl (w.heap.size) 0 y.cells.toArray rfl rfl (there3 H8.out (by decide)) HI.out (all_oneCell_toArray (cells_one _)) ?_
    refine hK.out _ _ (HK0.out.next HBT.out) (fun hHeld17 => ?_)
    clear hK K
    (try simp only [Act.put, List.getElem_toArray, List.getElem_cons_succ, List.getElem_cons_zero, List.setIfInBounds_toArray, List.set_cons_zero, List.set_cons_succ])
    refine wpAnyF_done (by kernel_rfl) ?_ _
    generalize (V0.setCells (w.heap.size + 1) 0 x.cells).setCells (w.heap.size) 0 y.cells = V at HP HBT ⊢
    have HC0 : Hid (∀ W, After V W → W.cell? ⟨g, 0, none⟩ = some (.func (Fn.func 33) #[] #[])) := Lib.hid (fun W hW => HF.out W (Below.trans HBT.out (Below.mono hW HBT.out.size)))
    have HCX : Hid (∀ W, After V W → W.rangeAt (w.heap.size + 1) 0 [.int .i64 x.n, .int .i64 x.m]) := Lib.hid (fun W hW => range2 ((Below.block hW _ (blk_lt HP.out.1)).trans HP.out.1))
    have HCY : Hid (∀ W, After V W → W.rangeAt (w.heap.size) 0 [.int .i64 y.n, .int .i64 y.m]) := Lib.hid (fun W hW => range2 ((Below.block hW _ (blk_lt HP.out.2)).trans HP.out.2))
    have HTX : Hid (∀ W, After V W → W.cell? ⟨w.heap.size + 1, 2, none⟩ = some (.int .u64 (x.t : Int))) := Lib.hid (fun W hW => turn2 ((Below.block hW _ (blk_lt HP.out.1)).trans HP.out.1))
    have HTY : Hid (∀ W, After V W → W.cell? ⟨w.heap.size, 2, none⟩ = some (.int .u64 (y.t : Int))) := Lib.hid (fun W hW => turn2 ((Below.block hW _ (blk_lt HP.out.2)).trans HP.out.2))
    go_wp2_with fail
    refine wp_region_class (After V) (by kernel_rfl) (by kernel_rfl) (After.drew V) ?_
    repeat (first
      | go_big_quiet_skip
      | (go_big_quiet_want; first
        | (with_reducible refine quiet_cell 67 _ rfl _ _ rfl _ _ (fun W h => HC0.out W h) Tryz.underlying67 rfl ?_; (simp only [Act.put, List.setIfInBounds_toArray, List.set_cons_zero, List.set_cons_succ]); go_big_quiet_on)
        | (with_reducible refine quiet_load 61 _ rfl _ _ rfl [.int .i64 x.n, .int .i64 x.m] _ (fun W h => HCX.out W h) Tryz.underlying61 rfl HIX.out ?_; (simp only [Act.put, List.setIfInBounds_toArray, List.set_cons_zero, List.set_cons_succ]); go_big_quiet_on)
        | (with_reducible refine quiet_load 61 _ rfl _ _ rfl [.int .i64 y.n, .int .i64 y.m] _ (fun W h => HCY.out W h) Tryz.underlying61 rfl HIY.out ?_; (simp only [Act.put, List.setIfInBounds_toArray, List.set_cons_zero, List.set_cons_succ]); go_big_quiet_on)
        | (with_reducible refine quiet_cell 91 _ rfl _ _ rfl (.int .u64 (x.t : Int)) _ (fun W h => HTX.out W h) Tryz.underlying91 rfl ?_; (simp only [Act.put, List.setIfInBounds_toArray, List.set_cons_zero, List.set_cons_succ]); go_big_quiet_on)
        | (with_reducible refine quiet_cell 91 _ rfl _ _ rfl (.int .u64 (y.t : Int)) _ (fun W h => HTY.out W h) Tryz.underlying91 rfl ?_; (simp only [Act.put, List.setIfInBounds_toArray, List.set_cons_zero, List.set_cons_succ]); go_big_quiet_on)
        | (go_big_quiet_op; first
          | go_big_quiet_on
          | ((with_reducible refine ⟨_, fun _ _ => rfl, ?_⟩); go_big_quiet_on)
          | ((with_reducible refine ⟨_, fun _ _ => ⟨rfl, rfl⟩, ?_⟩); go_big_quiet_on)
          | ((with_reducible refine ⟨_, fun W hW => calls_after hW (H1.out W), ?_⟩); go_big_quiet_on)
          | ((with_reducible refine ⟨_, fun W hW => calls_after hW (H2.out W), ?_⟩); go_big_quiet_on))))
    refine wpQuiet_nil ?_
    intro W4 hW4
    go_wp2
    go_ret
    exact ⟨by rw [HR.out]; rfl, HBT.out.trans (hW4.mono HBT.out.size)⟩
set_option maxHeartbeats 2000000 in
set_option maxRecDepth 100000 in
theorem rowless_3 (g i j b cap n : Nat) (x y : En) (w : World) (k1 : LS g b n cap i j x y w) (k0 : w.cell? ⟨g, 0, none⟩ = some (.func (Fn.func 33) #[] #[])) (hi : i < n) (hj : j < n) (hm : n ≤ 1000000000) (q : Bool) (c1 : kLt x y = false) (c2 : decide (x.t < y.t) = true) (c3 : kLt y x = q) :
    Calls Tryz.prog 116 #[.pointer (some ⟨g, 0, none⟩), .int .i64 (i : Int), .int .i64 (j : Int)] w fun e w' => e = .returned (.bool (enLt x y)) ∧ Below w.heap.size w w' := by
  have HK := Lib.hid (show LS g b n cap i j x y w.drew from k1)
  have HK0 := Lib.hid k1
  have HI := Lib.hid info_en
  have HIX := Lib.hid (info_th2 x)
  have HIY := Lib.hid (info_th2 y)
  obtain ⟨V0, hV0, f1, f2, f3⟩ := new2 w
  have HV0 := Lib.hid hV0
  have HF1 := Lib.hid f1
  have HF2 := Lib.hid f2
  have HF3 := Lib.hid f3
  have HKV : Hid (LS g b n cap i j x y V0) := Lib.hid (k1.next f3)
  clear hV0 f1 f2 f3
  have HB1 : Hid (Below w.drew.heap.size w.drew (w.drew.alloc zeroEn)) := Lib.hid ((Below.refl _ _).alloc (Nat.le_refl _) _)
  have HB2 : Hid (Below w.drew.heap.size w.drew ((w.drew.alloc zeroEn).alloc zeroEn)) := Lib.hid (((Below.refl _ _).alloc (Nat.le_refl _) _).alloc (by simp) _)
  have hpost : ∀ p : Bool, Hid (enLt x y = p) → True := fun _ _ => trivial
  clear hpost k1
  have HF : Hid (∀ W, After w W → W.cell? ⟨g, 0, none⟩ = some (.func (Fn.func 33) #[] #[])) := Lib.hid (fun W hW => cell_next k0 hW)
  clear k0
  have H1 := Lib.hid (lessY x y c1)
  have H2 := Lib.hid (lessY y x c3)
  have HR : Hid (enLt x y = !q) := Lib.hid (by unfold enLt; rw [c1, c2, c3]; rfl)
  have c2b : decide ((x.t : Int) < (y.t : Int)) = true := by rw [decide_eq_true_eq] at c2 ⊢; omega
  clear c1 c3
  go_enter Tryz.func116, Tryz.ntmps116
  go_wp2_with fail
  refine wp_region_F (S := LS g b n cap i j x y) [] (by kernel_rfl) HK.out (fun hHeld => ?_)
  refine wpAnyF_take (i := 0) (oi := _) (v := ?_) rfl (by kernel_rfl) (by kernel_rfl) (by kernel_rfl) (by kernel_rfl) (fun _ _ _ h => h) (Or.inl ⟨by rfl, ?_⟩) (by assumption) ?_
  rotate_left 1
  · intro w hSw
    simp only [LS] at hSw
    (first | (go_simp; done) | (go_simp; with_reducible rfl))
  (try simp only [Act.put, List.getElem_toArray, List.getElem_cons_succ, List.getElem_cons_zero, List.setIfInBounds_toArray, List.set_cons_zero, List.set_cons_succ])
  refine wpAnyF_take (i := 1) (oi := _) (v := ?_) rfl (by kernel_rfl) (by kernel_rfl) (by kernel_rfl) (by kernel_rfl) (fun _ _ _ h => h) (Or.inl ⟨by rfl, ?_⟩) (by assumption) ?_
  rotate_left 1
  · intro w hSw
    simp only [LS] at hSw
    (first | (go_simp; done) | (go_simp; with_reducible rfl))
  (try simp only [Act.put, List.getElem_toArray, List.getElem_cons_succ, List.getElem_cons_zero, List.setIfInBounds_toArray, List.set_cons_zero, List.set_cons_succ])
  refine wpAnyF_take (i := 2) (oi := _) (v := ?_) rfl (by kernel_rfl) (by kernel_rfl) (by kernel_rfl) (by kernel_rfl) (fun _ _ _ h => h) (Or.inl ⟨by rfl, ?_⟩) (by assumption) ?_
  rotate_left 1
  · intro w hSw
    simp only [LS] at hSw
    (first | (go_simp; done) | (go_simp; with_reducible rfl))
  (try simp only [Act.put, List.getElem_toArray, List.getElem_cons_succ, List.getElem_cons_zero, List.setIfInBounds_toArray, List.set_cons_zero, List.set_cons_succ])
  refine wpAnyF_take (i := 3) (oi := _) (v := ?_) rfl (by kernel_rfl) (by kernel_rfl) (by kernel_rfl) (by kernel_rfl) (fun _ _ _ h => h) (Or.inl ⟨by rfl, ?_⟩) (by assumption) ?_
  rotate_left 1
  · intro w hSw
    simp only [LS] at hSw
    (first | (go_simp; done) | (go_simp; with_reducible rfl))
  (try simp only [Act.put, List.getElem_toArray, List.getElem_cons_succ, List.getElem_cons_zero, List.setIfInBounds_toArray, List.set_cons_zero, List.set_cons_succ])
  refine wpAnyF_take (i := 4) (oi := _) (v := ?_) rfl (by kernel_rfl) (by kernel_rfl) (by kernel_rfl) (by kernel_rfl) (fun _ _ _ h => h) (Or.inl ⟨by rfl, ?_⟩) (by assumption) ?_
  rotate_left 1
  · intro w hSw
    simp only [LS] at hSw
    (first | (go_simp; done) | (go_simp; with_reducible rfl))
  (try simp only [Act.put, List.getElem_toArray, List.getElem_cons_succ, List.getElem_cons_zero, List.setIfInBounds_toArray, List.set_cons_zero, List.set_cons_succ])
  refine wpAnyF_take (i := 5) (oi := _) (v := ?_) rfl (by kernel_rfl) (by kernel_rfl) (by kernel_rfl) (by kernel_rfl) (fun _ _ _ h => h) (Or.inl ⟨by rfl, ?_⟩) (by assumption) ?_
  rotate_left 1
  · intro w hSw
    simp only [LS] at hSw
    (first | (go_simp; done) | (go_simp; with_reducible rfl))
  (try simp only [Act.put, List.getElem_toArray, List.getElem_cons_succ, List.getElem_cons_zero, List.setIfInBounds_toArray, List.set_cons_zero, List.set_cons_succ])
  refine wpAnyF_take (i := 6) (oi := _) (v := ?_) rfl (by kernel_rfl) (by kernel_rfl) (by kernel_rfl) (by kernel_rfl) (fun _ _ _ h => h) (Or.inl ⟨by rfl, ?_⟩) (by assumption) ?_
  rotate_left 1
  · intro w hSw
    simp only [LS] at hSw
    (first | (go_simp; done) | (go_simp; with_reducible rfl))
  (try simp only [Act.put, List.getElem_toArray, List.getElem_cons_succ, List.getElem_cons_zero, List.setIfInBounds_toArray, List.set_cons_zero, List.set_cons_succ])
  refine wpAnyF_take (i := 7) (oi := _) (v := ?_) rfl (by kernel_rfl) (by kernel_rfl) (by kernel_rfl) (by kernel_rfl) (fun _ _ _ h => h) (Or.inl ⟨by rfl, ?_⟩) (by assumption) ?_
  rotate_left 1
  · intro w hSw
    simp only [LS] at hSw
    (first | (go_simp; done) | (go_simp; with_reducible rfl))
  (try simp only [Act.put, List.getElem_toArray, List.getElem_cons_succ, List.getElem_cons_zero, List.setIfInBounds_toArray, List.set_cons_zero, List.set_cons_succ])
  refine wpAnyF_take (i := 8) (oi := _) (v := ?_) rfl (by kernel_rfl) (by kernel_rfl) (by kernel_rfl) (by kernel_rfl) (fun _ _ _ h => h) (Or.inl ⟨by rfl, ?_⟩) (by assumption) ?_
  rotate_left 1
  · intro w hSw
    simp only [LS] at hSw
    (first | (go_simp; done) | (go_simp; with_reducible rfl))
  (try simp only [Act.put, List.getElem_toArray, List.getElem_cons_succ, List.getElem_cons_zero, List.setIfInBounds_toArray, List.set_cons_zero, List.set_cons_succ])
  refine wpAnyF_take (i := 9) (oi := _) (v := ?_) rfl (by kernel_rfl) (by kernel_rfl) (by kernel_rfl) (by kernel_rfl) (fun _ _ _ h => h) (Or.inl ⟨by rfl, ?_⟩) (by assumption) ?_
  rotate_left 1
  · intro w hSw
    simp only [LS] at hSw
    (first | (go_simp; done) | (go_simp; with_reducible rfl))
  (try simp only [Act.put, List.getElem_toArray, List.getElem_cons_succ, List.getElem_cons_zero, List.setIfInBounds_toArray, List.set_cons_zero, List.set_cons_succ])
  refine wpAnyF_take (i := 10) (oi := _) (v := ?_) rfl (by kernel_rfl) (by kernel_rfl) (by kernel_rfl) (by kernel_rfl) (fun _ _ _ h => h) (Or.inl ⟨by rfl, ?_⟩) (by assumption) ?_
  rotate_left 1
  · intro w hSw
    simp only [LS] at hSw
    (first | (go_simp; done) | (go_simp; with_reducible rfl))
  (try simp only [Act.put, List.getElem_toArray, List.getElem_cons_succ, List.getElem_cons_zero, List.setIfInBounds_toArray, List.set_cons_zero, List.set_cons_succ])
  refine wpAnyF_take (i := 11) (oi := _) (v := ?_) rfl (by kernel_rfl) (by kernel_rfl) (by kernel_rfl) (by kernel_rfl) (fun _ _ _ h => h) (Or.inl ⟨by rfl, ?_⟩) (by assumption) ?_
  rotate_left 1
  · intro w hSw
    simp only [LS] at hSw
    (first | (go_simp; done) | (go_simp; with_reducible rfl))
  (try simp only [Act.put, List.getElem_toArray, List.getElem_cons_succ, List.getElem_cons_zero, List.setIfInBounds_toArray, List.set_cons_zero, List.set_cons_succ])
  refine wpAnyF_take (i := 12) (oi := _) (v := ?_) rfl (by kernel_rfl) (by kernel_rfl) (by kernel_rfl) (by kernel_rfl) (fun _ _ _ h => h) (Or.inl ⟨by rfl, ?_⟩) (by assumption) ?_
  rotate_left 1
  · intro w hSw
    simp only [LS] at hSw
    (first | (go_simp; done) | (go_simp; with_reducible rfl))
  (try simp only [Act.put, List.getElem_toArray, List.getElem_cons_succ, List.getElem_cons_zero, List.setIfInBounds_toArray, List.set_cons_zero, List.set_cons_succ])
  refine wpAnyF_take (i := 13) (oi := _) (v := ?_) rfl (by kernel_rfl) (by kernel_rfl) (by kernel_rfl) (by kernel_rfl) (fun _ _ _ h => h) (Or.inl ⟨by rfl, ?_⟩) (by assumption) ?_
  rotate_left 1
  · intro w hSw
    simp only [LS] at hSw
    (first | (go_simp; done) | (go_simp; with_reducible rfl))
  (try simp only [Act.put, List.getElem_toArray, List.getElem_cons_succ, List.getElem_cons_zero, List.setIfInBounds_toArray, List.set_cons_zero, List.set_cons_succ])
  refine wpAnyF_ready (rs := [14, 15]) (by kernel_rfl) (by simp) ?_
  refine AllReadyF.cons (o := _) rfl (fun K hK => ?_) (AllReadyF.cons (o := _) rfl (fun K hK => ?_) AllReadyF.nil)
  · go_simp
    refine hK.out _ _ (HK.out.next HB1.out) (fun hHeld14 => ?_)
    clear hK K
    (try simp only [Act.put, List.getElem_toArray, List.getElem_cons_succ, List.getElem_cons_zero, List.setIfInBounds_toArray, List.set_cons_zero, List.set_cons_succ])
    refine wpAnyF_ready (rs := [15]) (by kernel_rfl) (by simp) ?_
    refine AllReadyF.cons (o := _) rfl (fun K hK => ?_) AllReadyF.nil
    go_simp
    refine hK.out _ _ (HK.out.next HB2.out) (fun hHeld15 => ?_)
    clear hK K
    (try simp only [Act.put, List.getElem_toArray, List.getElem_cons_succ, List.getElem_cons_zero, List.setIfInBounds_toArray, List.set_cons_zero, List.set_cons_succ])
    rw [← HV0.out]
    have HP := Lib.hid (put2 HF1.out HF2.out (by omega) x y)
    have HBS : Hid (Below w.heap.size w (V0.setCells (w.heap.size) 0 x.cells)) := Lib.hid (below_setCells _ _ _ HF3.out (by omega))
    have HBT : Hid (Below w.heap.size w ((V0.setCells (w.heap.size) 0 x.cells).setCells (w.heap.size + 1) 0 y.cells)) := Lib.hid (below_setCells _ _ _ HBS.out (by omega))
    have H8 : Hid ((V0.setCells (w.heap.size) 0 x.cells).heap[w.heap.size + 1]? = some zeroEn) := Lib.hid ((heap_setCells _ _ _ _ _ (by omega)).trans HF2.out)
    refine wpAnyF_ready (rs := [16]) (by kernel_rfl) (by simp) ?_
    refine AllReadyF.cons (o := _) rfl (fun K hK => ?_) AllReadyF.nil
    rw [if_pos (by rfl)]
    refine wp_store_mid EnT (.tmp 7) (.tmp 15) rfl (w.heap.size) 0 x.cells.toArray rfl rfl (there3 HF1.out (by decide)) HI.out (all_oneCell_toArray (cells_one _)) ?_
    refine hK.out _ _ (HK0.out.next HBS.out) (fun hHeld16 => ?_)
    clear hK K
    (try simp only [Act.put, List.getElem_toArray, List.getElem_cons_succ, List.getElem_cons_zero, List.setIfInBounds_toArray, List.set_cons_zero, List.set_cons_succ])
    refine wpAnyF_ready (rs := [17]) (by kernel_rfl) (by simp) ?_
    refine AllReadyF.cons (o := _) rfl (fun K hK => ?_) AllReadyF.nil
    rw [if_pos (by rfl)]
    refine wp_store_mid EnT (.tmp 8) (.tmp 22) rfl (w.heap.size + 1) 0 y.cells.toArray rfl rfl (there3 H8.out (by decide)) HI.out (all_oneCell_toArray (cells_one _)) ?_
    refine hK.out _ _ (HK0.out.next HBT.out) (fun hHeld17 => ?_)
    clear hK K
    (try simp only [Act.put, List.getElem_toArray, List.getElem_cons_succ, List.getElem_cons_zero, List.setIfInBounds_toArray, List.set_cons_zero, List.set_cons_succ])
    refine wpAnyF_done (by kernel_rfl) ?_ _
    generalize (V0.setCells (w.heap.size) 0 x.cells).setCells (w.heap.size + 1) 0 y.cells = V at HP HBT ⊢
    have HC0 : Hid (∀ W, After V W → W.cell? ⟨g, 0, none⟩ = some (.func (Fn.func 33) #[] #[])) := Lib.hid (fun W hW => HF.out W (Below.trans HBT.out (Below.mono hW HBT.out.size)))
    have HCX : Hid (∀ W, After V W → W.rangeAt (w.heap.size) 0 [.int .i64 x.n, .int .i64 x.m]) := Lib.hid (fun W hW => range2 ((Below.block hW _ (blk_lt HP.out.1)).trans HP.out.1))
    have HCY : Hid (∀ W, After V W → W.rangeAt (w.heap.size + 1) 0 [.int .i64 y.n, .int .i64 y.m]) := Lib.hid (fun W hW => range2 ((Below.block hW _ (blk_lt HP.out.2)).trans HP.out.2))
    have HTX : Hid (∀ W, After V W → W.cell? ⟨w.heap.size, 2, none⟩ = some (.int .u64 (x.t : Int))) := Lib.hid (fun W hW => turn2 ((Below.block hW _ (blk_lt HP.out.1)).trans HP.out.1))
    have HTY : Hid (∀ W, After V W → W.cell? ⟨w.heap.size + 1, 2, none⟩ = some (.int .u64 (y.t : Int))) := Lib.hid (fun W hW => turn2 ((Below.block hW _ (blk_lt HP.out.2)).trans HP.out.2))
    go_wp2_with fail
    refine wp_region_class (After V) (by kernel_rfl) (by kernel_rfl) (After.drew V) ?_
    repeat (first
      | go_big_quiet_skip
      | (go_big_quiet_want; first
        | (with_reducible refine quiet_cell 67 _ rfl _ _ rfl _ _ (fun W h => HC0.out W h) Tryz.underlying67 rfl ?_; (simp only [Act.put, List.setIfInBounds_toArray, List.set_cons_zero, List.set_cons_succ]); go_big_quiet_on)
        | (with_reducible refine quiet_load 61 _ rfl _ _ rfl [.int .i64 x.n, .int .i64 x.m] _ (fun W h => HCX.out W h) Tryz.underlying61 rfl HIX.out ?_; (simp only [Act.put, List.setIfInBounds_toArray, List.set_cons_zero, List.set_cons_succ]); go_big_quiet_on)
        | (with_reducible refine quiet_load 61 _ rfl _ _ rfl [.int .i64 y.n, .int .i64 y.m] _ (fun W h => HCY.out W h) Tryz.underlying61 rfl HIY.out ?_; (simp only [Act.put, List.setIfInBounds_toArray, List.set_cons_zero, List.set_cons_succ]); go_big_quiet_on)
        | (with_reducible refine quiet_cell 91 _ rfl _ _ rfl (.int .u64 (x.t : Int)) _ (fun W h => HTX.out W h) Tryz.underlying91 rfl ?_; (simp only [Act.put, List.setIfInBounds_toArray, List.set_cons_zero, List.set_cons_succ]); go_big_quiet_on)
        | (with_reducible refine quiet_cell 91 _ rfl _ _ rfl (.int .u64 (y.t : Int)) _ (fun W h => HTY.out W h) Tryz.underlying91 rfl ?_; (simp only [Act.put, List.setIfInBounds_toArray, List.set_cons_zero, List.set_cons_succ]); go_big_quiet_on)
        | (go_big_quiet_op; first
          | go_big_quiet_on
          | ((with_reducible refine ⟨_, fun _ _ => rfl, ?_⟩); go_big_quiet_on)
          | ((with_reducible refine ⟨_, fun _ _ => ⟨rfl, rfl⟩, ?_⟩); go_big_quiet_on)
          | ((with_reducible refine ⟨_, fun W hW => calls_after hW (H1.out W), ?_⟩); go_big_quiet_on)
          | ((with_reducible refine ⟨_, fun W hW => calls_after hW (H2.out W), ?_⟩); go_big_quiet_on))))
    refine wpQuiet_nil ?_
    intro W4 hW4
    go_wp2
    go_ret
    exact ⟨by rw [HR.out]; rfl, HBT.out.trans (hW4.mono HBT.out.size)⟩
  · go_simp
    refine hK.out _ _ (HK.out.next HB1.out) (fun hHeld15 => ?_)
    clear hK K
    (try simp only [Act.put, List.getElem_toArray, List.getElem_cons_succ, List.getElem_cons_zero, List.setIfInBounds_toArray, List.set_cons_zero, List.set_cons_succ])
    refine wpAnyF_ready (rs := [14]) (by kernel_rfl) (by simp) ?_
    refine AllReadyF.cons (o := _) rfl (fun K hK => ?_) AllReadyF.nil
    go_simp
    refine hK.out _ _ (HK.out.next HB2.out) (fun hHeld14 => ?_)
    clear hK K
    (try simp only [Act.put, List.getElem_toArray, List.getElem_cons_succ, List.getElem_cons_zero, List.setIfInBounds_toArray, List.set_cons_zero, List.set_cons_succ])
    rw [← HV0.out]
    have HP := Lib.hid (put2 HF2.out HF1.out (by omega) x y)
    have HBS : Hid (Below w.heap.size w (V0.setCells (w.heap.size + 1) 0 x.cells)) := Lib.hid (below_setCells _ _ _ HF3.out (by omega))
    have HBT : Hid (Below w.heap.size w ((V0.setCells (w.heap.size + 1) 0 x.cells).setCells (w.heap.size) 0 y.cells)) := Lib.hid (below_setCells _ _ _ HBS.out (by omega))
    have H8 : Hid ((V0.setCells (w.heap.size + 1) 0 x.cells).heap[w.heap.size]? = some zeroEn) := Lib.hid ((heap_setCells _ _ _ _ _ (by omega)).trans HF1.out)
    refine wpAnyF_ready (rs := [16]) (by kernel_rfl) (by simp) ?_
    refine AllReadyF.cons (o := _) rfl (fun K hK => ?_) AllReadyF.nil
    rw [if_pos (by rfl)]
    refine wp_store_mid EnT (.tmp 7) (.tmp 15) rfl (w.heap.size + 1) 0 x.cells.toArray rfl rfl (there3 HF2.out (by decide)) HI.out (all_oneCell_toArray (cells_one _)) ?_
    refine hK.out _ _ (HK0.out.next HBS.out) (fun hHeld16 => ?_)
    clear hK K
    (try simp only [Act.put, List.getElem_toArray, List.getElem_cons_succ, List.getElem_cons_zero, List.setIfInBounds_toArray, List.set_cons_zero, List.set_cons_succ])
    refine wpAnyF_ready (rs := [17]) (by kernel_rfl) (by simp) ?_
    refine AllReadyF.cons (o := _) rfl (fun K hK => ?_) AllReadyF.nil
    rw [if_pos (by rfl)]
    refine wp_store_mid EnT (.tmp 8) (.tmp 22) rfl (w.heap.size) 0 y.cells.toArray rfl rfl (there3 H8.out (by decide)) HI.out (all_oneCell_toArray (cells_one _)) ?_
    refine hK.out _ _ (HK0.out.next HBT.out) (fun hHeld17 => ?_)
    clear hK K
    (try simp only [Act.put, List.getElem_toArray, List.getElem_cons_succ, List.getElem_cons_zero, List.setIfInBounds_toArray, List.set_cons_zero, List.set_cons_succ])
    refine wpAnyF_done (by kernel_rfl) ?_ _
    generalize (V0.setCells (w.heap.size + 1) 0 x.cells).setCells (w.heap.size) 0 y.cells = V at HP HBT ⊢
    have HC0 : Hid (∀ W, After V W → W.cell? ⟨g, 0, none⟩ = some (.func (Fn.func 33) #[] #[])) := Lib.hid (fun W hW => HF.out W (Below.trans HBT.out (Below.mono hW HBT.out.size)))
    have HCX : Hid (∀ W, After V W → W.rangeAt (w.heap.size + 1) 0 [.int .i64 x.n, .int .i64 x.m]) := Lib.hid (fun W hW => range2 ((Below.block hW _ (blk_lt HP.out.1)).trans HP.out.1))
    have HCY : Hid (∀ W, After V W → W.rangeAt (w.heap.size) 0 [.int .i64 y.n, .int .i64 y.m]) := Lib.hid (fun W hW => range2 ((Below.block hW _ (blk_lt HP.out.2)).trans HP.out.2))
    have HTX : Hid (∀ W, After V W → W.cell? ⟨w.heap.size + 1, 2, none⟩ = some (.int .u64 (x.t : Int))) := Lib.hid (fun W hW => turn2 ((Below.block hW _ (blk_lt HP.out.1)).trans HP.out.1))
    have HTY : Hid (∀ W, After V W → W.cell? ⟨w.heap.size, 2, none⟩ = some (.int .u64 (y.t : Int))) := Lib.hid (fun W hW => turn2 ((Below.block hW _ (blk_lt HP.out.2)).trans HP.out.2))
    go_wp2_with fail
    refine wp_region_class (After V) (by kernel_rfl) (by kernel_rfl) (After.drew V) ?_
    repeat (first
      | go_big_quiet_skip
      | (go_big_quiet_want; first
        | (with_reducible refine quiet_cell 67 _ rfl _ _ rfl _ _ (fun W h => HC0.out W h) Tryz.underlying67 rfl ?_; (simp only [Act.put, List.setIfInBounds_toArray, List.set_cons_zero, List.set_cons_succ]); go_big_quiet_on)
        | (with_reducible refine quiet_load 61 _ rfl _ _ rfl [.int .i64 x.n, .int .i64 x.m] _ (fun W h => HCX.out W h) Tryz.underlying61 rfl HIX.out ?_; (simp only [Act.put, List.setIfInBounds_toArray, List.set_cons_zero, List.set_cons_succ]); go_big_quiet_on)
        | (with_reducible refine quiet_load 61 _ rfl _ _ rfl [.int .i64 y.n, .int .i64 y.m] _ (fun W h => HCY.out W h) Tryz.underlying61 rfl HIY.out ?_; (simp only [Act.put, List.setIfInBounds_toArray, List.set_cons_zero, List.set_cons_succ]); go_big_quiet_on)
        | (with_reducible refine quiet_cell 91 _ rfl _ _ rfl (.int .u64 (x.t : Int)) _ (fun W h => HTX.out W h) Tryz.underlying91 rfl ?_; (simp only [Act.put, List.setIfInBounds_toArray, List.set_cons_zero, List.set_cons_succ]); go_big_quiet_on)
        | (with_reducible refine quiet_cell 91 _ rfl _ _ rfl (.int .u64 (y.t : Int)) _ (fun W h => HTY.out W h) Tryz.underlying91 rfl ?_; (simp only [Act.put, List.setIfInBounds_toArray, List.set_cons_zero, List.set_cons_succ]); go_big_quiet_on)
        | (go_big_quiet_op; first
          | go_big_quiet_on
          | ((with_reducible refine ⟨_, fun _ _ => rfl, ?_⟩); go_big_quiet_on)
          | ((with_reducible refine ⟨_, fun _ _ => ⟨rfl, rfl⟩, ?_⟩); go_big_quiet_on)
          | ((with_reducible refine ⟨_, fun W hW => calls_after hW (H1.out W), ?_⟩); go_big_quiet_on)
          | ((with_reducible refine ⟨_, fun W hW => calls_after hW (H2.out W), ?_⟩); go_big_quiet_on))))
    refine wpQuiet_nil ?_
    intro W4 hW4
    go_wp2
    go_ret
    exact ⟨by rw [HR.out]; rfl, HBT.out.trans (hW4.mono HBT.out.size)⟩
theorem rowless_any (g i j b cap n : Nat) (x y : En) (w : World) (k1 : LS g b n cap i j x y w) (k0 : w.cell? ⟨g, 0, none⟩ = some (.func (Fn.func 33) #[] #[])) (hi : i < n) (hj : j < n) (hm : n ≤ 1000000000) :
    Calls Tryz.prog 116 #[.pointer (some ⟨g, 0, none⟩), .int .i64 (i : Int), .int .i64 (j : Int)] w fun e w' => e = .returned (.bool (enLt x y)) ∧ Below w.heap.size w w' := by
  cases c1 : kLt x y
  · cases c2 : decide (x.t < y.t)
    · exact rowless_2 g i j b cap n x y w k1 k0 hi hj hm c1 c2
    · exact rowless_3 g i j b cap n x y w k1 k0 hi hj hm _ c1 c2 rfl
  · exact rowless_1 g i j b cap n x y w k1 k0 hi hj hm c1
end
end Go.Proofs.YtoclelpmampikaaGreat
