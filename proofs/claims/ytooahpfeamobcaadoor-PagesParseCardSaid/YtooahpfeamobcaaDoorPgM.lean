/-
  Pages as values, and what the chapter says of rows of them. No program is named here.
-/
import Derived.KernelRfl
namespace Go.Proofs.YtooahpfeamobcaaDoor
open Go
set_option linter.unusedVariables false
set_option linter.unusedSimpArgs false
structure Pg where
  k : Int
  c : Int
  r : Int
  s : Int
  n : Int
theorem Pg.ext' {p q : Pg} (h1 : p.k = q.k) (h2 : p.c = q.c) (h3 : p.r = q.r) (h4 : p.s = q.s) (h5 : p.n = q.n) : p = q := by
  cases p; cases q; simp_all
abbrev pz : Pg := ⟨0, 0, 0, 0, 0⟩
abbrev ptl : Pg := ⟨3, 0, 0, 0, 0⟩
def eqP (p q : Pg) : Bool := p.k == q.k && (p.c == q.c && (p.r == q.r && (p.s == q.s && p.n == q.n)))
theorem eqP_iff (p q : Pg) : eqP p q = true ↔ p = q := by
  unfold eqP
  constructor
  · intro h
    simp only [Bool.and_eq_true, beq_iff_eq] at h
    exact Pg.ext' h.1 h.2.1 h.2.2.1 h.2.2.2.1 h.2.2.2.2
  · rintro rfl; simp
def isZ (p : Pg) : Bool := eqP p pz
def isT (p : Pg) : Bool := eqP p ptl
def isS (p : Pg) : Bool := decide (p.k = 1 ∧ 0 ≤ p.c ∧ p.c < 8 ∧ p.r = 0 ∧ p.s = 0 ∧ p.n = 0)
def isH (p : Pg) : Bool := decide (p.k = 2 ∧ p.c = 0 ∧ 121 ≤ p.s ∧ p.s ≤ 4096 ∧ p.r = (p.s + 255) / 256 ∧ 1 ≤ p.n ∧ p.n < 281474976710656)
def oneP (p : Pg) : Bool := isZ p || isT p || isS p || isH p
theorem isZ_iff {p : Pg} : isZ p = true ↔ p = pz := eqP_iff _ _
theorem isT_iff {p : Pg} : isT p = true ↔ p = ptl := eqP_iff _ _
theorem isS_iff {p : Pg} : isS p = true ↔ (p.k = 1 ∧ 0 ≤ p.c ∧ p.c < 8 ∧ p.r = 0 ∧ p.s = 0 ∧ p.n = 0) := by unfold isS; exact decide_eq_true_iff
theorem isH_iff {p : Pg} : isH p = true ↔ (p.k = 2 ∧ p.c = 0 ∧ 121 ≤ p.s ∧ p.s ≤ 4096 ∧ p.r = (p.s + 255) / 256 ∧ 1 ≤ p.n ∧ p.n < 281474976710656) := by unfold isH; exact decide_eq_true_iff
theorem oneP_iff {p : Pg} : oneP p = true ↔ (p = pz ∨ p = ptl ∨ (p.k = 1 ∧ 0 ≤ p.c ∧ p.c < 8 ∧ p.r = 0 ∧ p.s = 0 ∧ p.n = 0) ∨ (p.k = 2 ∧ p.c = 0 ∧ 121 ≤ p.s ∧ p.s ≤ 4096 ∧ p.r = (p.s + 255) / 256 ∧ 1 ≤ p.n ∧ p.n < 281474976710656)) := by
  unfold oneP
  rw [Bool.or_eq_true, Bool.or_eq_true, Bool.or_eq_true, isZ_iff, isT_iff, isS_iff, isH_iff, or_assoc, or_assoc]
theorem isZ_isT {p : Pg} (h : isZ p = true) : isT p = false := by
  rw [isZ_iff] at h; subst h; rfl
/-- a page that is one: its Run -/
theorem one_run {p : Pg} (h : oneP p = true) : 0 ≤ p.r ∧ p.r ≤ 16 ∧ (p.k ≠ 2 → p.r = 0) ∧ (p.k = 2 → 1 ≤ p.r) ∧ (p.k = 3 ↔ isT p = true) := by
  rw [isT_iff]
  rw [oneP_iff] at h
  rcases h with rfl | rfl | h | h
  · refine ⟨by decide, by decide, fun _ => rfl, fun h => absurd h (by decide), fun h => absurd h (by decide), ?_⟩
    intro h; injection h with h
  · exact ⟨by decide, by decide, fun _ => rfl, fun h => absurd h (by decide), fun _ => rfl, fun _ => rfl⟩
  · refine ⟨by omega, by omega, by omega, by omega, by omega, ?_⟩
    rintro rfl; simp at h
  · refine ⟨by omega, by omega, by omega, by omega, by omega, ?_⟩
    rintro rfl; simp at h
/-- how many pages stand ahead of the first one that is not so -/
def leadF (f : Pg → Bool) : List Pg → Nat
  | [] => 0
  | p :: r => if f p then leadF f r + 1 else 0
theorem leadF_le (f : Pg → Bool) : ∀ l, leadF f l ≤ l.length
  | [] => Nat.le_refl _
  | p :: r => by
    unfold leadF; split
    · have := leadF_le f r; simp; omega
    · simp
theorem leadF_all (f : Pg → Bool) : ∀ l, (leadF f l = l.length ↔ l.all f = true)
  | [] => by simp [leadF]
  | p :: r => by
    have := leadF_all f r
    unfold leadF
    cases h : f p
    · simp [h]
    · simp [h, this]
theorem leadF_take (f : Pg → Bool) : ∀ l k, k ≤ leadF f l → (l.take k).all f = true
  | [], k, _ => by simp
  | p :: r, 0, _ => by simp
  | p :: r, k + 1, h => by
    unfold leadF at h
    cases hp : f p
    · simp [hp] at h
    · rw [hp] at h
      simp only [if_true] at h
      rw [List.take_succ_cons, List.all_cons, hp, leadF_take f r k (by omega)]; rfl
theorem leadF_get (f : Pg → Bool) : ∀ l (k : Nat), k < leadF f l → f (l.getD k pz) = true
  | [], k, h => by simp [leadF] at h
  | p :: r, 0, h => by
    unfold leadF at h
    cases hp : f p
    · simp [hp] at h
    · exact hp
  | p :: r, k + 1, h => by
    unfold leadF at h
    cases hp : f p
    · simp [hp] at h
    · rw [hp] at h
      simp only [if_true] at h
      exact leadF_get f r k (by omega)
theorem leadF_stop (f : Pg → Bool) : ∀ l, leadF f l < l.length → f (l.getD (leadF f l) pz) = false
  | [], h => by simp at h
  | p :: r, h => by
    unfold leadF at h ⊢
    cases hp : f p
    · simpa using hp
    · rw [hp] at h
      simp only [if_true, List.length_cons] at h ⊢
      exact leadF_stop f r (by omega)
/-- the Tails that are still to come, behind these pages; none: they do not fit -/
def fitS : Nat → List Pg → Option Nat
  | d, [] => some d
  | d, p :: r => if isT p = decide (0 < d) then fitS (max (max d p.r.toNat) 1 - 1) r else none
theorem fitS_cons (d : Nat) (p : Pg) (r : List Pg) : fitS d (p :: r) = if isT p = decide (0 < d) then fitS (max (max d p.r.toNat) 1 - 1) r else none := rfl
theorem fitS_app : ∀ (a : List Pg) (d : Nat) (b : List Pg), fitS d (a ++ b) = (fitS d a).bind fun d' => fitS d' b
  | [], d, b => rfl
  | p :: r, d, b => by
    show fitS d (p :: (r ++ b)) = _
    rw [fitS_cons, fitS_cons]
    split
    · exact fitS_app r _ b
    · rfl
def okL (l : List Pg) : Bool := l.all oneP && (fitS 0 l == some 0)
theorem okL_iff {l : List Pg} : okL l = true ↔ l.all oneP = true ∧ fitS 0 l = some 0 := by unfold okL; rw [Bool.and_eq_true, beq_iff_eq]
/-- pages may be -/
def mayL (l : List Pg) : Bool := decide (l.length ≤ 64) && okL l
theorem mayL_iff {l : List Pg} : mayL l = true ↔ l.length ≤ 64 ∧ l.all oneP = true ∧ fitS 0 l = some 0 := by unfold mayL; rw [Bool.and_eq_true, decide_eq_true_iff, okL_iff]
/-- d Tails that are to come: they come, and then the rest fits -/
theorem fitS_tails : ∀ (d : Nat) (l : List Pg), fitS d l = some 0 ↔ d ≤ l.length ∧ (l.take d).all isT = true ∧ fitS 0 (l.drop d) = some 0
  | 0, l => by simp
  | d + 1, [] => by simp [fitS]
  | d + 1, p :: r => by
    rw [fitS_cons]
    have h0 : decide (0 < d + 1) = true := by simp
    rw [h0]
    cases hp : isT p
    · simp [hp]
    · have hr : p.r = 0 := by rw [isT_iff.1 hp]
      rw [hr]
      have h1 : max (max (d + 1) (0 : Int).toNat) 1 - 1 = d := by simp
      rw [h1, if_pos rfl, fitS_tails d r]
      simp [hp]
/-- one page of pages that may be -/
theorem okL_cons {p : Pg} {r : List Pg} : okL (p :: r) = true ↔ oneP p = true ∧ p.k ≠ 3 ∧ (max p.r 1 - 1).toNat ≤ r.length ∧ (r.take (max p.r 1 - 1).toNat).all isT = true ∧ okL (r.drop (max p.r 1 - 1).toNat) = true := by
  rw [okL_iff, okL_iff]
  rw [List.all_cons, Bool.and_eq_true, fitS_cons]
  constructor
  · rintro ⟨⟨h1, h2⟩, h3⟩
    have ho := one_run h1
    by_cases ht : isT p = true
    · simp [ht] at h3
    · have ht' : isT p = false := by simpa using ht
      rw [ht', if_pos (by simp)] at h3
      have e : max (max 0 p.r.toNat) 1 - 1 = (max p.r 1 - 1).toNat := by omega
      rw [e, fitS_tails] at h3
      refine ⟨h1, fun h => ht (ho.2.2.2.2.1 h), h3.1, h3.2.1, ?_, h3.2.2⟩
      rw [List.all_eq_true] at h2 ⊢
      exact fun x hx => h2 x (List.mem_of_mem_drop hx)
  · rintro ⟨h1, h2, h3, h4, h5, h6⟩
    have ho := one_run h1
    have ht' : isT p = false := by
      cases h : isT p
      · rfl
      · exact absurd (ho.2.2.2.2.2 h) h2
    refine ⟨⟨h1, ?_⟩, ?_⟩
    · rw [List.all_eq_true] at h4 h5 ⊢
      intro x hx
      rw [← List.take_append_drop (max p.r 1 - 1).toNat r, List.mem_append] at hx
      rcases hx with hx | hx
      · have := h4 x hx
        unfold oneP
        rw [this]; simp
      · exact h5 x hx
    · rw [ht', if_pos (by simp)]
      have e : max (max 0 p.r.toNat) 1 - 1 = (max p.r 1 - 1).toNat := by omega
      rw [e, fitS_tails]
      exact ⟨h3, h4, h6⟩
/-! taking, giving, turning -/
/-- are the n pages from one on free? -/
def freeN (l : List Pg) (a n : Nat) : Bool := decide (a + n ≤ l.length) && ((l.drop a).take n).all isZ
/-- n pages from one on become others -/
def layF (l : List Pg) (a n : Nat) (p q : Pg) : List Pg := l.take a ++ (p :: List.replicate (n - 1) q) ++ l.drop (a + n)
theorem layF_len {l : List Pg} {a n : Nat} {p q : Pg} (h : a + n ≤ l.length) (h1 : 1 ≤ n) : (layF l a n p q).length = l.length := by
  unfold layF; simp; omega
def hdP (s n : Int) : Pg := ⟨2, 0, (s + 255) / 256, s, n⟩
theorem fitS_free : ∀ (b : List Pg) (d d' : Nat), 0 < b.length → b.all isZ = true → fitS d b = some d' → d = 0 ∧ d' = 0
  | [], d, d', h, _, _ => by simp at h
  | p :: r, d, d', _, hz, hf => by
    rw [List.all_cons, Bool.and_eq_true] at hz
    rw [fitS_cons] at hf
    rw [isZ_isT hz.1] at hf
    by_cases hd : 0 < d
    · simp [hd] at hf
    · have hd0 : d = 0 := by omega
      subst hd0
      rw [if_pos (by simp)] at hf
      have hr : p.r = 0 := by rw [isZ_iff.1 hz.1]
      rw [hr] at hf
      have e : max (max 0 (0 : Int).toNat) 1 - 1 = 0 := by simp
      rw [e] at hf
      refine ⟨rfl, ?_⟩
      cases r with
      | nil => simp only [fitS, Option.some.injEq] at hf; exact hf.symm
      | cons q s => exact (fitS_free (q :: s) 0 d' (by simp) hz.2 hf).2
theorem fitS_zeros : ∀ n, fitS 0 (List.replicate n pz) = some 0
  | 0 => rfl
  | n + 1 => by
    rw [List.replicate_succ]; rw [fitS_cons]
    rw [show isT pz = false from rfl, if_pos (by simp)]
    exact fitS_zeros n
theorem fitS_tls : ∀ n, fitS n (List.replicate n ptl) = some 0
  | 0 => rfl
  | n + 1 => by
    rw [List.replicate_succ]; rw [fitS_cons]
    rw [show isT ptl = true from rfl, if_pos (by simp)]
    have e : max (max (n + 1) (ptl.r).toNat) 1 - 1 = n := by show max (max (n + 1) 0) 1 - 1 = n; omega
    rw [e]; exact fitS_tls n
theorem split3 (l : List Pg) (a n : Nat) : l = l.take a ++ ((l.drop a).take n ++ l.drop (a + n)) := by
  rw [← List.drop_drop, List.take_append_drop, List.take_append_drop]
theorem all_split3 {l : List Pg} {f : Pg → Bool} (h : l.all f = true) (a n : Nat) : (l.take a).all f = true ∧ (l.drop (a + n)).all f = true := by
  rw [List.all_eq_true] at *
  rw [List.all_eq_true]
  exact ⟨fun x hx => h x (List.mem_of_mem_take hx), fun x hx => h x (List.mem_of_mem_drop hx)⟩
/-- pages of which free ones became others that fit by themselves -/
theorem mayL_lay {l : List Pg} {a n : Nat} {p q : Pg} (h : mayL l = true) (h1 : 1 ≤ n) (hl : a + n ≤ l.length) (hm : ∀ d, fitS d ((l.drop a).take n ++ l.drop (a + n)) = some 0 → d = 0 ∧ fitS 0 (l.drop (a + n)) = some 0)
    (hp : oneP p = true) (hq : n = 1 ∨ oneP q = true) (hf : fitS 0 (p :: List.replicate (n - 1) q) = some 0) : mayL (layF l a n p q) = true := by
  rw [mayL_iff] at *
  obtain ⟨g1, g2, g3⟩ := h
  refine ⟨by rw [layF_len hl h1]; exact g1, ?_, ?_⟩
  · obtain ⟨k1, k2⟩ := all_split3 g2 a n
    unfold layF
    rw [List.all_append, List.all_append, k1, k2, List.all_cons, hp]
    have : (List.replicate (n - 1) q).all oneP = true := by
      rw [List.all_eq_true]
      intro x hx
      obtain ⟨h0, rfl⟩ := List.mem_replicate.1 hx
      rcases hq with hq | hq
      · omega
      · exact hq
    rw [this]; rfl
  · rw [split3 l a n, fitS_app] at g3
    obtain ⟨d, hd, hr⟩ := Option.bind_eq_some_iff.1 g3
    obtain ⟨rfl, hr2⟩ := hm d hr
    unfold layF
    rw [fitS_app, fitS_app, hd]
    rw [Option.bind_some, hf, Option.bind_some]
    exact hr2
theorem free_part {l : List Pg} {a n : Nat} (h : freeN l a n = true) (h1 : 1 ≤ n) : a + n ≤ l.length ∧ ((l.drop a).take n).all isZ = true ∧ 0 < ((l.drop a).take n).length ∧ ∀ d, fitS d ((l.drop a).take n ++ l.drop (a + n)) = some 0 → d = 0 ∧ fitS 0 (l.drop (a + n)) = some 0 := by
  unfold freeN at h
  rw [Bool.and_eq_true, decide_eq_true_iff] at h
  have hlen : 0 < ((l.drop a).take n).length := by rw [List.length_take, List.length_drop]; omega
  refine ⟨h.1, h.2, hlen, fun d hd => ?_⟩
  rw [fitS_app] at hd
  obtain ⟨d', e1, e2⟩ := Option.bind_eq_some_iff.1 hd
  obtain ⟨rfl, rfl⟩ := fitS_free _ _ _ hlen h.2 e1
  exact ⟨rfl, e2⟩
theorem run_pos {s : Int} (h1 : 121 ≤ s) (h2 : s ≤ 4096) : 1 ≤ ((s + 255) / 256).toNat ∧ ((s + 255) / 256).toNat ≤ 16 ∧ (((s + 255) / 256).toNat : Int) = (s + 255) / 256 := by omega
theorem one_hd {s n : Int} (h1 : 121 ≤ s) (h2 : s ≤ 4096) (h3 : 1 ≤ n) (h4 : n < 281474976710656) : oneP (hdP s n) = true := by
  rw [oneP_iff]; exact .inr (.inr (.inr ⟨rfl, rfl, h1, h2, rfl, h3, h4⟩))
theorem fitS_obj {s n : Int} (h1 : 121 ≤ s) (h2 : s ≤ 4096) : fitS 0 (hdP s n :: List.replicate (((s + 255) / 256).toNat - 1) ptl) = some 0 := by
  rw [fitS_cons]
  have ht : isT (hdP s n) = false := by
    cases h : isT (hdP s n)
    · rfl
    · rw [isT_iff] at h; injection h with h; exact absurd h (by decide)
  rw [ht, if_pos (by simp)]
  have := run_pos h1 h2
  have e : max (max 0 (hdP s n).r.toNat) 1 - 1 = ((s + 255) / 256).toNat - 1 := by show max (max 0 ((s + 255) / 256).toNat) 1 - 1 = _; omega
  rw [e]; exact fitS_tls _
theorem may_take {l : List Pg} {a : Nat} {s n : Int} (h : mayL l = true) (h1 : 121 ≤ s) (h2 : s ≤ 4096) (h3 : 1 ≤ n) (h4 : n < 281474976710656) (hf : freeN l a ((s + 255) / 256).toNat = true) :
    mayL (layF l a ((s + 255) / 256).toNat (hdP s n) ptl) = true := by
  have hr := run_pos h1 h2
  obtain ⟨k1, _, _, k4⟩ := free_part hf hr.1
  exact mayL_lay h hr.1 k1 k4 (one_hd h1 h2 h3 h4) (.inr rfl) (fitS_obj h1 h2)
theorem drop_at {l : List Pg} {a : Nat} (h : a < l.length) : l.drop a = l.getD a pz :: l.drop (a + 1) := by
  rw [List.drop_eq_getElem_cons h, List.getD_eq_getElem?_getD, List.getElem?_eq_getElem h]; rfl
theorem all_at {l : List Pg} {f : Pg → Bool} (h : l.all f = true) {a : Nat} (ha : a < l.length) : f (l.getD a pz) = true := by
  rw [List.all_eq_true] at h
  rw [List.getD_eq_getElem?_getD, List.getElem?_eq_getElem ha]
  exact h _ (List.getElem_mem ha)
/-- a Head's pages -/
theorem head_part {l : List Pg} {a : Nat} (h : mayL l = true) (ha : a < l.length) (hk : (l.getD a pz).k = 2) :
    1 ≤ (l.getD a pz).r.toNat ∧ (l.getD a pz).r.toNat ≤ 16 ∧ (((l.getD a pz).r.toNat : Nat) : Int) = (l.getD a pz).r ∧ a + (l.getD a pz).r.toNat ≤ l.length ∧ ∀ d, fitS d ((l.drop a).take (l.getD a pz).r.toNat ++ l.drop (a + (l.getD a pz).r.toNat)) = some 0 → d = 0 ∧ fitS 0 (l.drop (a + (l.getD a pz).r.toNat)) = some 0 := by
  rw [mayL_iff] at h
  obtain ⟨g1, g2, g3⟩ := h
  have ho := one_run (all_at g2 ha)
  have hr := ho.2.2.2.1 hk
  have htl : isT (l.getD a pz) = false := by
    cases h : isT (l.getD a pz)
    · rfl
    · have := ho.2.2.2.2.2 h; omega
  have key : ∀ d, fitS d (l.drop a) = some 0 → d = 0 ∧ (l.getD a pz).r.toNat - 1 ≤ (l.drop (a + 1)).length ∧ fitS 0 (l.drop (a + (l.getD a pz).r.toNat)) = some 0 := by
    intro d hd
    rw [drop_at ha] at hd
    rw [fitS_cons] at hd
    rw [htl] at hd
    by_cases hd0 : 0 < d
    · simp [hd0] at hd
    · have : d = 0 := by omega
      subst this
      rw [if_pos (by simp)] at hd
      have e : max (max 0 (l.getD a pz).r.toNat) 1 - 1 = (l.getD a pz).r.toNat - 1 := by omega
      rw [e, fitS_tails, List.drop_drop] at hd
      refine ⟨rfl, hd.1, ?_⟩
      have e2 : a + 1 + ((l.getD a pz).r.toNat - 1) = a + (l.getD a pz).r.toNat := by omega
      rw [e2] at hd
      exact hd.2.2
  have hle : a + (l.getD a pz).r.toNat ≤ l.length := by
    rw [← List.take_append_drop a l, fitS_app] at g3
    obtain ⟨d, _, hr'⟩ := Option.bind_eq_some_iff.1 g3
    have := (key d hr').2.1
    rw [List.length_drop] at this
    omega
  refine ⟨by omega, by omega, by omega, hle, fun d hd => ?_⟩
  rw [← List.drop_drop, List.take_append_drop] at hd
  exact ⟨(key d hd).1, (key d hd).2.2⟩
theorem may_give {l : List Pg} {a : Nat} (h : mayL l = true) (ha : a < l.length) (hk : (l.getD a pz).k = 2) : mayL (layF l a (l.getD a pz).r.toNat pz pz) = true := by
  obtain ⟨k1, k2, k3, k4, k5⟩ := head_part h ha hk
  refine mayL_lay h k1 k4 k5 rfl (.inr rfl) ?_
  have : pz :: List.replicate ((l.getD a pz).r.toNat - 1) pz = List.replicate ((l.getD a pz).r.toNat - 1 + 1) pz := rfl
  rw [this]; exact fitS_zeros _
/-- one page that is neither a Head nor a Tail -/
theorem one_part {l : List Pg} {a : Nat} (h : mayL l = true) (ha : a < l.length) (hk : (l.getD a pz).k ≠ 2) (hk3 : (l.getD a pz).k ≠ 3) : ∀ d, fitS d ((l.drop a).take 1 ++ l.drop (a + 1)) = some 0 → d = 0 ∧ fitS 0 (l.drop (a + 1)) = some 0 := by
  rw [mayL_iff] at h
  obtain ⟨g1, g2, g3⟩ := h
  have ho := one_run (all_at g2 ha)
  have hr := ho.2.2.1 hk
  intro d hd
  rw [← List.drop_drop, List.take_append_drop, drop_at ha] at hd
  rw [fitS_cons] at hd
  have htl : isT (l.getD a pz) = false := by
    cases h : isT (l.getD a pz)
    · rfl
    · exact absurd (ho.2.2.2.2.2 h) hk3
  rw [htl] at hd
  by_cases hd0 : 0 < d
  · simp [hd0] at hd
  · have : d = 0 := by omega
    subst this
    rw [if_pos (by simp), hr] at hd
    exact ⟨rfl, hd⟩
theorem may_turn {l : List Pg} {a : Nat} {p : Pg} (h : mayL l = true) (ha : a < l.length) (hk : (l.getD a pz).k ≠ 2) (hk3 : (l.getD a pz).k ≠ 3) (hp : oneP p = true) (hp2 : p.k ≠ 2) (hp3 : p.k ≠ 3) : mayL (layF l a 1 p pz) = true := by
  refine mayL_lay h (Nat.le_refl _) ha (one_part h ha hk hk3) hp (.inl rfl) ?_
  rw [fitS_cons]
  have ho := one_run hp
  have htl : isT p = false := by
    cases h : isT p
    · rfl
    · exact absurd (ho.2.2.2.2.2 h) hp3
  rw [htl, if_pos (by simp), ho.2.2.1 hp2]
  rfl
/-! what the calls answer: an error's number (0: none), and the pages -/
def takeF (l : List Pg) (at_ s n : Int) : Nat × List Pg :=
  if mayL l = false then (4, [])
  else if ¬ (121 ≤ s ∧ s ≤ 4096 ∧ 1 ≤ n ∧ n < 281474976710656) then (1, [])
  else if at_ < 0 ∨ (l.length : Int) < at_ + (s + 255) / 256 then (3, [])
  else if freeN l at_.toNat ((s + 255) / 256).toNat = false then (7, [])
  else (0, layF l at_.toNat ((s + 255) / 256).toNat (hdP s n) ptl)
def giveF (l : List Pg) (at_ : Int) : Nat × List Pg :=
  if mayL l = false then (4, [])
  else if ¬ (0 ≤ at_ ∧ at_ < (l.length : Int) ∧ (l.getD at_.toNat pz).k = 2) then (6, [])
  else (0, layF l at_.toNat (l.getD at_.toNat pz).r.toNat pz pz)
def turnF (l : List Pg) (at_ c : Int) : Nat × List Pg :=
  if mayL l = false then (4, [])
  else if ¬ (0 ≤ at_ ∧ at_ < (l.length : Int)) then (3, [])
  else if c = -1 then (if (l.getD at_.toNat pz).k ≠ 1 then (6, []) else (0, layF l at_.toNat 1 pz pz))
  else if ¬ (0 ≤ c ∧ c < 8) then (1, [])
  else if (l.getD at_.toNat pz).k ≠ 0 then (7, [])
  else (0, layF l at_.toNat 1 ⟨1, c, 0, 0, 0⟩ pz)
theorem takeF_may {l : List Pg} {at_ s n : Int} (h : (takeF l at_ s n).1 = 0) : mayL (takeF l at_ s n).2 = true := by
  unfold takeF at h ⊢
  split at h <;> rename_i h1
  · cases h
  split at h <;> rename_i h2
  · cases h
  split at h <;> rename_i h3
  · cases h
  split at h <;> rename_i h4
  · cases h
  rw [if_neg h1, if_neg h2, if_neg h3, if_neg h4]
  have h2' := Decidable.not_not.1 h2
  exact may_take (by simpa using h1) h2'.1 h2'.2.1 h2'.2.2.1 h2'.2.2.2 (by simpa using h4)
theorem giveF_may {l : List Pg} {at_ : Int} (h : (giveF l at_).1 = 0) : mayL (giveF l at_).2 = true := by
  unfold giveF at h ⊢
  split at h <;> rename_i h1
  · cases h
  split at h <;> rename_i h2
  · cases h
  rw [if_neg h1, if_neg h2]
  have h2' := Decidable.not_not.1 h2
  exact may_give (by simpa using h1) (by omega) h2'.2.2
theorem turnF_may {l : List Pg} {at_ c : Int} (h : (turnF l at_ c).1 = 0) : mayL (turnF l at_ c).2 = true := by
  unfold turnF at h ⊢
  split at h <;> rename_i h1
  · cases h
  split at h <;> rename_i h2
  · cases h
  rw [if_neg h1, if_neg h2]
  have hm : mayL l = true := by simpa using h1
  split at h <;> rename_i h3
  · split at h <;> rename_i h4
    · cases h
    · rw [if_pos h3, if_neg h4]
      have h4' := Decidable.not_not.1 h4
      exact may_turn hm (by omega) (by omega) (by omega) rfl (by decide) (by decide)
  · split at h <;> rename_i h4
    · cases h
    split at h <;> rename_i h5
    · cases h
    rw [if_neg h3, if_neg h4, if_neg h5]
    have h5' := Decidable.not_not.1 h5
    have h4' := Decidable.not_not.1 h4
    exact may_turn hm (by omega) (by omega) (by omega) (oneP_iff.2 (.inr (.inr (.inl ⟨rfl, h4'.1, h4'.2, rfl, rfl, rfl⟩)))) (by simp) (by simp)
/-! runs of free pages -/
def runsI (l : List Pg) (a : Nat) : List (Nat × Nat) :=
  if a < l.length then
    if 0 < leadF isZ (l.drop a) then (a, leadF isZ (l.drop a)) :: runsI l (a + leadF isZ (l.drop a) + 1)
    else runsI l (a + 1)
  else []
termination_by l.length - a
decreasing_by all_goals omega
theorem runsI_end (l : List Pg) {a : Nat} (h : l.length ≤ a) : runsI l a = [] := by rw [runsI, if_neg (by omega)]
theorem runsI_run (l : List Pg) {a n : Nat} (h : a < l.length) (hn : leadF isZ (l.drop a) = n) (h0 : 0 < n) : runsI l a = (a, n) :: runsI l (a + n + 1) := by rw [runsI, if_pos h, hn, if_pos h0]
theorem runsI_skip (l : List Pg) {a : Nat} (h : a < l.length) (h0 : leadF isZ (l.drop a) = 0) : runsI l a = runsI l (a + 1) := by rw [runsI, if_pos h, h0, if_neg (by omega)]
/-- all runs from a on: free pages, with none that is free between -/
def RunsOk (l : List Pg) : Nat → List (Nat × Nat) → Prop
  | a, [] => ∀ k, a ≤ k → k < l.length → isZ (l.getD k pz) = false
  | a, (s, n) :: rs => a ≤ s ∧ 1 ≤ n ∧ s + n ≤ l.length ∧ (∀ k, a ≤ k → k < s → isZ (l.getD k pz) = false) ∧ (∀ k, s ≤ k → k < s + n → isZ (l.getD k pz) = true) ∧ (s + n < l.length → isZ (l.getD (s + n) pz) = false) ∧ RunsOk l (s + n + 1) rs
theorem getD_drop (l : List Pg) (a k : Nat) : (l.drop a).getD k pz = l.getD (a + k) pz := by
  rw [List.getD_eq_getElem?_getD, List.getD_eq_getElem?_getD, List.getElem?_drop]
theorem RunsOk.back {l : List Pg} {a : Nat} (h0 : isZ (l.getD a pz) = false) : ∀ {rs : List (Nat × Nat)}, RunsOk l (a + 1) rs → RunsOk l a rs
  | [], h => fun k hk hl => by
    by_cases e : k = a
    · subst e; exact h0
    · exact h k (by omega) hl
  | (s, n) :: rs, h => by
    obtain ⟨h1, h2, h3, h4, h5, h6, h7⟩ := h
    refine ⟨by omega, h2, h3, fun k hk hl => ?_, h5, h6, h7⟩
    by_cases e : k = a
    · subst e; exact h0
    · exact h4 k (by omega) hl
theorem runsI_ok (l : List Pg) : ∀ (m a : Nat), l.length - a ≤ m → RunsOk l a (runsI l a)
  | 0, a, h => by
    rw [runsI_end l (by omega)]
    intro k hk hl; omega
  | m + 1, a, h => by
    by_cases ha : a < l.length
    · by_cases h0 : 0 < leadF isZ (l.drop a)
      · rw [runsI_run l ha rfl h0]
        have hle := leadF_le isZ (l.drop a)
        rw [List.length_drop] at hle
        refine ⟨Nat.le_refl _, h0, by omega, fun k hk hl => by omega, fun k hk hl => ?_, fun hl => ?_, runsI_ok l m _ (by omega)⟩
        · have := leadF_get isZ (l.drop a) (k - a) (by omega)
          rw [getD_drop, show a + (k - a) = k by omega] at this
          exact this
        · have := leadF_stop isZ (l.drop a) (by rw [List.length_drop]; omega)
          rw [getD_drop] at this
          exact this
      · rw [runsI_skip l ha (by omega)]
        refine RunsOk.back ?_ (runsI_ok l m (a + 1) (by omega))
        have := leadF_stop isZ (l.drop a) (by rw [List.length_drop]; omega)
        rw [getD_drop, show leadF isZ (l.drop a) = 0 by omega] at this
        exact this
    · rw [runsI_end l (by omega)]
      intro k hk hl; omega
/-- the first n free pages, from k on -/
def firstI (l : List Pg) (n : Int) (k : Nat) : Int :=
  if k < l.length then (if 0 < n ∧ freeN l k n.toNat = true then (k : Int) else firstI l n (k + 1)) else -1
termination_by l.length - k
decreasing_by all_goals omega
theorem firstI_end (l : List Pg) (n : Int) {k : Nat} (h : l.length ≤ k) : firstI l n k = -1 := by rw [firstI, if_neg (by omega)]
theorem firstI_yes (l : List Pg) (n : Int) {k : Nat} (h : k < l.length) (h0 : 0 < n) (hf : freeN l k n.toNat = true) : firstI l n k = (k : Int) := by rw [firstI, if_pos h, if_pos ⟨h0, hf⟩]
theorem firstI_no (l : List Pg) (n : Int) {k : Nat} (h : k < l.length) (h0 : 0 < n → freeN l k n.toNat = false) : firstI l n k = firstI l n (k + 1) := by
  rw [firstI, if_pos h, if_neg (fun q => by rw [h0 q.1] at q; exact absurd q.2 (by decide))]
theorem freeN_iff {l : List Pg} {a n : Nat} : freeN l a n = true ↔ a + n ≤ l.length ∧ ∀ k, a ≤ k → k < a + n → isZ (l.getD k pz) = true := by
  unfold freeN
  rw [Bool.and_eq_true, decide_eq_true_iff, List.all_eq_true]
  constructor
  · rintro ⟨h1, h2⟩
    refine ⟨h1, fun k hk hl => ?_⟩
    have e : ((l.drop a).take n)[k - a]? = some (l.getD k pz) := by
      rw [List.getElem?_take_of_lt (by omega), List.getElem?_drop, show a + (k - a) = k by omega, List.getD_eq_getElem?_getD, List.getElem?_eq_getElem (by omega)]; rfl
    exact h2 _ (List.mem_of_getElem? e)
  · rintro ⟨h1, h2⟩
    refine ⟨h1, fun x hx => ?_⟩
    obtain ⟨i, hi⟩ := List.mem_iff_getElem?.1 hx
    have hil : i < n := by
      have := (List.getElem?_eq_some_iff.1 hi).1
      rw [List.length_take] at this; omega
    rw [List.getElem?_take_of_lt hil, List.getElem?_drop] at hi
    have := h2 (a + i) (by omega) (by omega)
    rw [List.getD_eq_getElem?_getD, hi] at this
    exact this
theorem freeN_no {l : List Pg} {a n k : Nat} (h1 : a ≤ k) (h2 : k < a + n) (h : k < l.length → isZ (l.getD k pz) = false) : freeN l a n = false := by
  cases hf : freeN l a n
  · rfl
  · rw [freeN_iff] at hf
    have := hf.2 k h1 h2
    rw [h (by omega)] at this
    exact absurd this (by decide)
theorem firstI_skip (l : List Pg) (n : Int) : ∀ (m a b : Nat), b - a ≤ m → a ≤ b → (∀ k, a ≤ k → k < b → k < l.length → 0 < n → freeN l k n.toNat = false) → firstI l n a = firstI l n b
  | 0, a, b, h, hab, _ => by rw [show a = b by omega]
  | m + 1, a, b, h, hab, hf => by
    by_cases e : a = b
    · rw [e]
    · by_cases hl : a < l.length
      · rw [firstI_no l n hl (hf a (Nat.le_refl _) (by omega) hl)]
        exact firstI_skip l n m (a + 1) b (by omega) (by omega) (fun k h1 h2 => hf k (by omega) h2)
      · rw [firstI_end l n (by omega), firstI_end l n (by omega)]
/-- the first run that has n pages -/
def firstR (n : Int) : List (Nat × Nat) → Int
  | [] => -1
  | (s, m) :: rs => if 1 ≤ n ∧ n ≤ (m : Int) then (s : Int) else firstR n rs
theorem firstR_is (l : List Pg) (n : Int) : ∀ (rs : List (Nat × Nat)) (a : Nat), RunsOk l a rs → firstR n rs = firstI l n a
  | [], a, h => by
    show -1 = _
    rw [firstI_skip l n (l.length) a (max a l.length) (by omega) (by omega) (fun k h1 h2 h3 h4 => freeN_no (k := k) (Nat.le_refl _) (by omega) (fun hl => h k h1 hl)), firstI_end l n (by omega)]
  | (s, m) :: rs, a, h => by
    obtain ⟨h1, h2, h3, h4, h5, h6, h7⟩ := h
    rw [firstI_skip l n s a s (by omega) h1 (fun k k1 k2 k3 k4 => freeN_no (k := k) (Nat.le_refl _) (by omega) (fun hl => h4 k k1 k2))]
    unfold firstR
    split
    · rename_i hc
      rw [firstI_yes l n (by omega) (by omega) (freeN_iff.2 ⟨by omega, fun k k1 k2 => h5 k k1 (by omega)⟩)]
    · rename_i hc
      rw [firstR_is l n rs (s + m + 1) h7]
      rw [firstI_skip l n (m + 1) s (s + m + 1) (by omega) (by omega) (fun k k1 k2 k3 k4 => freeN_no (k := s + m) (by omega) (by omega) (fun hl => h6 hl))]
theorem firstI_neg (l : List Pg) (n : Int) : ∀ (m a : Nat), l.length - a ≤ m → firstI l n a = -1 ∨ ((a : Int) ≤ firstI l n a ∧ firstI l n a < (l.length : Int) ∧ 0 < n ∧ freeN l (firstI l n a).toNat n.toNat = true)
  | 0, a, h => .inl (firstI_end l n (by omega))
  | m + 1, a, h => by
    by_cases hl : a < l.length
    · by_cases hc : 0 < n ∧ freeN l a n.toNat = true
      · rw [firstI_yes l n hl hc.1 hc.2]
        exact .inr ⟨by omega, by omega, hc.1, by simpa using hc.2⟩
      · rw [firstI_no l n hl (fun h0 => by
          cases hf : freeN l a n.toNat
          · rfl
          · exact absurd ⟨h0, hf⟩ hc)]
        rcases firstI_neg l n m (a + 1) (by omega) with h1 | ⟨h1, h2⟩
        · exact .inl h1
        · exact .inr ⟨by omega, h2⟩
    · exact .inl (firstI_end l n (by omega))
/-- ahead of the first place there is none -/
theorem firstI_least (l : List Pg) (n : Int) : ∀ (m a : Nat), l.length - a ≤ m → ∀ k : Nat, a ≤ k → k < l.length → 0 < n → freeN l k n.toNat = true → firstI l n a ≠ -1 ∧ firstI l n a ≤ (k : Int)
  | 0, a, h, k, h1, h2, _, _ => by omega
  | m + 1, a, h, k, h1, h2, h3, h4 => by
    by_cases hc : freeN l a n.toNat = true
    · rw [firstI_yes l n (by omega) h3 hc]; omega
    · have hka : k ≠ a := fun e => hc (e ▸ h4)
      rw [firstI_no l n (by omega) (fun _ => by simpa using hc)]
      exact firstI_least l n m (a + 1) (by omega) k (by omega) h2 h3 h4
/-! what was taken and is given -/
theorem lay_at {l : List Pg} {a n : Nat} {p q : Pg} (h : a + n ≤ l.length) (h1 : 1 ≤ n) : (layF l a n p q).getD a pz = p := by
  unfold layF
  rw [List.append_assoc, List.getD_eq_getElem?_getD, List.getElem?_append_right (by rw [List.length_take]; omega), List.length_take, show a - min a l.length = 0 by omega]; rfl
theorem take_lay {l : List Pg} {a n : Nat} {p q : Pg} (h : a + n ≤ l.length) : (layF l a n p q).take a = l.take a := by
  unfold layF
  rw [List.append_assoc, List.take_append_of_le_length (by rw [List.length_take]; omega), List.take_take, Nat.min_self]
theorem drop_lay {l : List Pg} {a n : Nat} {p q : Pg} (h : a + n ≤ l.length) (h1 : 1 ≤ n) : (layF l a n p q).drop (a + n) = l.drop (a + n) := by
  unfold layF
  have : (l.take a ++ p :: List.replicate (n - 1) q).length = a + n := by simp; omega
  rw [← this, List.drop_left, this]
theorem free_zeros {l : List Pg} {a n : Nat} (h : freeN l a n = true) (h1 : 1 ≤ n) : pz :: List.replicate (n - 1) pz = (l.drop a).take n := by
  obtain ⟨k1, k2, _, _⟩ := free_part h h1
  have e : pz :: List.replicate (n - 1) pz = List.replicate (n - 1 + 1) pz := rfl
  rw [e, show n - 1 + 1 = n by omega]
  apply Eq.symm
  rw [List.eq_replicate_iff]
  refine ⟨by rw [List.length_take, List.length_drop]; omega, fun x hx => ?_⟩
  rw [List.all_eq_true] at k2
  exact isZ_iff.1 (k2 x hx)
theorem undo {l : List Pg} {at_ s n : Int} (h : (takeF l at_ s n).1 = 0) : 0 ≤ at_ ∧ giveF (takeF l at_ s n).2 at_ = (0, l) := by
  have hm := takeF_may h
  unfold takeF at h hm ⊢
  split at h <;> rename_i h1
  · cases h
  split at h <;> rename_i h2
  · cases h
  split at h <;> rename_i h3
  · cases h
  split at h <;> rename_i h4
  · cases h
  rw [if_neg h1, if_neg h2, if_neg h3, if_neg h4] at hm ⊢
  have h2' := Decidable.not_not.1 h2
  have hr := run_pos h2'.1 h2'.2.1
  have hf : freeN l at_.toNat ((s + 255) / 256).toNat = true := by simpa using h4
  obtain ⟨k1, k2, _, _⟩ := free_part hf hr.1
  refine ⟨by omega, ?_⟩
  unfold giveF
  have hl := layF_len (p := hdP s n) (q := ptl) k1 hr.1
  have ha := lay_at (p := hdP s n) (q := ptl) k1 hr.1
  rw [if_neg (by rw [hm]; decide), if_neg (by rw [hl, ha]; exact fun q => q ⟨by omega, by omega, rfl⟩), ha]
  have e : layF (layF l at_.toNat ((s + 255) / 256).toNat (hdP s n) ptl) at_.toNat (hdP s n).r.toNat pz pz = l := by
    show layF _ at_.toNat ((s + 255) / 256).toNat pz pz = l
    generalize ((s + 255) / 256).toNat = m at *
    rw [layF, take_lay k1, drop_lay k1 hr.1, free_zeros hf hr.1, List.append_assoc]
    exact (split3 l _ _).symm
  rw [e]
theorem takeF_ok {l : List Pg} {at_ s n : Int} (h : (takeF l at_ s n).1 = 0) : mayL l = true ∧ 121 ≤ s ∧ s ≤ 4096 ∧ 1 ≤ n ∧ n < 281474976710656 ∧ 0 ≤ at_ ∧ freeN l at_.toNat ((s + 255) / 256).toNat = true := by
  unfold takeF at h
  split at h <;> rename_i h1
  · cases h
  split at h <;> rename_i h2
  · cases h
  split at h <;> rename_i h3
  · cases h
  split at h <;> rename_i h4
  · cases h
  have h2' := Decidable.not_not.1 h2
  exact ⟨by simpa using h1, h2'.1, h2'.2.1, h2'.2.2.1, h2'.2.2.2, by omega, by simpa using h4⟩
theorem takeF_yes {l : List Pg} {at_ s n : Int} (h : mayL l = true) (h1 : 121 ≤ s) (h2 : s ≤ 4096) (h3 : 1 ≤ n) (h4 : n < 281474976710656) (h5 : 0 ≤ at_) (hf : freeN l at_.toNat ((s + 255) / 256).toNat = true) :
    takeF l at_ s n = (0, layF l at_.toNat ((s + 255) / 256).toNat (hdP s n) ptl) := by
  have hr := run_pos h1 h2
  obtain ⟨k1, _, _, _⟩ := free_part hf hr.1
  unfold takeF
  rw [if_neg (by rw [h]; decide), if_neg (fun q => q ⟨h1, h2, h3, h4⟩), if_neg (by omega), if_neg (by rw [hf]; decide)]
end Go.Proofs.YtooahpfeamobcaaDoor
