/-
  The program's Runs and First.
-/
import Derived.Test.YtooahpfeamobcaaDoorPgE
namespace Go.Proofs.YtooahpfeamobcaaDoor
open Go.RowKit Go
set_option linter.unusedVariables false
set_option linter.unusedSimpArgs false
set_option maxRecDepth 100000
abbrev RunT : TypeId := 56
def flatR (xs : List (Nat × Nat)) : List Value := xs.flatMap fun p => [.int .i64 (p.1 : Int), .int .i64 (p.2 : Int)]
theorem flatR_len (xs : List (Nat × Nat)) : (flatR xs).length = xs.length * 2 := by
  induction xs with
  | nil => rfl
  | cons e r ih => simp only [flatR, List.flatMap_cons, List.length_append, List.length_cons, List.length_nil] at *; omega
theorem flatR_get (xs : List (Nat × Nat)) : ∀ i, i < xs.length → (flatR xs)[i * 2]? = some (.int .i64 ((xs.getD i (0, 0)).1 : Int)) ∧ (flatR xs)[i * 2 + 1]? = some (.int .i64 ((xs.getD i (0, 0)).2 : Int)) := by
  induction xs with
  | nil => intro i h; simp at h
  | cons e r ih =>
    intro i hi
    have e1 : flatR (e :: r) = [.int .i64 (e.1 : Int), .int .i64 (e.2 : Int)] ++ flatR r := rfl
    rw [e1]
    cases i with
    | zero => exact ⟨rfl, rfl⟩
    | succ i =>
      have h3 : ([.int .i64 (e.1 : Int), .int .i64 (e.2 : Int)] : List Value).length = 2 := rfl
      have := ih i (by simpa using hi)
      rw [List.getElem?_append_right (by omega), List.getElem?_append_right (by omega), h3, show (i + 1) * 2 - 2 = i * 2 by omega, show (i + 1) * 2 + 1 - 2 = i * 2 + 1 by omega]
      exact this
theorem flatR_snoc (xs : List (Nat × Nat)) (p : Nat × Nat) : flatR (xs ++ [p]) = flatR xs ++ [.int .i64 (p.1 : Int), .int .i64 (p.2 : Int)] := by simp [flatR]
def OwnR (W : World) (B : Nat) (v : Value) (xs : List (Nat × Nat)) : Prop := W.ownsRow B RunT 2 v xs.length (flatR xs)
theorem OwnR.nil (W : World) (B : Nat) : OwnR W B (.slice none 0 0) [] := World.ownsRow_nil _ _ _ _
theorem OwnR.below {W W' : World} {B : Nat} {v : Value} {es : List (Nat × Nat)} (h : OwnR W B v es) (hb : Below W.heap.size W W') : OwnR W' B v es := by
  obtain ⟨h1, h2⟩ := h
  refine ⟨h1, ?_⟩
  rcases h2 with h2 | ⟨g, cap, cur, hv, hg, hh, hr⟩
  · exact .inl h2
  · exact .inr ⟨g, cap, cur, hv, hg, (hb.block g (blk_lt hh)).trans hh, hr⟩
/-- a slice of runs that reads as xs -/
structure RnS (W : World) (A : Option Addr) (n c : Nat) (xs : List (Nat × Nat)) : Prop where
  len : xs.length = n
  cap : n ≤ c
  capm : c ≤ 9223372036854775807
  at_ : 0 < n → ∃ b o, A = some ⟨b, o, none⟩ ∧ b < W.heap.size ∧ ∀ i, i < n → W.cell? ⟨b, o + i * 2, none⟩ = some (.int .i64 ((xs.getD i (0, 0)).1 : Int)) ∧ W.cell? ⟨b, o + i * 2 + 1, none⟩ = some (.int .i64 ((xs.getD i (0, 0)).2 : Int))
theorem RnS.cells {w : World} {A : Option Addr} {n c : Nat} {xs : List (Nat × Nat)} (h : RnS w A n c xs) (hn : 0 < n) : ∃ b o, A = some ⟨b, o, none⟩ ∧ b < w.heap.size ∧ ∀ W, Below w.heap.size w W → b < W.heap.size ∧ ∀ i, i < n → W.cell? ⟨b, o + i * 2, none⟩ = some (.int .i64 ((xs.getD i (0, 0)).1 : Int)) ∧ W.cell? ⟨b, o + i * 2 + 1, none⟩ = some (.int .i64 ((xs.getD i (0, 0)).2 : Int)) := by
  obtain ⟨b, o, h1, h2, h3⟩ := h.at_ hn
  exact ⟨b, o, h1, h2, fun W hb => ⟨Nat.lt_of_lt_of_le h2 hb.size, fun i hi => ⟨(World.cell?_of_block (hb.block b h2)).trans (h3 i hi).1, (World.cell?_of_block (hb.block b h2)).trans (h3 i hi).2⟩⟩⟩
theorem OwnR.ps {W : World} {B : Nat} {v : Value} {xs : List (Nat × Nat)} (h : OwnR W B v xs) : ∃ A c, v = .slice A xs.length c ∧ RnS W A xs.length c xs := by
  have hc := fun g (hg : v.ownBlock = some g) => World.ownsRow.cells h hg
  obtain ⟨h1, ⟨hv, h0⟩ | ⟨g, cap, cur, hv, hg, hh, hn, hm, _⟩⟩ := h
  · exact ⟨none, 0, by rw [hv, h0], ⟨rfl, by omega, by omega, fun q => by omega⟩⟩
  · refine ⟨_, cap, hv, ⟨rfl, hn, by unfold maxLen at hm; omega, fun q => ⟨g, 0, rfl, blk_lt hh, fun i hi => ?_⟩⟩⟩
    have h2 := flatR_get xs i hi
    have := hc g (by rw [hv]; rfl)
    have a := this _ _ h2.1
    have b := this _ _ h2.2
    rw [Addr.add_mid] at a b
    exact ⟨a, b⟩
theorem info_run : (Tryd.prog.info? RunT).map (fun i => (i.zero, i.size, i.bytes)) = some (some (.agg #[.int .i64 0, .int .i64 0]), 2, 16) := by kernel_rfl
theorem wp_appR {ops : Array Oper} {rest : List Oper} {o : Oper} {a : Act} {Q : Exit → Act → World → Prop} (W : World) (hgd : o.guard = none) (s x : Operand)
    (ho : o.op = .call { callee := .builtin .append, args := #[s, x], argTypes := #[53, 53] })
    (B : Nat) (v : Value) (xs : List (Nat × Nat)) (p q : Nat) (hs : a.eval s = v) (hown : OwnR W B v xs) (H : Nat) (hH : W.heap.size = H)
    (hx : a.eval x = .slice (some ⟨H, 0, none⟩) 1 1) (hn : xs.length < 1000000) (hB : B ≤ W.heap.size)
    (h : ∀ v' w', OwnR w' B v' (xs ++ [(p, q)]) → Below B W w' → wpList Tryd.prog ops Q rest (a.put o.dst v') w') :
    wpList Tryd.prog ops Q (o :: rest) a (W.alloc (.cells #[.int .i64 (p : Int), .int .i64 (q : Int)] RunT)) := by
  subst hH
  obtain ⟨i0, hi, hz0, hz1, hz2⟩ := info_parts info_run
  have hnb := heap_alloc_new W (.cells #[.int .i64 (p : Int), .int .i64 (q : Int)] RunT)
  refine wpList_append_own _ hgd s x 53 ho B RunT i0 (.agg #[.int .i64 0, .int .i64 0]) 2 16 Tryd.underlying53 hi hz0 hz1 hz2 rfl (by decide) v xs.length (flatR xs) hs (World.ownsRow.alloc hown _) ⟨W.heap.size, 0, none⟩ 1 1
    [.int .i64 (p : Int), .int .i64 (q : Int)] hx rfl ?_ (by intro u hu; simp at hu; rcases hu with rfl | rfl <;> rfl) (by unfold maxLen; omega) (by omega) (by simp; omega) ?_
  · intro j u hj
    rw [Addr.add_mid, Nat.zero_add, blk_cell hnb j, ← hj]
    simp
  · intro v' w1 hown' hg _
    refine h v' w1 ?_ (((Below.refl B W).alloc hB _).grown hg (by simp; omega) (fun k hk => (World.ownsRow.lt hown k hk).1))
    unfold OwnR
    rw [flatR_snoc, List.length_append]
    exact hown'
theorem PS.cut {W : World} {b o n c : Nat} {l : List Pg} (h : PS W (some ⟨b, o, none⟩) n c l) {k m : Nat} (hk : k + m ≤ n) : PS W (some ⟨b, o + k * 5, none⟩) m (c - k) ((l.drop k).take m) :=
  ⟨by rw [List.length_take, List.length_drop, h.len]; omega, by have := h.cap; omega, by have := h.capm; omega, (fun q => by cases q), fun hm => by
    obtain ⟨b', o', e, h1, h2⟩ := h.at_ (by omega)
    cases e
    refine ⟨b, o + k * 5, rfl, h1, fun i hi => ?_⟩
    have := h2 (k + i) (by omega)
    have e : pg ((l.drop k).take m) i = pg l (k + i) := by
      simp only [List.getD_eq_getElem?_getD]
      rw [List.getElem?_take_of_lt hi, List.getElem?_drop]
    rw [e, show o + k * 5 + i * 5 = o + (k + i) * 5 by omega]
    exact this⟩
def RunTo (w : World) (rs : List (Nat × Nat)) (e : Ending) (w' : World) : Prop := ∃ A c, e = .returned (.slice A rs.length c) ∧ RnS w' A rs.length c rs ∧ Below w.heap.size w w'
theorem runsI_len (l : List Pg) : ∀ (m a : Nat), l.length - a ≤ m → (runsI l a).length ≤ m
  | 0, a, h => by rw [runsI_end l (by omega)]; simp
  | m + 1, a, h => by
    by_cases ha : a < l.length
    · by_cases h0 : 0 < leadF isZ (l.drop a)
      · rw [runsI_run l ha rfl h0, List.length_cons]
        have := runsI_len l m (a + leadF isZ (l.drop a) + 1) (by omega)
        omega
      · rw [runsI_skip l ha (by omega)]
        have := runsI_len l m (a + 1) (by omega)
        omega
    · rw [runsI_end l (by omega)]; simp
set_option maxHeartbeats 4000000 in
theorem runs_any (A : Option Addr) (n c : Nat) (l : List Pg) (w : World) (h : PS w A n c l) (hS : SZ w) (hn : n < 1000000) :
    Calls Tryd.prog 21 #[.slice A n c] w (RunTo w (runsI l 0)) := by
  have HP := Lib.hid h
  have HSZ := Lib.hid hS
  have hln := h.len
  have HLN := Lib.hid hln
  have hcn := h.cap
  have hcm := h.capm
  clear h hln hS
  go_enter Tryd.func21, Tryd.ntmps21
  go_wp2
  go_loopw [3, 4] (fun v i W => ∃ (a : Nat) (rs : List (Nat × Nat)), i = .int .i64 (a : Int) ∧ a ≤ n + 1 ∧ rs.length ≤ a ∧ OwnR W w.heap.size v rs ∧ rs ++ runsI l a = runsI l 0 ∧ Below w.heap.size w W) (fun _ i _ => n + 1 - (intOf i).toNat)
  case atStart => exact ⟨0, [], rfl, by omega, Nat.le_refl _, OwnR.nil _ _, rfl, Below.refl _ _⟩
  case round =>
    obtain ⟨a, rs, rfl, ha, hrl, hown, hrs, hb⟩ := hrel
    have HB := Lib.hid hb
    have HOW := Lib.hid hown
    have HRS := Lib.hid hrs
    clear hown hrs hb
    by_cases hlt : a < n
    · obtain ⟨b, o, rfl, hb0, hcell⟩ := HP.out.cells (by omega)
      clear hcell
      have hltI : (a : Int) < (n : Int) := by omega
      have hcut := (HP.out.cut (k := a) (m := n - a) (by omega)).below HB.out
      have e : (l.drop a).take (n - a) = l.drop a := List.take_of_length_le (by rw [List.length_drop, HLN.out]; exact Nat.le_refl _)
      rw [e] at hcut
      have hle := leadF_le isZ (l.drop a)
      rw [List.length_drop, HLN.out] at hle
      have HC := Lib.hid (lead_free _ _ _ _ wr hcut (HSZ.out.below HB.out))
      obtain ⟨m, hm⟩ : ∃ m, m = leadF isZ (l.drop a) := ⟨_, rfl⟩
      rw [← hm] at hle HC
      have HM := Lib.hid hm
      clear hm hcut e
      go_wp2_with fail
      refine HC.out.mono ?_
      rintro e w' ⟨rfl, hb2⟩
      have HB2 := Lib.hid (HB.out.trans (hb2.mono HB.out.size))
      have HOW2 := Lib.hid (HOW.out.below hb2)
      clear hb2
      by_cases hm0 : 0 < m
      · have HR1 := Lib.hid (runsI_run l (by rw [HLN.out]; exact hlt) HM.out.symm hm0)
        have hra : rs.length < 1000000 := by omega
        have HRA := Lib.hid hra
        have HBS := Lib.hid HB2.out.size
        clear hra
        go_wp2_with (at_builtin; refine wp_appR _ rfl (.tmp 18) (.tmp 22) rfl w.heap.size u3 rs a m rfl HOW2.out _ rfl rfl HRA.out HBS.out ?_; intro v1 w1 hown1 hb1; have HOW1 := Lib.hid hown1; have HB1 := Lib.hid (HB2.out.trans hb1); clear hown1 hb1)
        go_roundw
        case rel =>
          refine ⟨a + m + 1, rs ++ [(a, m)], by go_num, by omega, by rw [List.length_append, List.length_singleton]; omega, HOW1.out, ?_, HB1.out⟩
          rw [← HRS.out, HR1.out, List.append_assoc]; rfl
        case measure => simp [intOf]; omega
      · obtain rfl : m = 0 := by omega
        have HR1 := Lib.hid (runsI_skip l (by rw [HLN.out]; exact hlt) HM.out.symm)
        go_wp2
        go_roundw
        case rel => exact ⟨a + 1, rs, by go_num, by omega, by omega, HOW2.out, by rw [← HR1.out]; exact HRS.out, HB2.out⟩
        case measure => simp [intOf]; omega
    · have hltI : ¬ (a : Int) < (n : Int) := by omega
      have HE : Hid (RunTo w (runsI l 0) (.returned u3) wr) := Lib.hid (by
        have hz := HRS.out
        rw [runsI_end l (by rw [HLN.out]; omega), List.append_nil] at hz
        rw [← hz]
        obtain ⟨A', c', hv, g1⟩ := HOW.out.ps
        exact ⟨A', c', by rw [hv], g1, HB.out⟩)
      go_wp2
      go_ret
      exact HE.out
/-- what First answers -/
def firA (l : List Pg) (m : Int) : Int := if firstI l m 0 = -1 then 0 else firstI l m 0
def firB (l : List Pg) (m : Int) : Bool := decide (firstI l m 0 ≠ -1)
theorem firstR_drop (m : Int) (rs : List (Nat × Nat)) (k : Nat) (hk : k < rs.length) : firstR m (rs.drop k) = if 1 ≤ m ∧ m ≤ ((rs.getD k (0, 0)).2 : Int) then ((rs.getD k (0, 0)).1 : Int) else firstR m (rs.drop (k + 1)) := by
  rw [List.drop_eq_getElem_cons hk, List.getD_eq_getElem?_getD, List.getElem?_eq_getElem hk]; rfl
end Go.Proofs.YtooahpfeamobcaaDoor
