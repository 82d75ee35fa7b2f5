/-
  Parts of a text are joined.
-/
import Derived.Test.YtoclelpmampikaaGreatBkE
import Derived.Test.YtoclelpmampikaaGreatSupJ
namespace Go.Proofs.YtoclelpmampikaaGreat
open Go.RowKit Go
set_option linter.unusedVariables false
set_option linter.unusedSimpArgs false
/-- the slice V has parts that read as Ls -/
def Pts (w : World) (V : Value) (Ls : List (List Nat)) : Prop :=
  ∃ P c, V = .slice P Ls.length c ∧ Ls.length ≤ c ∧ (0 < Ls.length → ∃ b o, P = some ⟨b, o, none⟩ ∧ b < w.heap.size ∧
    ∀ i, i < Ls.length → ∃ A c', w.cell? ⟨b, o + i, none⟩ = some (.slice A (Ls.getD i []).length c') ∧ BS w w.heap.size A (Ls.getD i []).length c' (Ls.getD i []))
theorem Pts.below {w w' : World} {V : Value} {Ls : List (List Nat)} (h : Pts w V Ls) (hb : Below w.heap.size w w') : Pts w' V Ls := by
  obtain ⟨P, c, h1, h2, h3⟩ := h
  refine ⟨P, c, h1, h2, fun h0 => ?_⟩
  obtain ⟨b, o, k1, k2, k3⟩ := h3 h0
  refine ⟨b, o, k1, Nat.lt_of_lt_of_le k2 hb.size, fun i hi => ?_⟩
  obtain ⟨A, c', q1, q2⟩ := k3 i hi
  exact ⟨A, c', (hb.cell (p := ⟨b, o + i, none⟩) k2).trans q1, (q2.below hb).more hb.size⟩
theorem Pts.byte {w : World} {V : Value} {Ls : List (List Nat)} (h : Pts w V Ls) (i j : Nat) : (Ls.getD i []).getD j 0 < 256 := by
  by_cases hi : i < Ls.length
  · obtain ⟨P, c, h1, h2, h3⟩ := h
    obtain ⟨b, o, k1, k2, k3⟩ := h3 (by omega)
    obtain ⟨A, c', _, q2⟩ := k3 i hi
    exact q2.byte j
  · have e : Ls[i]? = none := List.getElem?_eq_none (by omega)
    have e2 : Ls.getD i [] = [] := by rw [List.getD_eq_getElem?_getD, e]; rfl
    rw [e2]; simp
def bk_u8s (l : List Nat) : List UInt8 := l.map UInt8.ofNat
theorem bk_u8s_at {l : List Nat} (h : ∀ i, l.getD i 0 < 256) {i : Nat} {x : UInt8} (hx : (bk_u8s l)[i]? = some x) : (x.toNat : Int) = ((l.getD i 0 : Nat) : Int) := by
  unfold bk_u8s at hx
  rw [List.getElem?_map] at hx
  have hi : i < l.length := by
    rcases Nat.lt_or_ge i l.length with h1 | h1
    · exact h1
    · rw [List.getElem?_eq_none h1] at hx; cases hx
  rw [List.getElem?_eq_getElem hi] at hx
  have e := Option.some.inj hx
  have hb := h i
  simp only [List.getD, List.getElem?_eq_getElem hi, Option.getD_some] at hb ⊢
  rw [← e, UInt8.toNat_ofNat', Nat.mod_eq_of_lt hb]
theorem bk_u8s_len (l : List Nat) : (bk_u8s l).length = l.length := by simp [bk_u8s]
theorem bk_u8s_lt {l : List Nat} {i : Nat} {x : UInt8} (hx : (bk_u8s l)[i]? = some x) : i < l.length := by
  rcases Nat.lt_or_ge i l.length with h9 | h9
  · exact h9
  · rw [List.getElem?_eq_none (by rw [bk_u8s_len]; exact h9)] at hx; cases hx
/-- .. and a nil slice has no room -/
def JoinTo (w : World) (l : List Nat) (e : Ending) (w' : World) : Prop :=
  ∃ A c, e = .returned (.slice A l.length c) ∧ Below w.heap.size w w' ∧ BS w' w'.heap.size A l.length c l ∧ (A = none → c = 0)
theorem bk_fresh {w w' : World} {v : Value} {l : List Nat} (hby : ∀ i, l.getD i 0 < 256) (h : Lib.FreshBytes w.heap.size w' v (bk_u8s l)) (hb : Below w.heap.size w w') : JoinTo w l (.returned v) w' := by
  obtain ⟨g, cap, zs, rfl, hg, hlc, hcm, hzl, hzr, hbo, hcell, _⟩ := h
  rw [bk_u8s_len] at hlc hbo ⊢
  refine ⟨_, cap, rfl, hb, ⟨rfl, hlc, by unfold maxLen at hcm; omega, hby, fun hl0 => ⟨g, 0, rfl, block_lt_of_cell (hcell 0 (by omega)), fun i hi => ?_⟩⟩, fun e => by cases e⟩
  rw [Nat.zero_add, hcell i (by omega)]
  have hi2 : i < zs.length := by omega
  have k1 : (Lib.bytesOf (zs.take l.length))[i]? = some (UInt8.ofNat (zs[i]).toNat) := by
    unfold Lib.bytesOf
    rw [List.getElem?_map, List.getElem?_take_of_lt hi, List.getElem?_eq_getElem hi2]; rfl
  rw [hbo] at k1
  have q := bk_u8s_at hby k1
  have hr := hzr zs[i] (List.getElem_mem hi2)
  have e2 : zs.getD i 0 = zs[i] := by simp [List.getD, List.getElem?_eq_getElem hi2]
  rw [e2, ← q, UInt8.toNat_ofNat', Nat.mod_eq_of_lt (by omega)]
  congr 2
  omega
theorem bk_flat_byte {Ls : List (List Nat)} (h : ∀ i j, (Ls.getD i []).getD j 0 < 256) (i : Nat) : Ls.flatten.getD i 0 < 256 := by
  induction Ls generalizing i with
  | nil => simp
  | cons a Ls ih =>
    rw [List.flatten_cons]
    exact byte_app (fun j => h 0 j) (fun j => ih (fun k m => h (k + 1) m) j) i
theorem bk_join_flat (Ls : List (List Nat)) : Lib.join (Ls.map bk_u8s) [] = bk_u8s Ls.flatten := by
  unfold Lib.join
  induction Ls with
  | nil => rfl
  | cons a Ls ih =>
    cases Ls with
    | nil => simp [List.intercalate, bk_u8s]
    | cons b Ls =>
      have e : ([] : List UInt8).intercalate (bk_u8s a :: bk_u8s b :: Ls.map bk_u8s) = bk_u8s a ++ ([] : List UInt8).intercalate (bk_u8s b :: Ls.map bk_u8s) := by simp [List.intercalate]
      rw [List.map_cons, List.map_cons, e, ← List.map_cons, ih]
      simp [bk_u8s]
theorem bk_lens (Ls : List (List Nat)) : Lib.lens (Ls.map bk_u8s) = Ls.flatten.length := by
  unfold Lib.lens
  induction Ls with
  | nil => rfl
  | cons a Ls ih => simp only [List.map_cons, List.sum_cons, List.flatten_cons, List.length_append, ih, bk_u8s_len]
theorem bk_join (V : Value) (Ls : List (List Nat)) (w : World) (h : Pts w V Ls) (hn : Ls.length ≤ 1000000) (hl : Ls.flatten.length ≤ 1000000) :
    Calls Tryz.prog 61 #[V, .slice none 0 0] w (JoinTo w Ls.flatten) := by
  have hby := bk_flat_byte h.byte
  obtain ⟨P, c, rfl, hc, hP⟩ := h
  rcases (by omega : Ls.length = 0 ∨ Ls.length = 1 ∨ 2 ≤ Ls.length) with h0 | h1 | h2
  · obtain rfl := List.length_eq_zero_iff.mp h0
    refine (Any.bytes_Join_none laysJ P c (.slice none 0 0) w).mono fun e w' ⟨he, hw⟩ => ?_
    subst he; subst hw
    exact ⟨_, 0, rfl, (Below.refl _ _).alloc (Nat.le_refl _) _, ⟨rfl, Nat.le_refl _, by omega, by simp, fun q => absurd q (by simp)⟩, fun e => by cases e⟩
  · obtain ⟨l, rfl⟩ := List.length_eq_one_iff.mp h1
    obtain ⟨b, o, rfl, hb, hat⟩ := hP (by simp)
    obtain ⟨A, c0, k1, k2⟩ := hat 0 (by simp)
    have e0 : ([l] : List (List Nat)).getD 0 [] = l := rfl
    rw [e0] at k1 k2
    rw [Nat.add_zero] at k1
    have e1 : ([l] : List (List Nat)).flatten = l := by simp
    rw [e1] at hby hl ⊢
    by_cases hz : l.length = 0
    · obtain rfl := List.length_eq_zero_iff.mp hz
      refine (Any.bytes_Join_one_empty laysJ b o c A c0 (.slice none 0 0) w k1).mono fun e w' ⟨he, hw⟩ => ?_
      subst he; subst hw
      exact ⟨none, 0, rfl, Below.refl _ _, BS.nil _ _, fun _ => rfl⟩
    · obtain ⟨bb, oo, rfl, hbb, hcell⟩ := k2.at_ (by omega)
      have hj := Any.bytes_Join_one laysJ b o c ⟨bb, oo, none⟩ c0 (bk_u8s l) (.slice none 0 0) w (by rw [bk_u8s_len]; exact k1) (fun i x hx => by
        rw [Go.WideShapes.add_plain, hcell i (bk_u8s_lt hx), bk_u8s_at k2.byte hx]) (by rw [bk_u8s_len]; omega) (by rw [bk_u8s_len]; omega)
      refine hj.mono fun e w' ⟨v, he, hf, hb⟩ => ?_
      subst he
      exact bk_fresh k2.byte hf hb
  · obtain ⟨b, o, rfl, hb, hat⟩ := hP (by omega)
    have hvs : ∃ vs : List Value, vs.length = Ls.length ∧ ∀ i, i < Ls.length → ∃ A c, vs[i]? = some (.slice A (Ls.getD i []).length c) ∧ w.cell? ⟨b, o + i, none⟩ = some (.slice A (Ls.getD i []).length c) ∧ BS w w.heap.size A (Ls.getD i []).length c (Ls.getD i []) := by
      refine ⟨(List.range Ls.length).map fun i => (w.cell? ⟨b, o + i, none⟩).getD undef, by simp, fun i hi => ?_⟩
      obtain ⟨A, c, k1, k2⟩ := hat i hi
      exact ⟨A, c, by rw [List.getElem?_map, List.getElem?_range hi]; simp [k1], k1, k2⟩
    obtain ⟨vs, hvl, hv⟩ := hvs
    have hPA : Lib.PartsAt w ⟨b, o, none⟩ vs (Ls.map bk_u8s) := by
      refine ⟨by rw [hvl, List.length_map], fun i v hi => ?_, fun i v l hi hl => ?_⟩
      · have hlt : i < Ls.length := by
          rcases Nat.lt_or_ge i vs.length with h9 | h9
          · omega
          · rw [List.getElem?_eq_none h9] at hi; cases hi
        obtain ⟨A, c, k0, k1, _⟩ := hv i hlt
        rw [hi] at k0
        rw [Option.some.inj k0, Go.WideShapes.add_plain, k1]
      · have hlt : i < Ls.length := by
          rcases Nat.lt_or_ge i vs.length with h9 | h9
          · omega
          · rw [List.getElem?_eq_none h9] at hi; cases hi
        obtain ⟨A, c, k0, k1, k2⟩ := hv i hlt
        rw [hi] at k0
        have e9 : l = bk_u8s (Ls.getD i []) := by
          rw [List.getElem?_map, List.getElem?_eq_getElem hlt] at hl
          rw [← Option.some.inj hl]; simp [List.getD, List.getElem?_eq_getElem hlt]
        subst e9
        refine ⟨_, c, by rw [bk_u8s_len]; exact Option.some.inj k0, (fun e => ?_), fun a ea j x hx => ?_⟩
        · subst e
          have hz : (Ls.getD i []).length = 0 := by
            rcases Nat.eq_zero_or_pos (Ls.getD i []).length with q | q
            · exact q
            · obtain ⟨_, _, e, _⟩ := k2.at_ q
              cases e
          rw [List.length_eq_zero_iff.mp hz]; rfl
        · have hj := bk_u8s_lt hx
          obtain ⟨bb, oo, e8, hbb, hcell⟩ := k2.at_ (by omega)
          rw [ea] at e8
          obtain rfl := Option.some.inj e8
          rw [Go.WideShapes.add_plain, hcell j hj, bk_u8s_at k2.byte hx]
    have hj := Any.bytes_Join_many laysJ b o Ls.length c vs (Ls.map bk_u8s) (.slice none 0 0) [] w (by rw [List.length_map]) h2 hPA hc ⟨none, 0, rfl, fun _ => rfl, fun a ea => by cases ea⟩ (by omega) (by rw [bk_lens, List.length_nil, Nat.zero_mul]; omega)
    refine hj.mono fun e w' ⟨v, he, hf, hb⟩ => ?_
    subst he
    rw [bk_join_flat] at hf
    exact bk_fresh hby hf hb
end Go.Proofs.YtoclelpmampikaaGreat
