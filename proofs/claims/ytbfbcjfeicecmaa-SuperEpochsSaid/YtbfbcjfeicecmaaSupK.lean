/-
  Rows of slices of bytes: joined, looked through; what Epochs answers.
-/
import Derived.Test.YtbfbcjfeicecmaaSupF
import Derived.Test.YtbfbcjfeicecmaaSupJ
namespace Go.Proofs.Ytbfbcjfeicecmaa
open Go.RowKit Go
set_option linter.unusedVariables false
set_option linter.unusedSimpArgs false
/-- from place o of block b on there are slices that read as Ls -/
def Bks (w : World) (b o : Nat) (Ls : List (List Nat)) : Prop :=
  b < w.heap.size ∧ ∀ i, i < Ls.length → ∃ A c, w.cell? ⟨b, o + i, none⟩ = some (.slice A (Ls.getD i []).length c) ∧ BS w w.heap.size A (Ls.getD i []).length c (Ls.getD i [])
theorem Bks.below {w w' : World} {b o : Nat} {Ls : List (List Nat)} (h : Bks w b o Ls) (hb : Below w.heap.size w w') : Bks w' b o Ls :=
  ⟨Nat.lt_of_lt_of_le h.1 hb.size, fun i hi => by
    obtain ⟨A, c, h1, h2⟩ := h.2 i hi
    exact ⟨A, c, (hb.cell (p := ⟨b, o + i, none⟩) h.1).trans h1, (h2.below hb).more hb.size⟩⟩
def u8s (l : List Nat) : List UInt8 := l.map UInt8.ofNat
theorem u8s_at {l : List Nat} (h : ∀ i, l.getD i 0 < 256) {i : Nat} {x : UInt8} (hx : (u8s l)[i]? = some x) : (x.toNat : Int) = ((l.getD i 0 : Nat) : Int) := by
  unfold u8s at hx
  rw [List.getElem?_map] at hx
  have hi : i < l.length := by
    rcases Nat.lt_or_ge i l.length with h1 | h1
    · exact h1
    · rw [List.getElem?_eq_none h1] at hx; cases hx
  rw [List.getElem?_eq_getElem hi] at hx
  have e := Option.some.inj hx
  have hb := h i
  simp only [List.getD, List.getElem?_eq_getElem hi, Option.getD_some] at hb ⊢
  rw [← e, UInt8.toNat_ofNat', Nat.mod_eq_of_lt hb]
theorem u8s_len (l : List Nat) : (u8s l).length = l.length := by simp [u8s]
theorem u8s_inj {l m : List Nat} (h : ∀ i, l.getD i 0 < 256) (h2 : ∀ i, m.getD i 0 < 256) (e : u8s l = u8s m) : l = m := by
  have hl : l.length = m.length := by have := congrArg List.length e; simpa [u8s] using this
  apply List.ext_getElem hl
  intro i h1 h3
  have k1 : (u8s l)[i]? = some (UInt8.ofNat l[i]) := by unfold u8s; rw [List.getElem?_map, List.getElem?_eq_getElem h1]; rfl
  have k2 : (u8s m)[i]? = some (UInt8.ofNat m[i]) := by unfold u8s; rw [List.getElem?_map, List.getElem?_eq_getElem h3]; rfl
  have q1 := u8s_at h k1
  have q2 := u8s_at h2 k2
  rw [e, k2] at k1
  have e3 := Option.some.inj k1
  rw [← e3, q2] at q1
  simp only [List.getD, List.getElem?_eq_getElem h1, List.getElem?_eq_getElem h3, Option.getD_some] at q1
  omega
/-- a fresh slice of the library's, as ours -/
theorem fresh_gives {w w' : World} {v : Value} {l : List Nat} (hby : ∀ i, l.getD i 0 < 256) (h : Lib.FreshBytes w.heap.size w' v (u8s l)) (hb : Below w.heap.size w w') (hl0 : 0 < l.length) : Gives w l (.returned v) w' := by
  obtain ⟨g, cap, zs, rfl, hg, hlc, hcm, hzl, hzr, hbo, hcell, _⟩ := h
  rw [u8s_len] at hlc hbo ⊢
  have hg2 : g < w'.heap.size := block_lt_of_cell (hcell 0 (by omega))
  refine ⟨_, cap, rfl, hb, rfl, hlc, by unfold maxLen at hcm; omega, hby, fun _ => ⟨g, 0, rfl, hg2, fun i hi => ?_⟩⟩
  rw [Nat.zero_add, hcell i (by omega)]
  have hi2 : i < zs.length := by omega
  have k1 : (Lib.bytesOf (zs.take l.length))[i]? = some (UInt8.ofNat (zs[i]).toNat) := by
    unfold Lib.bytesOf
    rw [List.getElem?_map, List.getElem?_take_of_lt hi, List.getElem?_eq_getElem hi2]; rfl
  rw [hbo] at k1
  have q := u8s_at hby k1
  have hr := hzr zs[i] (List.getElem_mem hi2)
  have e2 : zs.getD i 0 = zs[i] := by simp [List.getD, List.getElem?_eq_getElem hi2]
  rw [e2, ← q, UInt8.toNat_ofNat', Nat.mod_eq_of_lt (by omega)]
  congr 2
  omega
theorem flat_byte {Ls : List (List Nat)} (h : ∀ i j, (Ls.getD i []).getD j 0 < 256) (i : Nat) : Ls.flatten.getD i 0 < 256 := by
  induction Ls generalizing i with
  | nil => simp
  | cons a Ls ih =>
    rw [List.flatten_cons]
    exact app_byte (fun j => h 0 j) (fun j => ih (fun k m => h (k + 1) m) j) i
theorem join_flat (Ls : List (List Nat)) : Lib.join (Ls.map u8s) [] = u8s Ls.flatten := by
  unfold Lib.join
  induction Ls with
  | nil => rfl
  | cons a Ls ih =>
    cases Ls with
    | nil => simp [List.intercalate, u8s]
    | cons b Ls =>
      have e : ([] : List UInt8).intercalate (u8s a :: u8s b :: Ls.map u8s) = u8s a ++ ([] : List UInt8).intercalate (u8s b :: Ls.map u8s) := by simp [List.intercalate]
      rw [List.map_cons, List.map_cons, e, ← List.map_cons, ih]
      simp [u8s]
def All256 (Ls : List (List Nat)) : Prop := ∀ i, i < Ls.length → (Ls.getD i []).length = 256
theorem flat_len {Ls : List (List Nat)} (h : All256 Ls) : Ls.flatten.length = 256 * Ls.length := by
  induction Ls with
  | nil => rfl
  | cons a Ls ih =>
    have h0 := h 0 (by simp)
    have h1 := ih (fun i hi => by have := h (i + 1) (by simpa using hi); simpa using this)
    rw [List.flatten_cons, List.length_append, h1, List.length_cons]
    have : a.length = 256 := by simpa using h0
    omega
theorem lens_flat (Ls : List (List Nat)) : Lib.lens (Ls.map u8s) = Ls.flatten.length := by
  unfold Lib.lens
  induction Ls with
  | nil => rfl
  | cons a Ls ih => simp only [List.map_cons, List.sum_cons, List.flatten_cons, List.length_append, ih, u8s_len]
theorem Bks.byte {w : World} {b o : Nat} {Ls : List (List Nat)} (h : Bks w b o Ls) (i j : Nat) : (Ls.getD i []).getD j 0 < 256 := by
  by_cases hi : i < Ls.length
  · obtain ⟨A, c, _, h2⟩ := h.2 i hi
    exact h2.byte j
  · have e : Ls[i]? = none := List.getElem?_eq_none (by omega)
    have e2 : Ls.getD i [] = [] := by rw [List.getD_eq_getElem?_getD, e]; rfl
    rw [e2]; simp
theorem join_any (b o c : Nat) (Ls : List (List Nat)) (w : World) (h : Bks w b o Ls) (h1 : 1 ≤ Ls.length) (h3 : Ls.length ≤ 3) (hc : Ls.length ≤ c) (ha : All256 Ls) :
    Calls Try.prog 47 #[.slice (some ⟨b, o, none⟩) Ls.length c, .slice none 0 0] w (Gives w Ls.flatten) := by
  have hby := flat_byte h.byte
  have hfl := flat_len ha
  by_cases hn : Ls.length = 1
  · obtain ⟨l, rfl⟩ : ∃ l, Ls = [l] := List.length_eq_one_iff.mp hn
    obtain ⟨A, c0, k1, k2⟩ := h.2 0 (by simp)
    have hl : l.length = 256 := by simpa using ha 0 (by simp)
    have e0 : ([l] : List (List Nat)).getD 0 [] = l := rfl
    rw [e0] at k1 k2
    obtain ⟨bb, oo, rfl, hbb, hcell⟩ := k2.at_ (by omega)
    have hj := Any.bytes_Join_one laysJ b o c ⟨bb, oo, none⟩ c0 (u8s l) (.slice none 0 0) w (by rw [u8s_len]; exact k1) (fun i x hx => by
      have hi : i < l.length := by
        rcases Nat.lt_or_ge i l.length with h9 | h9
        · exact h9
        · rw [List.getElem?_eq_none (by rw [u8s_len]; exact h9)] at hx; cases hx
      rw [Go.WideShapes.add_plain, hcell i hi, u8s_at k2.byte hx]) (by rw [u8s_len]; omega) (by rw [u8s_len]; omega)
    refine hj.mono fun e w' ⟨v, he, hf, hb⟩ => ?_
    subst he
    have e1 : ([l] : List (List Nat)).flatten = l := by simp
    rw [e1]
    exact fresh_gives k2.byte hf hb (by omega)
  · -- two or three
    have hvs : ∃ vs : List Value, vs.length = Ls.length ∧ ∀ i, i < Ls.length → ∃ A c, vs[i]? = some (.slice A (Ls.getD i []).length c) ∧ w.cell? ⟨b, o + i, none⟩ = some (.slice A (Ls.getD i []).length c) ∧ BS w w.heap.size A (Ls.getD i []).length c (Ls.getD i []) := by
      refine ⟨(List.range Ls.length).map fun i => (w.cell? ⟨b, o + i, none⟩).getD undef, by simp, fun i hi => ?_⟩
      obtain ⟨A, c, k1, k2⟩ := h.2 i hi
      exact ⟨A, c, by rw [List.getElem?_map, List.getElem?_range hi]; simp [k1], k1, k2⟩
    obtain ⟨vs, hvl, hv⟩ := hvs
    have hP : Lib.PartsAt w ⟨b, o, none⟩ vs (Ls.map u8s) := by
      refine ⟨by rw [hvl, List.length_map], fun i v hi => ?_, fun i v l hi hl => ?_⟩
      · have hlt : i < Ls.length := by
          rcases Nat.lt_or_ge i vs.length with h9 | h9
          · omega
          · rw [List.getElem?_eq_none h9] at hi; cases hi
        obtain ⟨A, c, k0, k1, _⟩ := hv i hlt
        rw [hi] at k0
        rw [Option.some.inj k0, Go.WideShapes.add_plain, k1]
      · have hlt : i < Ls.length := by
          rcases Nat.lt_or_ge i vs.length with h9 | h9
          · omega
          · rw [List.getElem?_eq_none h9] at hi; cases hi
        obtain ⟨A, c, k0, k1, k2⟩ := hv i hlt
        rw [hi] at k0
        have e9 : l = u8s (Ls.getD i []) := by
          rw [List.getElem?_map, List.getElem?_eq_getElem hlt] at hl
          rw [← Option.some.inj hl]; simp [List.getD, List.getElem?_eq_getElem hlt]
        subst e9
        have hl6 := ha i hlt
        obtain ⟨bb, oo, rfl, hbb, hcell⟩ := k2.at_ (by omega)
        refine ⟨_, c, by rw [u8s_len]; exact Option.some.inj k0, (fun e => by cases e), fun a ea j x hx => ?_⟩
        obtain rfl := Option.some.inj ea
        have hj : j < (Ls.getD i []).length := by
          rcases Nat.lt_or_ge j (Ls.getD i []).length with h9 | h9
          · exact h9
          · rw [List.getElem?_eq_none (by rw [u8s_len]; exact h9)] at hx; cases hx
        rw [Go.WideShapes.add_plain, hcell j hj, u8s_at k2.byte hx]
    have hj := Any.bytes_Join_many laysJ b o Ls.length c vs (Ls.map u8s) (.slice none 0 0) [] w (by rw [List.length_map]) (by omega) hP hc ⟨none, 0, rfl, fun _ => rfl, fun a ea => by cases ea⟩ (by omega) (by rw [lens_flat, hfl]; simp; omega)
    refine hj.mono fun e w' ⟨v, he, hf, hb⟩ => ?_
    subst he
    rw [join_flat] at hf
    exact fresh_gives hby hf hb (by omega)
/-! a row is looked through -/
def IdxRel (Ls : List (List Nat)) (i : Value) : Prop := ∃ k : Nat, i = .int .i64 (k : Int) ∧ k ≤ Ls.length ∧ ∀ j, j < k → (Ls.getD j []).length = 256
set_option maxHeartbeats 1000000 in
theorem index_no (b o c : Nat) (Ls : List (List Nat)) (w : World) (h : Bks w b o Ls) (hc : Ls.length ≤ 1000) (ha : All256 Ls) :
    Calls Try.prog 68 #[.slice (some ⟨b, o, none⟩) Ls.length c, .func (Fn.func 38) #[] #[]] w fun e w' => e = .returned (.int .i64 (-1)) ∧ w = w' := by
  have HK := Lib.hid h
  have HA := Lib.hid ha
  clear h ha
  go_enter Try.func68, Try.ntmps68
  go_wp2
  go_loop [8] (fun i => ∃ k : Nat, i = .int .i64 (k : Int) ∧ k ≤ Ls.length) (fun i => (Ls.length - intOf i).toNat)
  case atStart => exact ⟨0, rfl, by omega⟩
  case round =>
    obtain ⟨k, rfl, hk⟩ := hrel
    by_cases hlt : k < Ls.length
    · obtain ⟨A, c1, k1, k2⟩ := HK.out.2 k hlt
      rw [HA.out k hlt] at k1
      clear k2
      go_wp2_with fail
      refine (odd_no A c1 _).mono ?_
      rintro e w' ⟨rfl, rfl⟩
      go_wp2
      go_round
      case rel => exact ⟨k + 1, rfl, by omega⟩
      case measure => simp [intOf]; omega
    · obtain rfl : k = Ls.length := by omega
      go_wp2
      go_ret
      exact ⟨rfl, rfl⟩
def SomeIdx (w : World) (e : Ending) (w' : World) : Prop := ∃ k : Nat, e = .returned (.int .i64 (k : Int)) ∧ k < 1000 ∧ w = w'
set_option maxHeartbeats 1000000 in
theorem index_yes (b o c i0 : Nat) (Ls : List (List Nat)) (w : World) (h : Bks w b o Ls) (hc : Ls.length ≤ 1000) (hi : i0 < Ls.length) (ho : (Ls.getD i0 []).length ≠ 256) :
    Calls Try.prog 68 #[.slice (some ⟨b, o, none⟩) Ls.length c, .func (Fn.func 38) #[] #[]] w (SomeIdx w) := by
  have HK := Lib.hid h
  have HO := Lib.hid ho
  clear h ho
  go_enter Try.func68, Try.ntmps68
  go_wp2
  go_loop [8] (fun i => ∃ k : Nat, i = .int .i64 (k : Int) ∧ k ≤ i0) (fun i => (Ls.length - intOf i).toNat)
  case atStart => exact ⟨0, rfl, by omega⟩
  case round =>
    obtain ⟨k, rfl, hk⟩ := hrel
    have hlt : k < Ls.length := by omega
    obtain ⟨A, c1, k1, k2⟩ := HK.out.2 k hlt
    by_cases hl : (Ls.getD k []).length = 256
    · have hne : k ≠ i0 := fun e => HO.out (e ▸ hl)
      rw [hl] at k1
      clear k2 hl
      go_wp2_with fail
      refine (odd_no A c1 _).mono ?_
      rintro e w' ⟨rfl, rfl⟩
      go_wp2
      go_round
      case rel => exact ⟨k + 1, rfl, by omega⟩
      case measure => simp [intOf]; omega
    · have HL := Lib.hid hl
      generalize (Ls.getD k []).length = n at *
      have HF : Hid (SomeIdx w (.returned (.int .i64 (k : Int))) w) := Lib.hid ⟨k, rfl, by omega, rfl⟩
      clear k2 hl
      go_wp2_with fail
      refine (odd_yes A n c1 HL.out _).mono ?_
      rintro e w' ⟨rfl, rfl⟩
      go_wp2
      go_ret
      exact HF.out
theorem contains_no (b o c : Nat) (Ls : List (List Nat)) (w : World) (h : Bks w b o Ls) (hc : Ls.length ≤ 1000) (ha : All256 Ls) :
    Calls Try.prog 44 #[.slice (some ⟨b, o, none⟩) Ls.length c, .func (Fn.func 38) #[] #[]] w fun e w' => e = .returned (.bool false) ∧ w = w' := by
  have HI := Lib.hid (index_no b o c Ls w h hc ha)
  clear h ha
  go_enter Try.func44, Try.ntmps44
  go_wp2_with fail
  refine HI.out.mono ?_
  rintro e w' ⟨rfl, rfl⟩
  go_wp2
  go_ret
  exact ⟨rfl, rfl⟩
theorem contains_yes (b o c i0 : Nat) (Ls : List (List Nat)) (w : World) (h : Bks w b o Ls) (hc : Ls.length ≤ 1000) (hi : i0 < Ls.length) (ho : (Ls.getD i0 []).length ≠ 256) :
    Calls Try.prog 44 #[.slice (some ⟨b, o, none⟩) Ls.length c, .func (Fn.func 38) #[] #[]] w fun e w' => e = .returned (.bool true) ∧ w = w' := by
  have HI := Lib.hid (index_yes b o c i0 Ls w h hc hi ho)
  clear h ho
  go_enter Try.func44, Try.ntmps44
  go_wp2_with fail
  refine HI.out.mono ?_
  rintro e w' ⟨k, rfl, hk, rfl⟩
  go_wp2
  go_ret
  exact ⟨by first | rfl | exact ret_bool (decide_eq_true (by omega)), rfl⟩
end Go.Proofs.Ytbfbcjfeicecmaa
