/-
  Logs that may be are told by their blocks; Encode of any log.
-/
import Derived.Test.YtnalebocfbbpdaaLgO
import Derived.Test.YtnalebocfbbpdaaLgM
namespace Go.Proofs.Ytnalebocfbbpdaa
open Go.RowKit Go
set_option linter.unusedVariables false
set_option linter.unusedSimpArgs false
set_option maxRecDepth 100000
theorem putL_inj {n a b : Nat} (ha : a < 256 ^ n) (hb : b < 256 ^ n) (h : putL n a = putL n b) : a = b := by
  have h2 := congrArg num h
  rwa [num_putL, num_putL, Nat.mod_eq_of_lt ha, Nat.mod_eq_of_lt hb] at h2
theorem padL_inj {l l2 : List Nat} {n : Nat} (hl : l.length = l2.length) (hn : l.length ≤ n) (h : padL l n = padL l2 n) : l = l2 := by
  refine List.ext_getElem hl fun i h1 h2 => ?_
  have h3 : (padL l n).getD i 0 = (padL l2 n).getD i 0 := by rw [h]
  rw [padL_at, padL_at, if_pos (by omega), if_pos (by omega)] at h3
  simpa [List.getD, List.getElem?_eq_getElem h1, List.getElem?_eq_getElem h2] using h3
theorem kL_inj {es es2 : List (Int × List Nat)} (hK : KOk es) (hK2 : KOk es2) (hl : es.length = es2.length) : ∀ k, k ≤ es.length → kL es k = kL es2 k → ∀ i, i < k → kAt es i = kAt es2 i
  | 0, _, _, i, hi => by omega
  | k + 1, hk, h, i, hi => by
    rw [kL_step es (by omega), kL_step es2 (by omega)] at h
    obtain ⟨h1, h2⟩ := List.append_inj h (by rw [kL_len es k (by omega), kL_len es2 k (by omega)])
    by_cases e : i = k
    · subst e
      have a := hK i (by omega)
      have b := hK2 i (by omega)
      have := putL_inj (by omega) (by omega) h2
      omega
    · exact kL_inj hK hK2 hl k (by omega) h1 i (by omega)
theorem dAt_map (es : List (Int × List Nat)) (i : Nat) : dAt es i = (es.map (·.2)).getD i [] := by
  unfold dAt
  rw [List.getD_eq_getElem?_getD, List.getD_eq_getElem?_getD, List.getElem?_map]
  cases es[i]? <;> rfl
theorem blksL_all (cnt : Nat) (es : List (Int × List Nat)) : blksL cnt es es.length = headL cnt es :: es.map (·.2) := by
  unfold blksL; rw [List.take_length]
theorem blks_inj {ca cb : Nat} {es es2 : List (Int × List Nat)} (hca : ca < 2 ^ 64) (hcb : cb < 2 ^ 64) (hK : KOk es) (hK2 : KOk es2) (hn : es.length ≤ 30) (hn2 : es2.length ≤ 30) :
    blksL ca es es.length = blksL cb es2 es2.length ↔ ca = cb ∧ es = es2 := by
  constructor
  · intro h
    rw [blksL_all, blksL_all] at h
    injection h with h1 h2
    have hl : es.length = es2.length := by have := congrArg List.length h2; simpa using this
    unfold headL at h1
    rw [← hl] at h1
    have h3 := padL_inj (by rw [List.length_append, List.length_append, headF_len, headF_len, kL_len es _ (Nat.le_refl _), kL_len es2 _ (by omega)]) (by rw [List.length_append, headF_len, kL_len es _ (Nat.le_refl _)]; omega) h1
    obtain ⟨h4, h5⟩ := List.append_inj h3 (by rw [headF_len, headF_len])
    unfold headF at h4
    simp only [List.flatten_cons, List.flatten_nil, List.append_nil] at h4
    obtain ⟨_, h6⟩ := List.append_inj h4 rfl
    obtain ⟨h7, _⟩ := List.append_inj h6 (by rw [putL_len, putL_len])
    refine ⟨putL_inj (by omega) (by omega) h7, es_ext hl fun i hi => ⟨kL_inj hK hK2 hl es.length (Nat.le_refl _) h5 i hi, ?_⟩⟩
    rw [dAt_map, dAt_map, h2]
  · rintro ⟨rfl, rfl⟩; rfl
/-- block g has rows of bytes -/
def Blk (w : World) (g : Nat) (Ls : List (List Nat)) : Prop := g < w.heap.size ∧ ∀ i, i < Ls.length → ∃ A c, w.cell? ⟨g, i, none⟩ = some (.slice A (Ls.getD i []).length c) ∧ BS w w.heap.size A (Ls.getD i []).length c (Ls.getD i [])
theorem Blk.below {w w' : World} {g : Nat} {Ls : List (List Nat)} (h : Blk w g Ls) (hb : Below w.heap.size w w') : Blk w' g Ls :=
  ⟨Nat.lt_of_lt_of_le h.1 hb.size, fun i hi => by
    obtain ⟨A, c, h1, h2⟩ := h.2 i hi
    exact ⟨A, c, (hb.cell (p := ⟨g, i, none⟩) h.1).trans h1, (h2.below hb).more hb.size⟩⟩
def EncAny (w : World) (p t : Int) (cnt : Nat) (es : List (Int × List Nat)) (e : Ending) (w' : World) : Prop :=
  ∃ v k, e = .returned (.tuple #[v, .int .i64 k]) ∧ Below w.heap.size w w' ∧ ((¬ MayG p t es ∧ v = .slice none 0 0 ∧ k = 1) ∨ (MayG p t es ∧ k = 0 ∧ ∃ g cap, v = .slice (some ⟨g, 0, none⟩) (es.length + 1) cap ∧ Blk w' g (blksL cnt es es.length)))
theorem encode_any (p t : Int) (cnt n c : Nat) (A : Option Addr) (es : List (Int × List Nat)) (hcnt : cnt < 2 ^ 64) (hn : n ≤ 1000) (w : World) (hE : EsV w A n es) :
    Calls Try.prog 6 #[.agg #[.int .i64 p, .int .i64 t], .agg #[.int .u64 (cnt : Int), .slice A n c]] w (EncAny w p t cnt es) := by
  by_cases hm : MayG p t es
  · have hg := hm.1
    have hml := hm.2
    obtain ⟨p', rfl⟩ : ∃ q : Nat, p = q := ⟨p.toNat, by unfold Geo.May at hg; omega⟩
    obtain ⟨t', rfl⟩ : ∃ q : Nat, t = q := ⟨t.toNat, by unfold Geo.May at hg; omega⟩
    have hml2 : MayL t' (Geo.se p') es := by simpa using hml
    have hl := hE.1
    subst hl
    obtain ⟨b, o, rfl, hEB⟩ := hE.2 hml2.1
    refine (encode_yes p' t' cnt b o c es hcnt hg hml2 (by unfold Geo.May at hg; unfold Geo.se Geo.mp; omega) w hEB).mono ?_
    rintro e w' ⟨v, rfl, hbr, hb⟩
    have hlen : (blksL cnt es es.length).length = es.length + 1 := by rw [blksL_all]; simp
    obtain ⟨g, cap, rfl, _, _, h1, h2⟩ := hbr.at_ (by omega)
    exact ⟨_, 0, rfl, hb, .inr ⟨hm, rfl, g, cap, by rw [hlen], h1, h2⟩⟩
  · refine (encode_no p t cnt n c A es hm hn w hE).mono ?_
    rintro e w' ⟨rfl, hb⟩
    exact ⟨_, 1, rfl, hb, .inl ⟨hm, rfl, rfl⟩⟩
theorem mayG_k {p t : Int} {es : List (Int × List Nat)} (h : MayG p t es) : KOk es := by
  have hg := h.1
  exact mayL_k h.2 (by unfold Geo.May at hg; unfold Geo.se Geo.mp; omega)
end Go.Proofs.Ytnalebocfbbpdaa
