/-
  logf: what was encoded is read as it was (numbers only).
-/
import Derived.Test.YtnalebocfbbpdaaLgX
namespace Go.Proofs.Ytnalebocfbbpdaa
open Go.RowKit Go
set_option linter.unusedVariables false
set_option linter.unusedSimpArgs false
set_option maxRecDepth 100000
theorem padL_app {l : List Nat} {n : Nat} (h : l.length ≤ n) : padL l n = l ++ List.replicate (n - l.length) 0 := by
  refine List.ext_getElem (by rw [padL_len, List.length_append, List.length_replicate]; omega) fun i h1 h2 => ?_
  have e1 : (padL l n).getD i 0 = (padL l n)[i] := by simp [List.getD, List.getElem?_eq_getElem h1]
  have hi : i < n := by rw [padL_len] at h1; exact h1
  rw [← e1, padL_at, if_pos hi]
  rcases Nat.lt_or_ge i l.length with h3 | h3
  · rw [List.getElem_append_left h3]; simp [List.getD, List.getElem?_eq_getElem h3]
  · rw [List.getElem_append_right h3, List.getElem_replicate, List.getD_eq_getElem?_getD, List.getElem?_eq_none h3]; rfl
theorem numAt_mid (a b c : List Nat) {i n : Nat} (ha : a.length = i) (hb : b.length = n) : numAt (a ++ (b ++ c)) i n = num b := by
  subst ha hb
  unfold numAt; rw [List.drop_left, List.take_left]
theorem headL_app {cnt : Nat} {es : List (Int × List Nat)} (hn : es.length ≤ 30) : headL cnt es = headF cnt es ++ (kL es es.length ++ List.replicate (256 - (18 + 2 * es.length)) 0) := by
  have hl : (headF cnt es ++ kL es es.length).length = 18 + 2 * es.length := by rw [List.length_append, headF_len, kL_len es _ (Nat.le_refl _)]
  unfold headL
  rw [padL_app (by rw [hl]; omega), hl, List.append_assoc]
theorem headF_app (cnt : Nat) (es : List (Int × List Nat)) : headF cnt es = sig ++ (putL 8 cnt ++ putL 2 es.length) := by unfold headF; simp
theorem head_cnt {cnt : Nat} {es : List (Int × List Nat)} (hc : cnt < 2 ^ 64) (hn : es.length ≤ 30) : numAt (headL cnt es) 8 8 = cnt := by
  rw [headL_app hn, headF_app, List.append_assoc, List.append_assoc, numAt_mid (i := 8) (n := 8) sig (putL 8 cnt) _ rfl (putL_len _ _), num_putL]
  exact Nat.mod_eq_of_lt (by omega)
theorem head_many {cnt : Nat} {es : List (Int × List Nat)} (hn : es.length ≤ 30) : numAt (headL cnt es) 16 2 = es.length := by
  rw [headL_app hn, headF_app, List.append_assoc, List.append_assoc, ← List.append_assoc sig, numAt_mid (i := 16) (n := 2) (sig ++ putL 8 cnt) (putL 2 es.length) _ (by rw [List.length_append, putL_len]; rfl) (putL_len _ _), num_putL]
  exact Nat.mod_eq_of_lt (by omega)
theorem kL_split (es : List (Int × List Nat)) {i : Nat} (hi : i < es.length) : ∃ r, kL es es.length = kL es i ++ (putL 2 (kAt es i).toNat ++ r) := by
  have key : ∀ d, i + 1 + d ≤ es.length → ∃ r, kL es (i + 1 + d) = kL es i ++ (putL 2 (kAt es i).toNat ++ r) := by
    intro d
    induction d with
    | zero => intro _; exact ⟨[], by rw [Nat.add_zero, kL_step es hi, List.append_nil]⟩
    | succ d ih =>
      intro h
      obtain ⟨r, hr⟩ := ih (by omega)
      exact ⟨r ++ putL 2 (kAt es (i + 1 + d)).toNat, by rw [← Nat.add_assoc, kL_step es (by omega), hr]; simp⟩
  have := key (es.length - (i + 1)) (by omega)
  rwa [show i + 1 + (es.length - (i + 1)) = es.length by omega] at this
theorem head_key {cnt : Nat} {es : List (Int × List Nat)} (hK : KOk es) (hn : es.length ≤ 30) {i : Nat} (hi : i < es.length) : readK (headL cnt es) i = kAt es i := by
  obtain ⟨r, hr⟩ := kL_split es hi
  have h2 := hK i hi
  unfold readK
  rw [headL_app hn, hr, List.append_assoc, ← List.append_assoc (headF cnt es), List.append_assoc (putL 2 _), numAt_mid (i := 18 + 2 * i) (n := 2) (headF cnt es ++ kL es i) (putL 2 (kAt es i).toNat) _ (by rw [List.length_append, headF_len, kL_len es i (by omega)]) (putL_len _ _), num_putL]
  rw [Nat.mod_eq_of_lt (by omega)]
  exact Int.toNat_of_nonneg h2.1
/-- the blocks of a log, with any others behind them -/
theorem read_back {cnt t : Nat} {es : List (Int × List Nat)} (hK : KOk es) (hn : es.length ≤ t) (ht : t ≤ 24) (X : List (List Nat)) : readL (headL cnt es) (blksL cnt es es.length ++ X) t = es := by
  unfold readL
  rw [head_many (by omega), if_neg (by omega)]
  refine es_ext (readE_len _ _ _) fun i hi => ?_
  rw [readE_len] at hi
  have e : (readE (headL cnt es) (blksL cnt es es.length ++ X) es.length).getD i (0, []) = (readK (headL cnt es) i, (blksL cnt es es.length ++ X).getD (1 + i) []) := by
    unfold readE
    rw [List.getD_eq_getElem?_getD, List.getElem?_map, List.getElem?_range hi]; rfl
  refine ⟨?_, ?_⟩
  · rw [show kAt (readE (headL cnt es) (blksL cnt es es.length ++ X) es.length) i = readK (headL cnt es) i from congrArg Prod.fst e, head_key hK (by omega) hi]
  · rw [show dAt (readE (headL cnt es) (blksL cnt es es.length ++ X) es.length) i = (blksL cnt es es.length ++ X).getD (1 + i) [] from congrArg Prod.snd e, blksL_all, dAt_map, Nat.add_comm]
    rw [List.cons_append, List.getD_cons_succ, List.getD_eq_getElem?_getD, List.getD_eq_getElem?_getD, List.getElem?_append_left (by simpa using hi)]
end Go.Proofs.Ytnalebocfbbpdaa
