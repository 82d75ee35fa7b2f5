/-
  Layer 18: pages of objects that are turned, as lists. No program is named here.
-/
import Derived.Test.YtflgcddgocojpaaDoorSlQ
namespace Go.Proofs.YtflgcddgocojpaaDoor
set_option linter.unusedVariables false
set_option linter.unusedSimpArgs false

theorem encO_get {z s : Nat} {b : List Nat} (hs : s ≠ 0) (i : Nat) : (encO z (s, b)).getD i 0 = if i < z then (if i < 2 then (putL 2 b.length).getD i 0 else if i < 8 then (putL 6 s).getD (i - 2) 0 else b.getD (i - 8) 0) else 0 := by
  rw [encO_at]
  split
  · have hr : rowO (s, b) = putL 2 b.length ++ (putL 6 s ++ b) := if_neg hs
    rw [hr, app_at, putL_len]
    split
    · rfl
    · rw [app_at, putL_len]
      by_cases h : i - 2 < 6
      · rw [if_pos h, if_pos (by omega)]
      · rw [if_neg h, if_neg (by omega), show i - 2 - 6 = i - 8 by omega]
  · rfl
theorem page_set {z S k : Nat} {l : List Ob} {t' : List Nat} {o : Ob} (hz : 0 < z) (hS : S * z ≤ 256) (hl : l.length = S) (hk : k < S) (ht : t'.length = 256)
    (h : ∀ i, i < 256 → t'.getD i 0 = if k * z ≤ i ∧ i < k * z + z then (encO z o).getD (i - k * z) 0 else (pageO z l).getD i 0) : t' = pageO z (l.set k o) := by
  refine list_pt (by rw [ht, page_len]) fun i hi => ?_
  rw [ht] at hi
  rw [h i hi, page_at z hz, if_pos hi, page_at z hz (l.set k o), if_pos hi, List.length_set]
  have hle := slot_le hS hk
  have hoa : (l.set k o).getD (i / z) (0, []) = if i / z = k then o else l.getD (i / z) (0, []) := oAt_set l k o (by omega) (i / z)
  rw [hoa]
  by_cases hin : k * z ≤ i ∧ i < k * z + z
  · obtain ⟨d, rfl⟩ : ∃ d, i = k * z + d := ⟨i - k * z, by omega⟩
    have hd : d < z := by omega
    have e1 : (k * z + d) / z = k := by rw [Nat.mul_comm, Nat.mul_add_div hz, Nat.div_eq_of_lt hd, Nat.add_zero]
    have e2 : (k * z + d) % z = d := by rw [Nat.mul_comm, Nat.mul_add_mod, Nat.mod_eq_of_lt hd]
    rw [if_pos hin, e1, e2, if_pos rfl, if_pos (by omega), Nat.add_sub_cancel_left]
  · have e1 : ¬ i / z = k := by
      intro e
      have h1 : k * z ≤ i := by rw [← e]; exact Nat.div_mul_le_self i z
      have h2 : i < k * z + z := by
        have := Nat.lt_succ_self (i / z)
        have h3 := (Nat.div_lt_iff_lt_mul hz).1 this
        rw [e, Nat.succ_mul] at h3; exact h3
      exact hin ⟨h1, h2⟩
    rw [if_neg hin, if_neg e1]
theorem page_in {z S k : Nat} {l : List Ob} (hz : 0 < z) (hS : S * z ≤ 256) (hl : l.length = S) (hk : k < S) {d : Nat} (hd : d < z) : (pageO z l).getD (k * z + d) 0 = (encO z (oAt l k)).getD d 0 := by
  have hle := slot_le hS hk
  have e1 : (k * z + d) / z = k := by rw [Nat.mul_comm, Nat.mul_add_div hz, Nat.div_eq_of_lt hd, Nat.add_zero]
  have e2 : (k * z + d) % z = d := by rw [Nat.mul_comm, Nat.mul_add_mod, Nat.mod_eq_of_lt hd]
  rw [page_at z hz, if_pos (by omega), e1, e2, if_pos (by omega)]; rfl
theorem hd_at {t : List Nat} {q n s i : Nat} (hq : q + 8 ≤ t.length) : (hdL t q n s).getD i 0 = if q ≤ i ∧ i < q + 8 then (if i - q < 2 then (putL 2 n).getD (i - q) 0 else (putL 6 s).getD (i - q - 2) 0) else t.getD i 0 := by
  unfold hdL
  rw [splL_at (by rw [splL_len (by rw [putL_len]; omega), putL_len]; omega), splL_at (by rw [putL_len]; omega), putL_len, putL_len]
  by_cases h1 : i < q
  · rw [if_pos (by omega), if_pos h1, if_neg (by omega)]
  · by_cases h2 : i < q + 2
    · rw [if_pos (by omega), if_neg h1, if_pos (by omega), if_pos (by omega), if_pos (by omega)]
    · by_cases h3 : i < q + 8
      · rw [if_neg (by omega), if_pos (by omega), if_pos (by omega), if_neg (by omega), show i - (q + 2) = i - q - 2 by omega]
      · rw [if_neg (by omega), if_neg (by omega), if_neg h1, if_neg (by omega), if_neg (by omega)]
theorem hd_len {t : List Nat} {q n s : Nat} (hq : q + 8 ≤ t.length) : (hdL t q n s).length = t.length := by
  unfold hdL
  rw [splL_len (by rw [splL_len (by rw [putL_len]; omega), putL_len]; omega), splL_len (by rw [putL_len]; omega)]
theorem rep_at (n i : Nat) : (List.replicate n 0).getD i 0 = 0 := by
  by_cases h : i < n
  · simp [List.getD, List.getElem?_replicate, h]
  · exact out_at _ (by simp; omega)
section
variable {z S k : Nat} {l : List Ob}
theorem take_page (hz : 16 ≤ z) (hS : S * z ≤ 256) (hl : l.length = S) (hk : k < S) {n s : Nat} (hf : (oAt l k).1 = 0) (hs : s ≠ 0) :
    hdL (pageO z l) (k * z) n s = pageO z (l.set k (s, List.replicate n 0)) := by
  have hle := slot_le hS hk
  refine page_set (by omega) hS hl hk (by rw [hd_len (by rw [page_len]; omega), page_len]) fun i hi => ?_
  rw [hd_at (by rw [page_len]; omega)]
  by_cases hin : k * z ≤ i ∧ i < k * z + z
  · obtain ⟨d, rfl⟩ : ∃ d, i = k * z + d := ⟨i - k * z, by omega⟩
    have hd : d < z := by omega
    rw [if_pos hin, Nat.add_sub_cancel_left, encO_get hs, if_pos hd, List.length_replicate]
    by_cases h2 : d < 2
    · rw [if_pos (by omega), if_pos h2, if_pos h2]
    · by_cases h8 : d < 8
      · rw [if_pos (by omega), if_neg h2, if_neg h2, if_pos h8]
      · rw [if_neg (by omega), if_neg h2, if_neg h8, rep_at, page_in (by omega) hS hl hk hd]
        have e : oAt l k = (0, (oAt l k).2) := by rw [← hf]
        rw [e]; exact encO_free _ _ _
  · rw [if_neg hin, if_neg (by omega)]
theorem free_page (hz : 16 ≤ z) (hS : S * z ≤ 256) (hl : l.length = S) (hk : k < S) :
    splL (pageO z l) (k * z) (List.replicate z 0) = pageO z (l.set k (0, [])) := by
  have hle := slot_le hS hk
  refine page_set (by omega) hS hl hk (by rw [splL_len (by rw [page_len, List.length_replicate]; omega), page_len]) fun i hi => ?_
  rw [splL_at (by rw [page_len, List.length_replicate]; omega), List.length_replicate, rep_at, encO_free]
  by_cases h1 : i < k * z
  · rw [if_pos h1, if_neg (by omega)]
  · by_cases h2 : i < k * z + z
    · rw [if_neg h1, if_pos h2, if_pos (by omega)]
    · rw [if_neg h1, if_neg h2, if_neg (by omega)]
theorem res_page (hz : 16 ≤ z) (hS : S * z ≤ 256) (hl : l.length = S) (hk : k < S) {n : Nat} (hn : n ≤ z - 8) (hs : (oAt l k).1 ≠ 0) :
    resL (pageO z l) (k * z) z n (oAt l k).1 = pageO z (l.set k ((oAt l k).1, padL (oAt l k).2 n)) := by
  have hle := slot_le hS hk
  unfold resL
  have hh : (hdL (pageO z l) (k * z) n (oAt l k).1).length = 256 := by rw [hd_len (by rw [page_len]; omega), page_len]
  refine page_set (by omega) hS hl hk (by rw [splL_len (by rw [hh, List.length_replicate]; omega), hh]) fun i hi => ?_
  rw [splL_at (by rw [hh, List.length_replicate]; omega), List.length_replicate, rep_at, hd_at (by rw [page_len]; omega)]
  by_cases hin : k * z ≤ i ∧ i < k * z + z
  · obtain ⟨d, rfl⟩ : ∃ d, i = k * z + d := ⟨i - k * z, by omega⟩
    have hd : d < z := by omega
    rw [if_pos hin, Nat.add_sub_cancel_left, encO_get hs, if_pos hd, padL_len, padL_at]
    by_cases h2 : d < 2
    · rw [if_pos (by omega), if_pos (by omega), if_pos h2, if_pos h2]
    · by_cases h8 : d < 8
      · rw [if_pos (by omega), if_pos (by omega), if_neg h2, if_neg h2, if_pos h8]
      · by_cases hdn : d < 8 + n
        · rw [if_pos (by omega), if_neg (by omega), if_neg h2, if_neg h8, if_pos (by omega), page_in (by omega) hS hl hk hd]
          have e : oAt l k = ((oAt l k).1, (oAt l k).2) := rfl
          rw [e, encO_get hs, if_pos hd, if_neg h2, if_neg h8]
        · rw [if_neg (by omega), if_pos (by omega), if_neg h2, if_neg h8, if_neg (by omega)]
  · rw [if_neg hin]
    by_cases h1 : i < k * z + (8 + n)
    · rw [if_pos h1, if_neg (by omega)]
    · rw [if_neg h1, if_neg (by omega), if_neg (by omega)]
theorem wr_page (hz : 16 ≤ z) (hS : S * z ≤ 256) (hl : l.length = S) (hk : k < S) {a : Nat} {p : List Nat} (hs : (oAt l k).1 ≠ 0) (ha : a + p.length ≤ (oAt l k).2.length) (hb : (oAt l k).2.length ≤ z - 8) :
    splL (pageO z l) (k * z + 8 + a) p = pageO z (l.set k ((oAt l k).1, splL (oAt l k).2 a p)) := by
  have hle := slot_le hS hk
  refine page_set (by omega) hS hl hk (by rw [splL_len (by rw [page_len]; omega), page_len]) fun i hi => ?_
  rw [splL_at (by rw [page_len]; omega)]
  by_cases hin : k * z ≤ i ∧ i < k * z + z
  · obtain ⟨d, rfl⟩ : ∃ d, i = k * z + d := ⟨i - k * z, by omega⟩
    have hd : d < z := by omega
    have e : oAt l k = ((oAt l k).1, (oAt l k).2) := rfl
    have hp : (pageO z l).getD (k * z + d) 0 = (encO z ((oAt l k).1, (oAt l k).2)).getD d 0 := page_in (by omega) hS hl hk hd
    rw [if_pos hin, Nat.add_sub_cancel_left, encO_get hs, if_pos hd, splL_len ha, splL_at ha, hp, encO_get hs, if_pos hd]
    by_cases h2 : d < 2
    · rw [if_pos (by omega), if_pos h2, if_pos h2]
    · by_cases h8 : d < 8
      · rw [if_pos (by omega), if_neg h2, if_pos h8, if_neg h2, if_pos h8]
      · rw [if_neg h2, if_neg h8, if_neg h2, if_neg h8]
        by_cases h3 : d - 8 < a
        · rw [if_pos (by omega), if_pos h3]
        · by_cases h4 : d - 8 < a + p.length
          · rw [if_neg (by omega), if_pos (by omega), if_neg h3, if_pos h4, show k * z + d - (k * z + 8 + a) = d - 8 - a by omega]
          · rw [if_neg (by omega), if_neg (by omega), if_neg h3, if_neg h4]
  · rw [if_neg hin]
    by_cases h1 : i < k * z + 8 + a
    · rw [if_pos h1]
    · rw [if_neg h1, if_neg (by omega)]
theorem OkL.at_ (h : OkL z S l) (k : Nat) : OkO z (oAt l k) := by
  by_cases hk : k < S
  · exact h.ok k hk
  · rw [show oAt l k = (0, []) by unfold oAt; rw [List.getD_eq_getElem?_getD, List.getElem?_eq_none (by rw [h.len]; omega)]; rfl]
    exact OkO.free z
theorem OkL.set (h : OkL z S l) {o : Ob} (ho : OkO z o) (k : Nat) (hk : k < S) : OkL z S (l.set k o) :=
  ⟨by rw [List.length_set]; exact h.len, fun i hi => by
    have := oAt_set l k o (by rw [h.len]; exact hk) i
    unfold oAt at this
    rw [this]; split
    · exact ho
    · exact h.ok i hi⟩
theorem OkO.ser {o : Ob} (h : OkO z o) : o.1 < 2 ^ 48 := by rcases h.which with ⟨e, _⟩ | ⟨_, e, _⟩ <;> omega
theorem OkO.long {o : Ob} (h : OkO z o) : o.2.length ≤ z - 8 := by rcases h.which with ⟨_, e⟩ | ⟨_, _, _, e⟩; rw [e]; simp; exact e
theorem win_o (hz : 16 ≤ z) (hS : S * z ≤ 256) (h : OkL z S l) (hk : k < S) : winL (pageO z l) z k = encO z (oAt l k) := by
  have hl := h.len; subst hl
  exact win_page (by omega) hS hk
theorem dec_o (hz : 16 ≤ z) (h128 : z ≤ 128) (hS : S * z ≤ 256) (h : OkL z S l) (hk : k < S) : decO (winL (pageO z l) z k) = oAt l k := by
  rw [win_o hz hS h hk, dec_enc (h.at_ k) (by omega) h128]
theorem num_o (hz : 16 ≤ z) (h128 : z ≤ 128) (hS : S * z ≤ 256) (h : OkL z S l) (hk : k < S) : num ((winL (pageO z l) z k).take 2) = (oAt l k).2.length := by
  have e := congrArg (fun o : Ob => o.2.length) (dec_o hz h128 hS h hk)
  have hb : brk z (winL (pageO z l) z k) = false := by rw [win_o hz hS h hk]; exact brk_enc (h.at_ k) (by omega) h128
  have hu : (winL (pageO z l) z k).length = z := by rw [win_o hz hS h hk, encO_len]
  by_cases hf : zr ((winL (pageO z l) z k).take 8) = true
  · obtain ⟨a, b⟩ := zr_of8 hf
    rw [← e]
    simp only [decO, a]; simp
  · have hn := brk_num hb (by simpa using hf)
    rw [← e]
    exact (decO_len hu (by omega) hn.2.1).symm
theorem ser_o (hz : 16 ≤ z) (h128 : z ≤ 128) (hS : S * z ≤ 256) (h : OkL z S l) (hk : k < S) : num (((winL (pageO z l) z k).drop 2).take 6) = (oAt l k).1 :=
  congrArg (fun o : Ob => o.1) (dec_o hz h128 hS h hk)
theorem len_iff {o : Ob} (h : OkO z o) : o.2.length = 0 ↔ o.1 = 0 := by
  rcases h.which with ⟨a, b⟩ | ⟨a, b, c, d⟩
  · rw [b, a]; simp
  · omega
theorem free_o (hz : 16 ≤ z) (h128 : z ≤ 128) (hS : S * z ≤ 256) (h : OkL z S l) (hk : k < S) : zr ((winL (pageO z l) z k).take 8) = freeO l k := by
  rw [Bool.eq_iff_iff, free_iff, num_o hz h128 hS h hk, ser_o hz h128 hS h hk]
  unfold freeO
  rw [decide_eq_true_iff, len_iff (h.at_ k)]
  exact ⟨fun h => h.2, fun h => ⟨h, h⟩⟩
theorem has_o (hz : 16 ≤ z) (h128 : z ≤ 128) (hS : S * z ≤ 256) (h : OkL z S l) (i : Int) : Has z S (pageO z l) i ↔ hasO l i = true := by
  unfold Has hasO
  rw [decide_eq_true_iff, h.len]
  constructor
  · intro ⟨a, b, c⟩
    refine ⟨a, b, ?_⟩
    rw [free_o hz h128 hS h (by omega)] at c
    unfold freeO at c
    have := of_decide_eq_false c; omega
  · intro ⟨a, b, c⟩
    refine ⟨a, b, ?_⟩
    rw [free_o hz h128 hS h (by omega)]
    unfold freeO
    rw [decide_eq_false_iff_not]; omega
end
end Go.Proofs.YtflgcddgocojpaaDoor
