/-
  Package garderoberef31: Parse (a text to acts).
-/
import Derived.Test.YtcaogiaoabdkdaaDoorZLnO
import Derived.Test.YtcaogiaoabdkdaaDoorZScA
namespace Go.Proofs.YtcaogiaoabdkdaaDoor
open Go.RowKit Go Go.WideShapes Go.ChangeShapes Go.Deep
set_option linter.unusedVariables false
set_option linter.unusedSimpArgs false
set_option maxRecDepth 100000
theorem spl_mem {Q : Nat → Prop} (s : List Nat) : ∀ u : List Nat, (∀ c ∈ u, Q c) → (∀ c ∈ s, Q c) → ∀ x ∈ splW u s, ∀ c ∈ x, Q c := by
  induction s with
  | nil =>
    intro u hu _ x hx c hc
    rw [splW] at hx
    split at hx
    · simp at hx
    · rw [List.mem_singleton] at hx; subst hx; exact hu c hc
  | cons a s ih =>
    intro u hu hs x hx
    have hs' : ∀ c ∈ s, Q c := fun c hc => hs c (List.mem_cons_of_mem _ hc)
    rw [splW] at hx
    split at hx
    · split at hx
      · exact ih [] (fun c hc => by simp at hc) hs' x hx
      · rcases List.mem_cons.1 hx with rfl | hx
        · exact hu
        · exact ih [] (fun c hc => by simp at hc) hs' x hx
    · exact ih (u ++ [a]) (fun c hc => by
        rcases List.mem_append.1 hc with hc | hc
        · exact hu c hc
        · rw [List.mem_singleton] at hc; subst hc; exact hs c (by simp)) hs' x hx
theorem spl_len (s : List Nat) : ∀ u : List Nat, ∀ x ∈ splW u s, x.length ≤ u.length + s.length := by
  induction s with
  | nil =>
    intro u x hx
    rw [splW] at hx
    split at hx
    · simp at hx
    · rw [List.mem_singleton] at hx; subst hx; simp
  | cons a s ih =>
    intro u x hx
    rw [splW] at hx
    split at hx
    · split at hx
      · have := ih [] x hx; simp at this ⊢; omega
      · rcases List.mem_cons.1 hx with rfl | hx
        · simp
        · have := ih [] x hx; simp at this ⊢; omega
    · have := ih (u ++ [a]) x hx; simp at this ⊢; omega
theorem spl_cnt (s : List Nat) : ∀ u : List Nat, (splW u s).length ≤ u.length + s.length := by
  induction s with
  | nil =>
    intro u
    rw [splW]
    split
    · simp
    · have : u.length ≠ 0 := fun e => absurd (List.eq_nil_of_length_eq_zero e) (by assumption)
      simp; omega
  | cons a s ih =>
    intro u
    rw [splW]
    split
    · split
      · have := ih []; simp at this ⊢; omega
      · have h0 : u.length ≠ 0 := fun e => absurd (List.eq_nil_of_length_eq_zero e) (by assumption)
        have := ih []; simp at this ⊢; omega
    · have := ih (u ++ [a]); simp at this ⊢; omega
theorem cutH_mem {s : List Nat} {c : Nat} (h : c ∈ cutH s) : c ∈ s := (List.takeWhile_prefix _).subset h
theorem cutH_len (s : List Nat) : (cutH s).length ≤ s.length := (List.takeWhile_prefix _).length_le
theorem getD_mem {Q : Nat → Prop} {l : List Nat} (h0 : Q 0) (h : ∀ c ∈ l, Q c) (i : Nat) : Q (l.getD i 0) := by
  by_cases hi : i < l.length
  · rw [List.getD_eq_getElem?_getD, List.getElem?_eq_getElem hi]; exact h _ (List.getElem_mem hi)
  · rw [List.getD_eq_getElem?_getD, List.getElem?_eq_none (by omega)]; exact h0
theorem mem_getD {Q : Nat → Prop} {l : List Nat} (h : ∀ i, Q (l.getD i 0)) : ∀ c ∈ l, Q c := fun c hc => by
  obtain ⟨k, hk, rfl⟩ := List.mem_iff_getElem.1 hc
  have := h k
  rwa [List.getD_eq_getElem?_getD, List.getElem?_eq_getElem hk] at this
/-- the words of a line of bytes: of bytes, no longer than the line, and no more -/
theorem words_byte {u : List Nat} (h : ∀ i, u.getD i 0 < 256) (j i : Nat) : ((wordsL u).getD j []).getD i 0 < 256 := by
  refine getD_mem (Q := fun c => c < 256) (by omega) ?_ i
  by_cases hj : j < (wordsL u).length
  · rw [List.getD_eq_getElem?_getD, List.getElem?_eq_getElem hj]
    exact spl_mem (Q := fun c => c < 256) _ [] (fun c hc => by simp at hc) (fun c hc => mem_getD (Q := fun c => c < 256) h c (cutH_mem hc)) _ (List.getElem_mem hj)
  · rw [List.getD_eq_getElem?_getD, List.getElem?_eq_none (by omega)]; intro c hc; simp at hc
theorem words_len (u : List Nat) (j : Nat) : ((wordsL u).getD j []).length ≤ u.length := by
  by_cases hj : j < (wordsL u).length
  · rw [List.getD_eq_getElem?_getD, List.getElem?_eq_getElem hj]
    have := spl_len (cutH u) [] _ (List.getElem_mem hj)
    have h2 := cutH_len u
    simp at this ⊢; omega
  · rw [List.getD_eq_getElem?_getD, List.getElem?_eq_none (by omega)]; simp
theorem words_cnt (u : List Nat) : (wordsL u).length ≤ u.length := by
  have := spl_cnt (cutH u) []
  have h2 := cutH_len u
  unfold wordsL; simp at this; omega
theorem OwnS.slice {w : World} {B : Nat} {v : Value} {l : List (List Nat)} (h : OwnS w B v l) : ∃ A c, v = .slice A l.length c := by
  obtain ⟨h1, h2⟩ := h
  rcases h2 with ⟨hv, h0⟩ | ⟨g, cap, cur, hv, _⟩
  · exact ⟨none, 0, by rw [hv, h0]⟩
  · exact ⟨_, cap, hv⟩
def RPaTo (w : World) (s : List Nat) (e : Ending) (w' : World) : Prop := ∃ v l k, e = .returned (.tuple #[v, .int .i64 ((k : Nat) : Int)]) ∧ Below w.heap.size w w' ∧ AcO 26 w' w.heap.size w.heap.size v l ∧ parseT s = (l, k)
def PaR (w : World) (s : List Nat) (lv uv kv iv : Value) (wr : World) : Prop := ∃ (i k : Nat) (u : List Nat) (l : List Ac) (v : Value), v = lv ∧ uv = .string (str u) ∧ kv = .int .i64 (k : Int) ∧ iv = .int .i64 (i : Int) ∧ i ≤ s.length + 1 ∧ k ≤ i + 1 ∧ l.length ≤ i ∧ u.length ≤ i ∧ (∀ j, u.getD j 0 < 256) ∧ AcO 26 wr w.heap.size w.heap.size v l ∧ Below w.heap.size w wr ∧ (i ≤ s.length → parseT s = actsL (cutN u (s.drop i)) k l) ∧ (i = s.length + 1 → parseT s = (l, 0))
set_option maxHeartbeats 1000000
theorem rparse31_any (s : List Nat) (hl : ∀ i, s.getD i 0 < 256) (hn : s.length ≤ 90000) (w : World) :
    Calls Tryd.prog 16 #[.string (str s)] w (RPaTo w s) := by
  have HI := Lib.hid (fun j (h : j < s.length) => idx_at hl h)
  have HS := Lib.hid (fun j (h : j < s.length) => sub_at h)
  have hsz := str_size s
  have HWD := Lib.hid (fun u (hu : ∀ i, u.getD i 0 < 256) (hul : u.length ≤ 1000000) W => words_any u hu hul W)
  have HE0 : Hid (str ([] : List Nat) = ⟨#[]⟩) := Lib.hid (by kernel_rfl)
  have HST : Hid (PaR w s (.slice none 0 0) (.string ⟨#[]⟩) (.int .i64 1) (.int .i64 0) w) := Lib.hid ⟨0, 1, [], [], _, rfl, by rw [HE0.out], rfl, rfl, by omega, by omega, by simp, by simp, fun j => by simp, AcO.nil _ _ _ _, Below.refl _ _, fun _ => rfl, fun h => by omega⟩
  have HX := Lib.hid hl
  obtain ⟨n, hnn⟩ : ∃ n, s.length = n := ⟨_, rfl⟩
  have HLN := Lib.hid hnn
  rw [hnn] at hsz hn
  clear hnn hl
  generalize hS : str s = S at *
  clear hS
  go_enter Tryd.func16, Tryd.ntmps16
  go_wp2_with fail
  go_loopw [4, 5, 6, 7] (fun lv uv kv iv wr => PaR w s lv uv kv iv wr) (fun _ _ _ iv _ => ((n : Int) + 1 - intOf iv).toNat)
  case atStart => exact HST.out
  case round =>
    clear HST
    obtain ⟨i, k, u, l, v, rfl, rfl, rfl, rfl, hi, hk, hll, hul, hub, ho, hb, hp1, hp2⟩ := hrel
    rw [HLN.out] at hi
    have HO := Lib.hid ho
    have HB := Lib.hid hb
    have HU := Lib.hid hub
    have HP1 := Lib.hid hp1
    have HP2 := Lib.hid hp2
    rw [HLN.out] at HP1 HP2
    clear ho hb hub hp1 hp2
    by_cases hin : i ≤ n
    · by_cases hgo : i < n ∧ s.getD i 0 ≠ 10
      · obtain ⟨hlt, h10⟩ := hgo
        have hix := HI.out i (by rw [HLN.out]; exact hlt) wr
        have hsb := HS.out i (by rw [HLN.out]; exact hlt) wr
        have hx := HX.out i
        have HPN : Hid (parseT s = actsL (cutN (u ++ [s.getD i 0]) (s.drop (i + 1))) k l) := Lib.hid (by
          rw [HP1.out hin, List.drop_eq_getElem_cons (by rw [HLN.out]; exact hlt), cutN]
          have he : s[i]'(by rw [HLN.out]; exact hlt) = s.getD i 0 := by rw [List.getD_eq_getElem?_getD, List.getElem?_eq_getElem (by rw [HLN.out]; exact hlt)]; rfl
          rw [he, if_neg h10])
        have HF : Hid (PaR w s v (.string (str u ++ str [s.getD i 0])) (.int .i64 (k : Int)) (.int .i64 ((i : Int) + 1)) wr) := Lib.hid ⟨i + 1, k, u ++ [s.getD i 0], l, v, rfl, by rw [str_app], rfl, by simp, by rw [HLN.out]; omega, by omega, by omega, by simp; omega, byte_snoc HU.out hx, HO.out, HB.out, fun _ => HPN.out, fun h => by rw [HLN.out] at h; omega⟩
        have hsz2 : (str u).size + (str [s.getD i 0]).size ≤ 9223372036854775807 := by rw [str_size, str_size]; simp; omega
        have b10 : ((s.getD i 0 : Nat) : Int) ≠ 10 := by omega
        have b10b : (((s.getD i 0 : Nat) : Int) != 10) = true := by rw [bne_iff_ne]; exact b10
        clear h10 HPN HP1 HP2
        generalize s.getD i 0 = x at *
        generalize str u = U at *
        generalize str [x] = X at *
        go_wp2_with fail
        go_roundw
        case rel => exact HF.out
        case measure => (simp [intOf] <;> omega)
      · by_cases hlt : i < n
        · have h10 : s.getD i 0 = 10 := by by_cases h : s.getD i 0 = 10; exact h; exact absurd ⟨hlt, h⟩ hgo
          have hix := HI.out i (by rw [HLN.out]; exact hlt) wr
          rw [h10] at hix
          obtain ⟨R, hR⟩ : ∃ R, R = cutN [] (s.drop (i + 1)) := ⟨_, rfl⟩
          have HPT : Hid (parseT s = actsL (u :: R) k l) := Lib.hid (by
            rw [HP1.out hin, List.drop_eq_getElem_cons (by rw [HLN.out]; exact hlt), cutN]
            have he : s[i]'(by rw [HLN.out]; exact hlt) = s.getD i 0 := by rw [List.getD_eq_getElem?_getD, List.getElem?_eq_getElem (by rw [HLN.out]; exact hlt)]; rfl
            rw [he, if_pos h10, hR])
          have HNX : Hid (∀ v9 w9 l9, AcO 26 w9 w.heap.size w.heap.size v9 l9 → l9.length ≤ i + 1 → Below w.heap.size w w9 → parseT s = actsL R (k + 1) l9 → PaR w s v9 (.string (⟨#[]⟩ : ByteArray)) (.int .i64 ((k : Int) + 1)) (.int .i64 ((i : Int) + 1)) w9) := Lib.hid (fun v9 w9 l9 h1 h2 h3 h4 => ⟨i + 1, k + 1, [], l9, v9, rfl, by rw [HE0.out], by simp, by simp, by rw [HLN.out]; omega, by omega, h2, by simp, fun j => by simp, h1, h3, fun _ => by rw [h4, hR], fun h => by rw [HLN.out] at h; omega⟩)
          have HWD := Lib.hid (fun W => HWD.out u HU.out (by omega) W)
          clear hgo h10 HP1 HP2 hR
          generalize str u = U at *
          go_wp2_with fail
          refine (HWD.out _).mono ?_
          rintro e w5 ⟨v5, rfl, ho5, hb5⟩
          by_cases hw : wordsL u = []
          · have HF := Lib.hid (HNX.out v w5 l (HO.out.below (Nat.le_refl _) HB.out.size (hb5)) (by omega) (HB.out.trans (hb5.mono HB.out.size)) (by rw [HPT.out, actsL, if_pos hw]))
            rw [hw] at ho5
            obtain ⟨A5, c5, rfl⟩ := ho5.slice
            clear ho5 hb5 HNX HPT
            go_wp2_with fail
            go_roundw
            case rel => exact HF.out
            case measure => (simp [intOf] <;> omega)
          · obtain ⟨w0, r, hwr⟩ : ∃ w0 r, wordsL u = w0 :: r := by cases h : wordsL u with | nil => exact absurd h hw | cons a b => exact ⟨a, b, rfl⟩
            have hwl : 0 < (wordsL u).length := by rw [hwr]; simp
            obtain ⟨g5, c5, rfl, hg5, hgl5, hnc5, hcm5, hcell5⟩ := own_at ho5 hwl
            have hcc : ∀ j, j < (wordsL u).length → w5.cell? ⟨g5, j, none⟩ = some (.string (str ((wordsL u).getD j []))) := fun j hj => hcell5 j _ (by unfold strsV; rw [List.getElem?_map, List.getElem?_eq_getElem hj, List.getD_eq_getElem?_getD, List.getElem?_eq_getElem hj]; rfl)
            have HB5 := Lib.hid (HB.out.trans (hb5.mono HB.out.size))
            have HAC := Lib.hid (ract_any g5 (wordsL u).length c5 (wordsL u) w0 r w5 hwr rfl (by have := words_cnt u; omega) hgl5 hcc (words_byte HU.out) (fun j => by have := words_len u j; omega) ⟨hnc5, hcm5⟩)
            have HO5 := Lib.hid (HO.out.below (Nat.le_refl _) HB.out.size hb5)
            have HPA : Hid (parseT s = match actW (wordsL u) with | some a => actsL R (k + 1) (l ++ [a]) | none => ([], k)) := Lib.hid (by rw [HPT.out, actsL, if_neg hw]; rfl)
            have hwl2 : (0 : Int) < ((wordsL u).length : Int) := by omega
            clear hcc hcell5 hnc5 hcm5 hgl5 ho5 hb5 HPT hwr hw hwl hg5
            generalize (wordsL u).length = wn at *
            go_wp2_with fail
            refine HAC.out.mono ?_
            clear HAC
            rintro e w6 ⟨a, A6, c6, ok, rfl, hb6, ho6, hby6, hact⟩
            have HB6 := Lib.hid (HB5.out.trans (hb6.mono HB5.out.size))
            have HO6 := Lib.hid (HO5.out.below (Nat.le_refl _) HB5.out.size hb6)
            have HN6 : Hid (EnI w6 w.heap.size w.heap.size A6 c6 a.b) := Lib.hid ⟨.inr ⟨ho6.base HB5.out.size, hby6⟩, own_zero ho6⟩
            have HPB : Hid (parseT s = if ok = true then actsL R (k + 1) (l ++ [a]) else ([], k)) := Lib.hid (by rw [HPA.out, hact]; cases ok <;> rfl)
            clear hact hby6 ho6 hb6 HPA
            obtain ⟨kk, yy, z1, z2, z3, z4, bb⟩ := a
            obtain ⟨bn, hbn⟩ : ∃ bn, bb.length = bn := ⟨_, rfl⟩
            have HBN := Lib.hid hbn
            simp only [hbn]
            have HX7 := Lib.hid (heap_alloc_new w6 (.cells #[.int .i64 kk, .bool yy, .int .i64 z1, .int .i64 z2, .int .i64 z3, .int .i64 z4, .slice A6 bn c6] 26))
            have HA7 : Hid (Below w6.heap.size w6 (w6.alloc (.cells #[.int .i64 kk, .bool yy, .int .i64 z1, .int .i64 z2, .int .i64 z3, .int .i64 z4, .slice A6 bn c6] 26))) := Lib.hid ((Below.refl _ _).alloc (Nat.le_refl _) _)
            have HB7 := Lib.hid (HB6.out.trans (HA7.out.mono HB6.out.size))
            have HO7 := Lib.hid (HO6.out.below (Nat.le_refl _) HB6.out.size HA7.out)
            have HN7 := Lib.hid (HN6.out.below (Nat.le_refl _) HB6.out.size HA7.out)
            clear hbn
            cases ok
            · have HF : Hid (RPaTo w s (.returned (.tuple #[.slice none 0 0, .int .i64 (k : Int)])) (w6.alloc (.cells #[.int .i64 kk, .bool yy, .int .i64 z1, .int .i64 z2, .int .i64 z3, .int .i64 z4, .slice A6 bn c6] 26))) := Lib.hid ⟨_, [], k, rfl, HB7.out, AcO.nil _ _ _ _, by rw [HPB.out]; rfl⟩
              clear HPB HNX
              go_wp2_with fail
              go_ret2
              exact HF.out
            · have q0 := blk_cell HX7.out 0
              have q1 := blk_cell HX7.out 1
              have q2 := blk_cell HX7.out 2
              have q3 := blk_cell HX7.out 3
              have q4 := blk_cell HX7.out 4
              have q5 := blk_cell HX7.out 5
              have q6 := blk_cell HX7.out 6
              have HTL : Hid (l.length < 100000) := Lib.hid (by omega)
              have HLL : Hid ((l ++ [(⟨kk, yy, z1, z2, z3, z4, bb⟩ : Ac)]).length ≤ i + 1) := Lib.hid (by simp; omega)
              generalize hW7 : (w6.alloc (.cells #[.int .i64 kk, .bool yy, .int .i64 z1, .int .i64 z2, .int .i64 z3, .int .i64 z4, .slice A6 bn c6] 26)) = w7 at *
              have HRR : Hid (∀ v9 w9, AcO 26 w9 w.heap.size w.heap.size v9 (l ++ [⟨kk, yy, z1, z2, z3, z4, bb⟩]) → Below w.heap.size w7 w9 → PaR w s v9 (.string (⟨#[]⟩ : ByteArray)) (.int .i64 ((k : Int) + 1)) (.int .i64 ((i : Int) + 1)) w9) := Lib.hid (fun v9 w9 h1 h2 => HNX.out v9 w9 _ h1 HLL.out (HB7.out.trans h2) (by rw [HPB.out]; rfl))
              clear HNX HPB HLL
              go_wp2_with (at_builtin; refine wp_appA 26 22 Tryd.underlying22 (by kernel_rfl) (by decide) _ rfl (.tmp 47) (.tmp 49) rfl w.heap.size w.heap.size (Nat.le_refl _) v l kk z1 z2 z3 z4 yy bb A6 c6 bn HBN.out rfl HO7.out HTL.out rfl HN7.out HB7.out.size ?_; intro v9 w9 ho9 hd9 hf9; have HG := Lib.hid (HRR.out v9 w9 ho9 hd9); clear ho9 hd9 hf9)
              go_roundw
              case rel => exact HG.out
              case measure => (simp [intOf] <;> omega)
        · obtain rfl : i = n := by omega
          obtain ⟨R, hR⟩ : ∃ R : List (List Nat), R = [] := ⟨_, rfl⟩
          have HPT : Hid (parseT s = actsL (u :: R) k l) := Lib.hid (by
            rw [HP1.out (Nat.le_refl _), List.drop_of_length_le (by rw [HLN.out]; exact Nat.le_refl _), cutN, hR])
          have HNX : Hid (∀ v9 w9 l9, AcO 26 w9 w.heap.size w.heap.size v9 l9 → l9.length ≤ i + 1 → Below w.heap.size w w9 → parseT s = actsL R (k + 1) l9 → PaR w s v9 (.string (⟨#[]⟩ : ByteArray)) (.int .i64 ((k : Int) + 1)) (.int .i64 ((i : Int) + 1)) w9) := Lib.hid (fun v9 w9 l9 h1 h2 h3 h4 => ⟨i + 1, k + 1, [], l9, v9, rfl, by rw [HE0.out], by simp, by simp, by rw [HLN.out]; omega, by omega, h2, by simp, fun j => by simp, h1, h3, fun h => by rw [HLN.out] at h; omega, fun _ => by rw [h4, hR]; rfl⟩)
          have HWD := Lib.hid (fun W => HWD.out u HU.out (by omega) W)
          clear hgo HP1 HP2 hR hin hlt
          generalize str u = U at *
          go_wp2_with fail
          refine (HWD.out _).mono ?_
          rintro e w5 ⟨v5, rfl, ho5, hb5⟩
          by_cases hw : wordsL u = []
          · have HF := Lib.hid (HNX.out v w5 l (HO.out.below (Nat.le_refl _) HB.out.size (hb5)) (by omega) (HB.out.trans (hb5.mono HB.out.size)) (by rw [HPT.out, actsL, if_pos hw]))
            rw [hw] at ho5
            obtain ⟨A5, c5, rfl⟩ := ho5.slice
            clear ho5 hb5 HNX HPT
            go_wp2_with fail
            go_roundw
            case rel => exact HF.out
            case measure => (simp [intOf] <;> omega)
          · obtain ⟨w0, r, hwr⟩ : ∃ w0 r, wordsL u = w0 :: r := by cases h : wordsL u with | nil => exact absurd h hw | cons a b => exact ⟨a, b, rfl⟩
            have hwl : 0 < (wordsL u).length := by rw [hwr]; simp
            obtain ⟨g5, c5, rfl, hg5, hgl5, hnc5, hcm5, hcell5⟩ := own_at ho5 hwl
            have hcc : ∀ j, j < (wordsL u).length → w5.cell? ⟨g5, j, none⟩ = some (.string (str ((wordsL u).getD j []))) := fun j hj => hcell5 j _ (by unfold strsV; rw [List.getElem?_map, List.getElem?_eq_getElem hj, List.getD_eq_getElem?_getD, List.getElem?_eq_getElem hj]; rfl)
            have HB5 := Lib.hid (HB.out.trans (hb5.mono HB.out.size))
            have HAC := Lib.hid (ract_any g5 (wordsL u).length c5 (wordsL u) w0 r w5 hwr rfl (by have := words_cnt u; omega) hgl5 hcc (words_byte HU.out) (fun j => by have := words_len u j; omega) ⟨hnc5, hcm5⟩)
            have HO5 := Lib.hid (HO.out.below (Nat.le_refl _) HB.out.size hb5)
            have HPA : Hid (parseT s = match actW (wordsL u) with | some a => actsL R (k + 1) (l ++ [a]) | none => ([], k)) := Lib.hid (by rw [HPT.out, actsL, if_neg hw]; rfl)
            have hwl2 : (0 : Int) < ((wordsL u).length : Int) := by omega
            clear hcc hcell5 hnc5 hcm5 hgl5 ho5 hb5 HPT hwr hw hwl hg5
            generalize (wordsL u).length = wn at *
            go_wp2_with fail
            refine HAC.out.mono ?_
            clear HAC
            rintro e w6 ⟨a, A6, c6, ok, rfl, hb6, ho6, hby6, hact⟩
            have HB6 := Lib.hid (HB5.out.trans (hb6.mono HB5.out.size))
            have HO6 := Lib.hid (HO5.out.below (Nat.le_refl _) HB5.out.size hb6)
            have HN6 : Hid (EnI w6 w.heap.size w.heap.size A6 c6 a.b) := Lib.hid ⟨.inr ⟨ho6.base HB5.out.size, hby6⟩, own_zero ho6⟩
            have HPB : Hid (parseT s = if ok = true then actsL R (k + 1) (l ++ [a]) else ([], k)) := Lib.hid (by rw [HPA.out, hact]; cases ok <;> rfl)
            clear hact hby6 ho6 hb6 HPA
            obtain ⟨kk, yy, z1, z2, z3, z4, bb⟩ := a
            obtain ⟨bn, hbn⟩ : ∃ bn, bb.length = bn := ⟨_, rfl⟩
            have HBN := Lib.hid hbn
            simp only [hbn]
            have HX7 := Lib.hid (heap_alloc_new w6 (.cells #[.int .i64 kk, .bool yy, .int .i64 z1, .int .i64 z2, .int .i64 z3, .int .i64 z4, .slice A6 bn c6] 26))
            have HA7 : Hid (Below w6.heap.size w6 (w6.alloc (.cells #[.int .i64 kk, .bool yy, .int .i64 z1, .int .i64 z2, .int .i64 z3, .int .i64 z4, .slice A6 bn c6] 26))) := Lib.hid ((Below.refl _ _).alloc (Nat.le_refl _) _)
            have HB7 := Lib.hid (HB6.out.trans (HA7.out.mono HB6.out.size))
            have HO7 := Lib.hid (HO6.out.below (Nat.le_refl _) HB6.out.size HA7.out)
            have HN7 := Lib.hid (HN6.out.below (Nat.le_refl _) HB6.out.size HA7.out)
            clear hbn
            cases ok
            · have HF : Hid (RPaTo w s (.returned (.tuple #[.slice none 0 0, .int .i64 (k : Int)])) (w6.alloc (.cells #[.int .i64 kk, .bool yy, .int .i64 z1, .int .i64 z2, .int .i64 z3, .int .i64 z4, .slice A6 bn c6] 26))) := Lib.hid ⟨_, [], k, rfl, HB7.out, AcO.nil _ _ _ _, by rw [HPB.out]; rfl⟩
              clear HPB HNX
              go_wp2_with fail
              go_ret2
              exact HF.out
            · have q0 := blk_cell HX7.out 0
              have q1 := blk_cell HX7.out 1
              have q2 := blk_cell HX7.out 2
              have q3 := blk_cell HX7.out 3
              have q4 := blk_cell HX7.out 4
              have q5 := blk_cell HX7.out 5
              have q6 := blk_cell HX7.out 6
              have HTL : Hid (l.length < 100000) := Lib.hid (by omega)
              have HLL : Hid ((l ++ [(⟨kk, yy, z1, z2, z3, z4, bb⟩ : Ac)]).length ≤ i + 1) := Lib.hid (by simp; omega)
              generalize hW7 : (w6.alloc (.cells #[.int .i64 kk, .bool yy, .int .i64 z1, .int .i64 z2, .int .i64 z3, .int .i64 z4, .slice A6 bn c6] 26)) = w7 at *
              have HRR : Hid (∀ v9 w9, AcO 26 w9 w.heap.size w.heap.size v9 (l ++ [⟨kk, yy, z1, z2, z3, z4, bb⟩]) → Below w.heap.size w7 w9 → PaR w s v9 (.string (⟨#[]⟩ : ByteArray)) (.int .i64 ((k : Int) + 1)) (.int .i64 ((i : Int) + 1)) w9) := Lib.hid (fun v9 w9 h1 h2 => HNX.out v9 w9 _ h1 HLL.out (HB7.out.trans h2) (by rw [HPB.out]; rfl))
              clear HNX HPB HLL
              go_wp2_with (at_builtin; refine wp_appA 26 22 Tryd.underlying22 (by kernel_rfl) (by decide) _ rfl (.tmp 47) (.tmp 49) rfl w.heap.size w.heap.size (Nat.le_refl _) v l kk z1 z2 z3 z4 yy bb A6 c6 bn HBN.out rfl HO7.out HTL.out rfl HN7.out HB7.out.size ?_; intro v9 w9 ho9 hd9 hf9; have HG := Lib.hid (HRR.out v9 w9 ho9 hd9); clear ho9 hd9 hf9)
              go_roundw
              case rel => exact HG.out
              case measure => (simp [intOf] <;> omega)
    · obtain rfl : i = n + 1 := by omega
      have HF : Hid (RPaTo w s (.returned (.tuple #[v, .int .i64 0])) wr) := Lib.hid ⟨v, l, 0, rfl, HB.out, HO.out, HP2.out rfl⟩
      clear HP1 HP2
      go_wp2_with fail
      go_ret2
      exact HF.out
end Go.Proofs.YtcaogiaoabdkdaaDoor
