/-
  Joined: LnN, LnA, LnB.
-/
import Derived.Test.YtcaogiaoabdkdaaDoorZLnM
import Derived.Test.YtcaogiaoabdkdaaDoorZScD
namespace Go.Proofs.YtcaogiaoabdkdaaDoor
set_option maxRecDepth 100000
section
set_option linter.unusedVariables false
set_option linter.unusedSimpArgs false
set_option maxRecDepth 10000
theorem sets_back {a : Ac} (hm : mayLn a = true) (hb : ∀ c ∈ a.b, c < 256) : setsW (kA a.kind) ((ordL a.kind.toNat).zip ((ordL a.kind.toNat).map (fldW a))) = some a := by
  have hA : mayA a = true := by unfold mayLn at hm; rw [Bool.and_eq_true] at hm; exact hm.1
  obtain ⟨kd, w, k, n, p, hkd, hw, hk, hn, hp, hbl, e1, e2, e3, e4, e5⟩ := mayA_nat hA
  obtain ⟨kind, yes, which, kk, nn, pos, b⟩ := a
  simp only at e1 e2 e3 e4 e5 hb hbl
  subst e1 e2 e3 e4 e5
  have v1 := valL_num (n := w) (by omega)
  have v2 := valL_num (n := k) (by omega)
  have v3 := valL_num (n := n) (by omega)
  have v4 := valL_num (n := p) (by omega)
  have v5 := bytL_hex hb
  have hno : numL w ≠ [110, 111, 110, 101] := fun e => by
    have := numL_dig w; rw [e] at this; exact absurd this (by decide)
  have hks : kd = 0 ∨ kd = 1 ∨ kd = 2 ∨ kd = 3 ∨ kd = 4 ∨ kd = 5 ∨ kd = 6 ∨ kd = 7 ∨ kd = 8 ∨ kd = 9 ∨ kd = 10 ∨ kd = 11 ∨ kd = 12 ∨ kd = 13 ∨ kd = 14 ∨ kd = 15 ∨ kd = 16 ∨ kd = 17 ∨ kd = 18 ∨ kd = 19 := by omega
  unfold mayLn at hm
  simp only [mayA, mayN', numF, Bool.and_eq_true, Bool.or_eq_true, decide_eq_true_eq] at hm
  rcases hks with rfl | rfl | rfl | rfl | rfl | rfl | rfl | rfl | rfl | rfl | rfl | rfl | rfl | rfl | rfl | rfl | rfl | rfl | rfl | rfl
  all_goals
    simp [hasF, fldL] at hm
    cases yes <;> simp [ordL, fldL, setsW, setW, fldW, v1, v2, v3, v4, v5, hno, kA, wrW, rdW, noW] at hm ⊢ <;> (try (simp_all))
theorem act_back {a : Ac} (hm : mayLn a = true) (hb : ∀ c ∈ a.b, c < 256) : actW (wrdsA a) = some a := by
  have hA : mayA a = true := by unfold mayLn at hm; rw [Bool.and_eq_true] at hm; exact hm.1
  obtain ⟨kd, w, k, n, p, hkd, _, _, _, _, _, e1, _⟩ := mayA_nat hA
  have hk : a.kind.toNat = kd := by rw [e1]; rfl
  have hs := sets_back hm hb
  rw [hk] at hs
  unfold wrdsA
  rw [hk]
  unfold actW
  rw [e1] at hs
  simp only [kind_name kd hkd, List.length_map, hs, hA, if_true]
theorem line_words {a : Ac} (hm : mayLn a = true) (hb : ∀ c ∈ a.b, c < 256) : wordsL (lineA a) = wrdsA a := by
  have hA : mayA a = true := by unfold mayLn at hm; rw [Bool.and_eq_true] at hm; exact hm.1
  obtain ⟨kd, w, k, n, p, hkd, _, _, _, _, _, e1, _⟩ := mayA_nat hA
  exact words_join (wrds_word hb (by rw [e1]; exact hkd))
/-- what stands between two lines' ends has words, or none; all lines' acts, or the number of the first one that is none -/
def cutN : List Nat → List Nat → List (List Nat)
  | u, [] => [u]
  | u, c :: s => if c = 10 then u :: cutN [] s else cutN (u ++ [c]) s
def linesL (s : List Nat) : List (List Nat) := cutN [] s
def actsL : List (List Nat) → Nat → List Ac → List Ac × Nat
  | [], _, o => (o, 0)
  | x :: r, k, o => if wordsL x = [] then actsL r (k + 1) o else match actW (wordsL x) with
    | some a => actsL r (k + 1) (o ++ [a])
    | none => ([], k)
/-- a text's acts -/
def parseT (s : List Nat) : List Ac × Nat := actsL (linesL s) 1 []
theorem cutN_in (x : List Nat) : ∀ (u s : List Nat), (∀ c ∈ x, c ≠ 10) → cutN u (x ++ s) = cutN (u ++ x) s := by
  induction x with
  | nil => intro u s _; simp
  | cons c x ih =>
    intro u s h
    rw [List.cons_append, cutN, if_neg (h c (by simp)), ih _ _ (fun y hy => h y (by simp [hy])), List.append_assoc]; rfl
theorem lineA_no {a : Ac} (hm : mayLn a = true) (hb : ∀ c ∈ a.b, c < 256) : ∀ c ∈ lineA a, c ≠ 10 := by
  have hA : mayA a = true := by unfold mayLn at hm; rw [Bool.and_eq_true] at hm; exact hm.1
  obtain ⟨kd, w, k, n, p, hkd, _, _, _, _, _, e1, _⟩ := mayA_nat hA
  exact fun c hc => (join_no _ (wrds_word hb (by rw [e1]; exact hkd)) c hc).2
theorem wrds_ne (a : Ac) : wrdsA a ≠ [] := by unfold wrdsA; simp
/-- what was printed is parsed as it was -/
def printL (l : List Ac) : List Nat := l.flatMap fun a => lineA a ++ [10]
theorem lines_print (l : List Ac) (hm : ∀ a ∈ l, mayLn a = true) (hb : ∀ a ∈ l, ∀ c ∈ a.b, c < 256) : linesL (printL l) = l.map lineA ++ [[]] := by
  unfold linesL printL
  induction l with
  | nil => rfl
  | cons a l ih =>
    rw [List.flatMap_cons, List.append_assoc, cutN_in _ _ _ (lineA_no (hm a (by simp)) (hb a (by simp))), List.nil_append, List.singleton_append, cutN, if_pos rfl, ih (fun x hx => hm x (by simp [hx])) (fun x hx => hb x (by simp [hx]))]
    rfl
theorem acts_lines (l : List Ac) : ∀ (k : Nat) (o : List Ac), (∀ a ∈ l, mayLn a = true) → (∀ a ∈ l, ∀ c ∈ a.b, c < 256) → actsL (l.map lineA ++ [[]]) k o = (o ++ l, 0) := by
  induction l with
  | nil =>
    intro k o _ _
    have : wordsL [] = [] := rfl
    simp [actsL, this]
  | cons a l ih =>
    intro k o hm hb
    have h1 := line_words (hm a (by simp)) (hb a (by simp))
    have h2 := act_back (hm a (by simp)) (hb a (by simp))
    rw [List.map_cons, List.cons_append, actsL, h1, if_neg (wrds_ne a), h2]
    simp only []
    rw [ih _ _ (fun x hx => hm x (by simp [hx])) (fun x hx => hb x (by simp [hx])), List.append_assoc]; rfl
theorem parse_print {l : List Ac} (hm : ∀ a ∈ l, mayLn a = true) (hb : ∀ a ∈ l, ∀ c ∈ a.b, c < 256) : parseT (printL l) = (l, 0) := by
  unfold parseT
  rw [lines_print l hm hb, acts_lines l 1 [] hm hb]; rfl
end
section
open Go.RowKit Go
set_option linter.unusedVariables false
set_option linter.unusedSimpArgs false
set_option maxRecDepth 100000
set_option maxHeartbeats 1000000
theorem str_app (a b : List Nat) : str a ++ str b = str (a ++ b) := by
  apply ByteArray.ext
  apply Array.ext'
  have h : ∀ l : List Nat, (str l).data.toList = (l.map fun n : Nat => (n : Int)).map fun n => UInt8.ofNat n.toNat := fun l => strOfNums_data _
  rw [ByteArray.data_append, Array.toList_append, h, h, h, List.map_append, List.map_append]
theorem order_any (k : Nat) (hk : k < 20) (w : World) :
    Calls Tryd.prog 21 #[.int .i64 (k : Int)] w fun e w' => e = .returned (.string (str (ordL k))) ∧ w = w' := by
  by_cases h1 : k = 1
  · subst h1
    go_enter Tryd.func21, Tryd.ntmps21
    go_wp2
    go_ret
    exact ⟨rfl, rfl⟩
  · by_cases h2 : k = 11
    · subst h2
      go_enter Tryd.func21, Tryd.ntmps21
      go_wp2
      go_ret
      exact ⟨rfl, rfl⟩
    · have HF := Lib.hid (fields_any k hk w)
      have e : ordL k = fldL (k : Int) := by unfold ordL; rw [if_neg h1, if_neg h2]
      rw [e]
      have i1 : ¬ (k : Int) = 1 := by omega
      have i2 : ¬ (k : Int) = 11 := by omega
      clear e h1 h2
      go_enter Tryd.func21, Tryd.ntmps21
      go_wp2_with fail
      refine HF.out.mono ?_
      rintro e w1 ⟨rfl, rfl⟩
      go_wp2_with fail
      go_ret
      exact ⟨rfl, rfl⟩
/-- a sign's worth -/
def dgI (c : Nat) : Int := match dgL c with | some d => (d : Int) | none => -1
theorem digit_any (c : Nat) (hc : c < 256) (w : World) :
    Calls Tryd.prog 74 #[.int .u8 (c : Int)] w fun e w' => e = .returned (.int .i64 (dgI c)) ∧ w = w' := by
  by_cases h1 : 48 ≤ c ∧ c ≤ 57
  · have e : dgI c = ((c - 48 : Nat) : Int) := by unfold dgI dgL; rw [if_pos h1]
    have i1 : (48 : Int) ≤ (c : Int) := by omega
    have i2 : (c : Int) ≤ 57 := by omega
    have hw : IntKind.u8.wrap ((c : Int) - 48) = ((c - 48 : Nat) : Int) := by rw [IntWalk.u8_in _ (by omega)]; omega
    have hw2 : IntKind.i64.wrap (((c - 48 : Nat)) : Int) = ((c - 48 : Nat) : Int) := IntWalk.i64_in _ (by omega)
    rw [e]
    clear e h1
    generalize c - 48 = d at *
    go_enter Tryd.func74, Tryd.ntmps74
    go_wp2
    go_ret
    exact ⟨rfl, rfl⟩
  · by_cases h2 : 97 ≤ c ∧ c ≤ 102
    · have e : dgI c = ((c - 87 : Nat) : Int) := by unfold dgI dgL; rw [if_neg h1, if_pos h2]
      have i1 : ¬ (c : Int) ≤ 57 := by omega
      have i2 : (97 : Int) ≤ (c : Int) := by omega
      have i3 : (c : Int) ≤ 102 := by omega
      have i4 : (48 : Int) ≤ (c : Int) := by omega
      have hw : IntKind.u8.wrap ((c : Int) - 97) = ((c - 97 : Nat) : Int) := by rw [IntWalk.u8_in _ (by omega)]; omega
      have hw2 : IntKind.i64.wrap (((c - 97 : Nat)) : Int) = ((c - 97 : Nat) : Int) := IntWalk.i64_in _ (by omega)
      have hw3 : IntKind.i64.wrap (((c - 97 : Nat) : Int) + 10) = ((c - 87 : Nat) : Int) := by rw [IntWalk.i64_in _ (by omega)]; omega
      rw [e]
      clear e h1 h2
      generalize c - 97 = d at *
      generalize c - 87 = d2 at *
      go_enter Tryd.func74, Tryd.ntmps74
      go_wp2
      go_ret
      exact ⟨rfl, rfl⟩
    · have e : dgI c = -1 := by unfold dgI dgL; rw [if_neg h1, if_neg h2]
      rw [e]
      clear e
      by_cases g1 : c < 48
      · have i1 : ¬ (48 : Int) ≤ (c : Int) := by omega
        have i2 : ¬ (97 : Int) ≤ (c : Int) := by omega
        clear h1 h2
        go_enter Tryd.func74, Tryd.ntmps74
        go_wp2
        go_ret
        exact ⟨rfl, rfl⟩
      · have i1 : (48 : Int) ≤ (c : Int) := by omega
        have i2 : ¬ (c : Int) ≤ 57 := by omega
        by_cases g2 : c < 97
        · have i3 : ¬ (97 : Int) ≤ (c : Int) := by omega
          clear h1 h2
          go_enter Tryd.func74, Tryd.ntmps74
          go_wp2
          go_ret
          exact ⟨rfl, rfl⟩
        · have i3 : (97 : Int) ≤ (c : Int) := by omega
          have i4 : ¬ (c : Int) ≤ 102 := by omega
          clear h1 h2
          go_enter Tryd.func74, Tryd.ntmps74
          go_wp2
          go_ret
          exact ⟨rfl, rfl⟩
def GivesS (w : World) (l : List Nat) (e : Ending) (w' : World) : Prop := e = .returned (.string (str l)) ∧ Below w.heap.size w w'
theorem one_bs {w : World} (x : Nat) (hx : x < 256) : BS (w.alloc (.cells #[.int .u8 (x : Int)] 5)) (w.alloc (.cells #[.int .u8 (x : Int)] 5)).heap.size (some ⟨w.heap.size, 0, none⟩) 1 1 [x] :=
  BS.of_blk (heap_alloc_new _ _) (by simp) rfl (Nat.le_refl _) (by omega) (fun i => by
    match i with
    | 0 => exact hx
    | i + 1 => simp) (fun i hi => by
    obtain rfl : i = 0 := by omega
    rfl)
theorem rnum_any (n : Nat) : n < 2 ^ 62 → ∀ w : World, Calls Tryd.prog 22 #[.int .i64 (n : Int)] w (GivesS w (numL n)) := by
  induction n using Nat.strongRecOn with
  | _ n ih =>
    intro hn w
    have hr : ((n : Int)).tmod 10 = ((n % 10 : Nat) : Int) := by rw [Int.tmod_eq_emod_of_nonneg (by omega)]; omega
    have hq : ((n : Int)).tdiv 10 = ((n / 10 : Nat) : Int) := by rw [Int.tdiv_eq_ediv_of_nonneg (by omega)]; omega
    have hw1 : IntKind.i64.wrap (48 + ((n % 10 : Nat) : Int)) = ((48 + n % 10 : Nat) : Int) := by rw [IntWalk.i64_in _ (by omega)]; omega
    have hw2 : IntKind.u8.wrap ((48 + n % 10 : Nat) : Int) = ((48 + n % 10 : Nat) : Int) := IntWalk.u8_in _ (by omega)
    have hw3 : IntKind.i64.wrap ((n % 10 : Nat) : Int) = ((n % 10 : Nat) : Int) := IntWalk.i64_in _ (by omega)
    have hw4 : IntKind.i64.wrap ((n / 10 : Nat) : Int) = ((n / 10 : Nat) : Int) := IntWalk.i64_in _ (by omega)
    have HB0 : Hid (Below w.heap.size w (w.alloc (.cells #[.int .u8 ((48 + n % 10 : Nat) : Int)] 5))) := Lib.hid ((Below.refl _ _).alloc (Nat.le_refl _) _)
    have hc := conv_at (one_bs (w := w) (48 + n % 10) (by omega))
    by_cases h10 : n < 10
    · have e : numL n = [48 + n % 10] := by rw [numL, if_pos h10, Nat.mod_eq_of_lt h10]
      rw [e]
      have i1 : (n : Int) < 10 := by omega
      clear ih e hq hw4
      generalize 48 + n % 10 = x at *
      generalize n % 10 = y at *
      go_enter Tryd.func22, Tryd.ntmps22
      go_wp2_with fail
      go_ret
      exact ⟨rfl, HB0.out⟩
    · have e : numL n = numL (n / 10) ++ [48 + n % 10] := by rw [numL, if_neg h10]
      have HIH := Lib.hid (ih (n / 10) (by omega) (by omega) (w.alloc (.cells #[.int .u8 ((48 + n % 10 : Nat) : Int)] 5)))
      have HAP := Lib.hid (str_app (numL (n / 10)) [48 + n % 10])
      have i1 : ¬ (n : Int) < 10 := by omega
      have hsz : (str (numL (n / 10))).size + (str [48 + n % 10]).size ≤ 9223372036854775807 := by
        rw [str_size, str_size]
        have := numL_len (n / 10) 18 (by omega)
        simp; omega
      unfold GivesS at HIH ⊢
      rw [e, ← HAP.out]
      clear ih e HAP
      generalize 48 + n % 10 = x at *
      generalize n % 10 = y at *
      generalize n / 10 = z at *
      go_enter Tryd.func22, Tryd.ntmps22
      go_wp2_with fail
      refine HIH.out.mono ?_
      rintro e w1 ⟨rfl, hb⟩
      have HF := Lib.hid (HB0.out.trans (hb.mono HB0.out.size))
      clear hb
      go_wp2_with fail
      go_ret
      exact ⟨rfl, HF.out⟩
end
section
open Go.RowKit Go
set_option linter.unusedVariables false
set_option linter.unusedSimpArgs false
set_option maxRecDepth 100000
set_option maxHeartbeats 1000000
/-- what value answers -/
def valR (w : List Nat) : Nat × Bool := if w.length ≤ 5 ∧ w.all digB = true then (valN w, decide (w ≠ [] ∧ valN w ≤ 65535)) else (0, false)
theorem valR_ok (w : List Nat) : valL w = if (valR w).2 = true then some (valR w).1 else none := by
  unfold valL valR
  by_cases h : w.length ≤ 5 ∧ w.all digB = true
  · rw [if_pos h]
    simp only [decide_eq_true_eq]
    by_cases h2 : w ≠ [] ∧ valN w ≤ 65535
    · rw [if_pos h2, if_pos ⟨h2.1, h.1, h.2, h2.2⟩]
    · rw [if_neg h2, if_neg (fun h3 => h2 ⟨h3.1, h3.2.2.2⟩)]
  · rw [if_neg h, if_neg (fun h3 => h ⟨h3.2.1, h3.2.2.1⟩)]; simp
theorem val_take {l : List Nat} {j : Nat} (hj : j < l.length) : valN (l.take (j + 1)) = 10 * valN (l.take j) + (l.getD j 0 - 48) := by
  rw [List.take_add_one, List.getElem?_eq_getElem hj, Option.toList_some, valN_app, List.getD_eq_getElem?_getD, List.getElem?_eq_getElem hj]; rfl
theorem all_take {l : List Nat} {j : Nat} (hj : j < l.length) : (l.take (j + 1)).all digB = ((l.take j).all digB && digB (l.getD j 0)) := by
  rw [List.take_add_one, List.getElem?_eq_getElem hj, Option.toList_some, List.all_append, List.getD_eq_getElem?_getD, List.getElem?_eq_getElem hj]; simp
theorem fold_lt (l : List Nat) : l.all digB = true → ∀ a : Nat, l.foldl (fun n c => 10 * n + (c - 48)) a < (a + 1) * 10 ^ l.length := by
  induction l with
  | nil => intro _ a; simp
  | cons c l ih =>
    intro h a
    rw [List.all_cons, Bool.and_eq_true] at h
    have h3 := of_decide_eq_true h.1
    have h1 := ih h.2 (10 * a + (c - 48))
    rw [List.foldl_cons, List.length_cons, Nat.pow_succ]
    refine Nat.lt_of_lt_of_le h1 ?_
    rw [Nat.mul_comm (10 ^ l.length) 10, ← Nat.mul_assoc]
    exact Nat.mul_le_mul_right _ (by omega)
theorem valN_lt (l : List Nat) (h : l.all digB = true) : valN l < 10 ^ l.length := by
  have := fold_lt l h 0
  simpa [valN] using this
def VaR (l : List Nat) (nv iv : Value) : Prop := ∃ j : Nat, iv = .int .i64 (j : Int) ∧ nv = .int .i64 ((valN (l.take j) : Nat) : Int) ∧ j ≤ l.length ∧ j ≤ 5 ∧ (l.take j).all digB = true
theorem value_any (l : List Nat) (hl : ∀ i, l.getD i 0 < 256) (hn : l.length ≤ 1000000) (w : World) :
    Calls Tryd.prog 49 #[.string (str l)] w fun e w' => e = .returned (.tuple #[.int .i64 (((valR l).1 : Nat) : Int), .bool (valR l).2]) ∧ w = w' := by
  have HI := Lib.hid (fun j (h : j < l.length) => idx_at hl h)
  have hsz := str_size l
  have HR : Hid (VaR l (.int .i64 0) (.int .i64 0)) := Lib.hid ⟨0, rfl, rfl, by omega, by omega, by simp⟩
  have HE : Hid (((str l).toList == ([] : List UInt8)) = decide (l = [])) := Lib.hid (by
    have := str_toList hl (m := []) (by simp)
    rw [← this, show (str []).toList = ([] : List UInt8) by rw [toList_data]; rfl])
  obtain ⟨n, hnn⟩ : ∃ n, l.length = n := ⟨_, rfl⟩
  have HLN := Lib.hid hnn
  rw [hnn] at hsz hn
  clear hnn
  have HST : Hid (str l = str l) := Lib.hid rfl
  generalize hS : str l = S at *
  clear HST hS
  have HRV : Hid ((n ≤ 5 ∧ l.all digB = true → valR l = (valN l, decide (l ≠ [] ∧ valN l ≤ 65535))) ∧ (¬ (n ≤ 5 ∧ l.all digB = true) → valR l = (0, false))) := Lib.hid (by
    unfold valR; rw [HLN.out]
    exact ⟨fun h => if_pos h, fun h => if_neg h⟩)
  generalize valR l = R at *
  go_enter Tryd.func49, Tryd.ntmps49
  go_wp2_with fail
  go_loop [4, 5] (fun nv iv => VaR l nv iv) (fun _ iv => (n - intOf iv).toNat)
  case atStart => exact HR.out
  case round =>
    clear HR
    obtain ⟨j, rfl, rfl, hj, hj5, hall⟩ := hrel
    rw [HLN.out] at hj
    by_cases hlt : j < n
    · have hi := HI.out j (by rw [HLN.out]; exact hlt)
      have hb := hl j
      have HVT := Lib.hid (val_take (l := l) (j := j) (by rw [HLN.out]; exact hlt))
      have HAT := Lib.hid (all_take (l := l) (j := j) (by rw [HLN.out]; exact hlt))
      have hvl : valN (l.take j) < 100000 := by
        have h1 := valN_lt _ hall
        refine Nat.lt_of_lt_of_le h1 (Nat.le_trans (Nat.pow_le_pow_right (by omega) (show (l.take j).length ≤ 5 by rw [List.length_take]; omega)) (by omega))
      have HBAD : Hid ((¬ digB (l.getD j 0) = true ∨ 5 ≤ j) → R = (0, false)) := Lib.hid (fun h => by
        refine HRV.out.2 ?_
        intro ⟨h1, h2⟩
        rcases h with h | h
        · refine h (List.all_eq_true.1 h2 _ ?_)
          rw [List.getD_eq_getElem?_getD, List.getElem?_eq_getElem (by rw [HLN.out]; exact hlt)]
          exact List.getElem_mem _
        · omega)
      have HDG : Hid (digB (l.getD j 0) = decide (48 ≤ l.getD j 0 ∧ l.getD j 0 ≤ 57)) := Lib.hid rfl
      have HAL := Lib.hid hall
      have HGO : Hid (∀ v : Nat, v = valN (l.take (j + 1)) → j < 5 → digB (l.getD j 0) = true → VaR l (.int .i64 (v : Int)) (.int .i64 ((j : Int) + 1))) := Lib.hid (fun v hv h5 hd => ⟨j + 1, rfl, by rw [hv], by rw [HLN.out]; omega, by omega, by rw [HAT.out, HAL.out, hd]; rfl⟩)
      rw [HVT.out] at HGO
      clear hall HAT HVT
      generalize l.getD j 0 = x at *
      generalize valN (l.take j) = v at *
      by_cases h1 : x < 48
      · have i1 : (x : Int) < 48 := by omega
        have hR := HBAD.out (.inl (by rw [HDG.out, decide_eq_true_eq]; omega))
        subst hR
        clear HBAD HGO HRV
        go_wp2
        go_ret2
        exact ⟨rfl, rfl⟩
      · have i1 : ¬ (x : Int) < 48 := by omega
        by_cases h2 : 57 < x
        · have i2 : (57 : Int) < (x : Int) := by omega
          have hR := HBAD.out (.inl (by rw [HDG.out, decide_eq_true_eq]; omega))
          subst hR
          clear HBAD HGO HRV
          go_wp2
          go_ret2
          exact ⟨rfl, rfl⟩
        · have i2 : ¬ (57 : Int) < (x : Int) := by omega
          by_cases h3 : 4 < j
          · have i3 : (4 : Int) < (j : Int) := by omega
            have hR := HBAD.out (.inr (by omega))
            subst hR
            clear HBAD HGO HRV
            go_wp2
            go_ret2
            exact ⟨rfl, rfl⟩
          · have i3 : ¬ (4 : Int) < (j : Int) := by omega
            have HF := Lib.hid (HGO.out _ rfl (by omega) (by rw [HDG.out, decide_eq_true_eq]; omega))
            have hm : IntKind.i64.wrap (10 * (v : Int)) = ((10 * v : Nat) : Int) := by rw [IntWalk.i64_in _ (by omega)]; omega
            have hs : IntKind.u8.wrap ((x : Int) - 48) = ((x - 48 : Nat) : Int) := by rw [IntWalk.u8_in _ (by omega)]; omega
            have hs2 : IntKind.i64.wrap ((x - 48 : Nat) : Int) = ((x - 48 : Nat) : Int) := IntWalk.i64_in _ (by omega)
            have ha : IntKind.i64.wrap (((10 * v : Nat) : Int) + ((x - 48 : Nat) : Int)) = ((10 * v + (x - 48) : Nat) : Int) := by rw [IntWalk.i64_in _ (by omega)]; omega
            clear HBAD HGO
            generalize 10 * v + (x - 48) = y at *
            generalize x - 48 = z at *
            generalize 10 * v = z2 at *
            go_wp2
            go_round
            case rel => exact HF.out
            case measure => simp [intOf]; omega
    · obtain rfl : j = n := by omega
      have hR : R = (valN (l.take j), decide (l ≠ [] ∧ valN (l.take j) ≤ 65535)) := by
        have e : l.take j = l := List.take_of_length_le (by rw [HLN.out]; omega)
        rw [e] at hall ⊢
        exact HRV.out.1 ⟨hj5, hall⟩
      have hE := HE.out
      clear hall HRV
      generalize valN (l.take j) = v at *
      by_cases e1 : l = []
      · rw [decide_eq_true e1] at hE
        rw [show decide (l ≠ [] ∧ v ≤ 65535) = false from decide_eq_false (fun h => h.1 e1)] at hR
        subst hR
        clear e1
        go_wp2
        go_ret2
        exact ⟨rfl, rfl⟩
      · rw [decide_eq_false e1] at hE
        rw [show decide (l ≠ [] ∧ v ≤ 65535) = decide ((v : Int) ≤ 65535) from decide_eq_decide.2 ⟨fun h => by omega, fun h => ⟨e1, by omega⟩⟩] at hR
        subst hR
        clear e1
        go_wp2
        go_ret2
        exact ⟨rfl, rfl⟩
end
end Go.Proofs.YtcaogiaoabdkdaaDoor
