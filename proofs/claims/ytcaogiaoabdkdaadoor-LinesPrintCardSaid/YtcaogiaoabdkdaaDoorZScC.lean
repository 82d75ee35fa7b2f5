/-
  Joined: ScB, ScC.
-/
import Derived.Test.YtcaogiaoabdkdaaDoorZScA
namespace Go.Proofs.YtcaogiaoabdkdaaDoor
set_option maxRecDepth 100000
section
open Go.RowKit Go
set_option linter.unusedVariables false
set_option linter.unusedSimpArgs false
def GivesO (w : World) (l : List Nat) (e : Ending) (w' : World) : Prop := ∃ v, e = .returned v ∧ Own w' w.heap.size v l ∧ Below w.heap.size w w'
end
section
open Go.RowKit Go
set_option linter.unusedVariables false
set_option linter.unusedSimpArgs false
theorem str_size (l : List Nat) : (str l).size = l.length := by unfold str; rw [strOfNums_size, List.length_map]
theorem str_idx {l : List Nat} (h : ∀ i, l.getD i 0 < 256) {k : Nat} (hk : k < l.length) (h2 : k < (str l).size) : ((str l)[k]'h2).toNat = l.getD k 0 := by
  have hd : (str l).data.toList = (l.map fun n : Nat => (n : Int)).map fun n => UInt8.ofNat n.toNat := strOfNums_data _
  have e0 : (str l)[k]'h2 = (str l).data[k]'h2 := rfl
  have e1 : (str l).data[k]'h2 = (str l).data.toList[k]'h2 := rfl
  have e2 : (str l).data.toList[k]? = some (UInt8.ofNat l[k]) := by
    rw [hd, List.getElem?_map, List.getElem?_map, List.getElem?_eq_getElem hk]; rfl
  have h4 : k < (str l).data.toList.length := h2
  have e3 : (str l).data.toList[k]'h4 = UInt8.ofNat l[k] := Option.some.inj ((List.getElem?_eq_getElem h4).symm.trans e2)
  rw [e0, e1, e3, UInt8.toNat_ofNat']
  have b := h k
  rw [List.getD_eq_getElem?_getD, List.getElem?_eq_getElem hk] at b ⊢
  exact Nat.mod_eq_of_lt b
theorem idx_at {l : List Nat} (h : ∀ i, l.getD i 0 < 256) {k : Nat} (hk : k < l.length) (w : World) : (Instr.index 9 (.string (str l)) (.int .i64 (k : Int))).run Tryd.prog w = .ok (.int .u8 ((l.getD k 0 : Nat) : Int)) w := by
  have h2 : k < (str l).size := by rw [str_size]; exact hk
  rw [run_index_string w 9 (str l) .i64 (k : Int) Tryd.underlying9, dif_pos ⟨by omega, by omega⟩]
  have e := str_idx h hk h2
  simp only [Int.toNat_natCast]
  rw [e]
theorem fldL_byte (K : Int) : ∀ i, (fldL K).getD i 0 < 256 := by
  have : ∀ x ∈ fldL K, x < 256 := by
    unfold fldL
    repeat' split
    all_goals (intro x hx; simp at hx; try omega)
  intro i
  by_cases hi : i < (fldL K).length
  · rw [List.getD_eq_getElem?_getD, List.getElem?_eq_getElem hi]; exact this _ (List.getElem_mem hi)
  · rw [List.getD_eq_getElem?_getD, List.getElem?_eq_none (by omega)]; exact Nat.zero_lt_succ _
theorem fldL_len (K : Int) : (fldL K).length ≤ 3 := by
  unfold fldL
  repeat' split
  all_goals simp
set_option maxRecDepth 100000 in
set_option maxHeartbeats 4000000 in
theorem fields_any (k : Nat) (hk : k < 20) (w : World) :
    Calls Tryd.prog 40 #[.int .i64 (k : Int)] w fun e w' => e = .returned (.string (str (fldL (k : Int)))) ∧ w = w' := by
  match k, hk with
  | 0, _ =>
    go_enter Tryd.func40, Tryd.ntmps40
    go_wp2
    go_ret
    exact ⟨rfl, rfl⟩
  | 1, _ =>
    go_enter Tryd.func40, Tryd.ntmps40
    go_wp2
    go_ret
    exact ⟨rfl, rfl⟩
  | 2, _ =>
    go_enter Tryd.func40, Tryd.ntmps40
    go_wp2
    go_ret
    exact ⟨rfl, rfl⟩
  | 3, _ =>
    go_enter Tryd.func40, Tryd.ntmps40
    go_wp2
    go_ret
    exact ⟨rfl, rfl⟩
  | 4, _ =>
    go_enter Tryd.func40, Tryd.ntmps40
    go_wp2
    go_ret
    exact ⟨rfl, rfl⟩
  | 5, _ =>
    go_enter Tryd.func40, Tryd.ntmps40
    go_wp2
    go_ret
    exact ⟨rfl, rfl⟩
  | 6, _ =>
    go_enter Tryd.func40, Tryd.ntmps40
    go_wp2
    go_ret
    exact ⟨rfl, rfl⟩
  | 7, _ =>
    go_enter Tryd.func40, Tryd.ntmps40
    go_wp2
    go_ret
    exact ⟨rfl, rfl⟩
  | 8, _ =>
    go_enter Tryd.func40, Tryd.ntmps40
    go_wp2
    go_ret
    exact ⟨rfl, rfl⟩
  | 9, _ =>
    go_enter Tryd.func40, Tryd.ntmps40
    go_wp2
    go_ret
    exact ⟨rfl, rfl⟩
  | 10, _ =>
    go_enter Tryd.func40, Tryd.ntmps40
    go_wp2
    go_ret
    exact ⟨rfl, rfl⟩
  | 11, _ =>
    go_enter Tryd.func40, Tryd.ntmps40
    go_wp2
    go_ret
    exact ⟨rfl, rfl⟩
  | 12, _ =>
    go_enter Tryd.func40, Tryd.ntmps40
    go_wp2
    go_ret
    exact ⟨rfl, rfl⟩
  | 13, _ =>
    go_enter Tryd.func40, Tryd.ntmps40
    go_wp2
    go_ret
    exact ⟨rfl, rfl⟩
  | 14, _ =>
    go_enter Tryd.func40, Tryd.ntmps40
    go_wp2
    go_ret
    exact ⟨rfl, rfl⟩
  | 15, _ =>
    go_enter Tryd.func40, Tryd.ntmps40
    go_wp2
    go_ret
    exact ⟨rfl, rfl⟩
  | 16, _ =>
    go_enter Tryd.func40, Tryd.ntmps40
    go_wp2
    go_ret
    exact ⟨rfl, rfl⟩
  | 17, _ =>
    go_enter Tryd.func40, Tryd.ntmps40
    go_wp2
    go_ret
    exact ⟨rfl, rfl⟩
  | 18, _ =>
    go_enter Tryd.func40, Tryd.ntmps40
    go_wp2
    go_ret
    exact ⟨rfl, rfl⟩
  | 19, _ =>
    go_enter Tryd.func40, Tryd.ntmps40
    go_wp2
    go_ret
    exact ⟨rfl, rfl⟩
  | k + 20, h => exact absurd h (by omega)
def HasR (l : List Nat) (c : Nat) (iv : Value) : Prop := ∃ j : Nat, iv = .int .i64 (j : Int) ∧ j ≤ l.length ∧ ∀ i, i < j → l.getD i 0 ≠ c
set_option maxHeartbeats 1000000 in
theorem has_any (k : Nat) (hk : k < 20) (c : Nat) (w : World) :
    Calls Tryd.prog 39 #[.int .i64 (k : Int), .int .u8 (c : Int)] w fun e w' => e = .returned (.bool (hasF (k : Int) c)) ∧ w = w' := by
  have HF := Lib.hid (fields_any k hk w)
  have HI := Lib.hid (fun j (h : j < (fldL (k : Int)).length) => idx_at (fldL_byte (k : Int)) h)
  have HL := Lib.hid (fldL_len (k : Int))
  have hsz := str_size (fldL (k : Int))
  have HY : Hid (∀ j, j < (fldL (k : Int)).length → (fldL (k : Int)).getD j 0 = c → hasF (k : Int) c = true) := Lib.hid (fun j hj e => by
    unfold hasF
    rw [decide_eq_true_eq, ← e, List.getD_eq_getElem?_getD, List.getElem?_eq_getElem hj]
    exact List.getElem_mem hj)
  have HN : Hid ((∀ j, j < (fldL (k : Int)).length → (fldL (k : Int)).getD j 0 ≠ c) → hasF (k : Int) c = false) := Lib.hid (fun h => by
    unfold hasF
    rw [decide_eq_false_iff_not]
    intro hm
    obtain ⟨j, hj, e⟩ := List.getElem_of_mem hm
    exact h j hj (by rw [List.getD_eq_getElem?_getD, List.getElem?_eq_getElem hj]; exact e))
  have HR : Hid (HasR (fldL (k : Int)) c (.int .i64 0)) := Lib.hid ⟨0, rfl, by omega, fun i hi => by omega⟩
  generalize fldL (k : Int) = l at *
  generalize hasF (k : Int) c = R at *
  generalize str l = S at *
  obtain ⟨n, hn⟩ : ∃ n, l.length = n := ⟨_, rfl⟩
  have HLN := Lib.hid hn
  rw [hn] at hsz
  clear hn
  go_enter Tryd.func39, Tryd.ntmps39
  go_wp2_with fail
  refine HF.out.mono ?_
  rintro e w1 ⟨rfl, rfl⟩
  have h3 : n ≤ 3 := by rw [← HLN.out]; exact HL.out
  go_wp2_with fail
  go_loop [6] (fun iv => HasR l c iv) (fun iv => (n - intOf iv).toNat)
  case atStart => exact HR.out
  case round =>
    obtain ⟨j, rfl, hj, hall⟩ := hrel
    have HALL := Lib.hid hall
    clear hall
    rw [HLN.out] at hj
    by_cases hlt : j < n
    · have hi := HI.out j (by rw [HLN.out]; exact hlt)
      have HST := Lib.hid (fun (h : l.getD j 0 ≠ c) (i : Nat) (hi : i < j + 1) => (by
        by_cases e : i = j
        · rw [e]; exact h
        · exact HALL.out i (by omega) : l.getD i 0 ≠ c))
      have HYJ := Lib.hid (HY.out j (by rw [HLN.out]; exact hlt))
      generalize l.getD j 0 = x at *
      by_cases hx : x = c
      · subst hx
        have hR := HYJ.out rfl
        subst hR
        go_wp2
        go_ret
        exact ⟨rfl, rfl⟩
      · have hq : ((x : Int) == (c : Int)) = false := by rw [beq_eq_false_iff_ne]; omega
        have HG : Hid (HasR l c (.int .i64 ((j : Int) + 1))) := Lib.hid ⟨j + 1, rfl, by rw [HLN.out]; omega, HST.out hx⟩
        clear hx
        go_wp2
        go_round
        case rel => exact HG.out
        case measure => simp [intOf]; omega
    · have hR := HN.out (fun i hi => HALL.out i (by rw [HLN.out] at hi; omega))
      subst hR
      go_wp2
      go_ret
      exact ⟨rfl, rfl⟩
theorem num_ok (z : Int) (h : Bool) (w : World) :
    Calls Tryd.prog 38 #[.int .i64 z, .bool h] w fun e w' => e = .returned (.bool (numF z h)) ∧ w = w' := by
  by_cases h1 : 0 ≤ z
  · by_cases h2 : z ≤ 65535
    · cases h
      · by_cases h3 : z = 0
        · subst h3
          go_enter Tryd.func38, Tryd.ntmps38
          go_wp2
          go_ret
          exact ⟨rfl, rfl⟩
        · have hq : (z == 0) = false := by rw [beq_eq_false_iff_ne]; exact h3
          have HF : Hid (numF z false = false) := Lib.hid (by unfold numF; simp [h3])
          clear h3
          go_enter Tryd.func38, Tryd.ntmps38
          go_wp2
          go_ret
          exact ⟨by rw [HF.out]; rfl, rfl⟩
      · have HF : Hid (numF z true = true) := Lib.hid (by unfold numF; simp [h1, h2])
        go_enter Tryd.func38, Tryd.ntmps38
        go_wp2
        go_ret
        exact ⟨by rw [HF.out]; rfl, rfl⟩
    · have HF : Hid (numF z h = false) := Lib.hid (by unfold numF; simp [h2])
      go_enter Tryd.func38, Tryd.ntmps38
      go_wp2
      go_ret
      exact ⟨by rw [HF.out]; rfl, rfl⟩
  · have HF : Hid (numF z h = false) := Lib.hid (by unfold numF; simp [h1])
    go_enter Tryd.func38, Tryd.ntmps38
    go_wp2
    go_ret
    exact ⟨by rw [HF.out]; rfl, rfl⟩
end
end Go.Proofs.YtcaogiaoabdkdaaDoor
