/-
  Joined: LqB, LqC.
-/
import Derived.Test.YtcaogiaoabdkdaaDoorZLqA
import Derived.Laws.Externs
import Derived.Lib.Bytealg
import Derived.Deep.WholeRow
import Derived.Deep.Cut
import Derived.Laws.Tables
namespace Go.Proofs.YtcaogiaoabdkdaaDoor
set_option maxRecDepth 100000
section
open Go.RowKit Go Go.Shelf
set_option linter.unusedVariables false
set_option linter.unusedSimpArgs false
set_option maxRecDepth 1000000
set_option maxHeartbeats 1000000
theorem lindexByte_any (l : List Nat) (hl : ∀ c ∈ l, c < 256) (x : Nat) (hx : x < 256) (w : World) :
    Calls Tryd.prog 87 #[.string (str l), .int .u8 (x : Int)] w fun e w' => e = .returned (.int .i64 (idxL x l)) ∧ w = w' := by
  have hi := idx_lib hx l hl
  rw [← str_data] at hi
  rw [← hi, show UInt8.ofNat x = (x : Int).toNat.toUInt8 from rfl]
  clear hi
  generalize str l = S at *
  go_enter Tryd.func87, Tryd.ntmps87
  go_wp2
  rw [run_callFunc_extern (show Tryd.prog.funcs[94]? = some Tryd.f94 by kernel_rfl) (by kernel_rfl) (by kernel_rfl) (by kernel_rfl) (e := Extern.BytealgIndexByte.indexByte) (by kernel_rfl), Lib.run_indexByteString]
  simp only [Result.andThen]
  rw [Oper.upon_value]
  go_wp2
  go_ret
  exact ⟨rfl, rfl⟩
theorem indexByte_any (l : List Nat) (hl : ∀ c ∈ l, c < 256) (x : Nat) (hx : x < 256) (w : World) :
    Calls Tryd.prog 82 #[.string (str l), .int .u8 (x : Int)] w fun e w' => e = .returned (.int .i64 (idxL x l)) ∧ w = w' := by
  have H := Lib.hid (lindexByte_any l hl x hx)
  generalize idxL x l = R at *
  go_enter Tryd.func82, Tryd.ntmps82
  go_wp2_with fail
  refine (H.out _).mono ?_
  rintro e w1 ⟨rfl, rfl⟩
  go_wp2_with fail
  go_ret
  exact ⟨rfl, rfl⟩
theorem one_byte {x : Nat} (hx : x < 256) (i : Nat) : ([x] : List Nat).getD i 0 < 256 := by
  match i with
  | 0 => exact hx
  | i + 1 => simp
theorem lindex_any (l : List Nat) (hl : ∀ i, l.getD i 0 < 256) (hm : ∀ c ∈ l, c < 256) (hn : l.length ≤ 1000000) (x : Nat) (hx : x < 256) (w : World) :
    Calls Tryd.prog 79 #[.string (str l), .string (str [x])] w fun e w' => e = .returned (.int .i64 (idxL x l)) ∧ w = w' := by
  have H := Lib.hid (lindexByte_any l hm x hx)
  have hq := str_toList (one_byte hx) hl
  have hs1 : (str [x]).size = 1 := by rw [str_size]; rfl
  have hix := idx_at (one_byte hx) (k := 0) (by simp) w
  by_cases he : [x] = l
  · have hR : idxL x l = 0 := by rw [← he, idxL, if_pos rfl]
    have hq2 : ((str [x]).toList == (str l).toList) = true := by rw [hq, decide_eq_true_eq]; exact he
    rw [hR]
    clear hR hq he H hix
    generalize str l = S at *
    generalize str [x] = X at *
    go_enter Tryd.func79, Tryd.ntmps79
    go_wp2_with fail
    go_ret
    exact ⟨rfl, rfl⟩
  · have hq2 : ((str [x]).toList == (str l).toList) = false := by rw [hq, decide_eq_false_iff_not]; exact he
    have hix2 : (Instr.index 9 (.string (str [x])) (.int .i64 0)).run Tryd.prog w = .ok (.int .u8 (x : Int)) w := hix
    clear hq he hix
    generalize str l = S at *
    generalize str [x] = X at *
    generalize idxL x l = R at *
    go_enter Tryd.func79, Tryd.ntmps79
    go_wp2_with fail
    refine (H.out _).mono ?_
    rintro e w1 ⟨rfl, rfl⟩
    go_wp2_with fail
    go_ret
    exact ⟨rfl, rfl⟩
theorem index_any (l : List Nat) (hl : ∀ i, l.getD i 0 < 256) (hm : ∀ c ∈ l, c < 256) (hn : l.length ≤ 1000000) (x : Nat) (hx : x < 256) (w : World) :
    Calls Tryd.prog 60 #[.string (str l), .string (str [x])] w fun e w' => e = .returned (.int .i64 (idxL x l)) ∧ w = w' := by
  have H := Lib.hid (lindex_any l hl hm hn x hx)
  generalize str l = S at *
  generalize str [x] = X at *
  generalize idxL x l = R at *
  go_enter Tryd.func60, Tryd.ntmps60
  go_wp2_with fail
  refine (H.out _).mono ?_
  rintro e w1 ⟨rfl, rfl⟩
  go_wp2_with fail
  go_ret
  exact ⟨rfl, rfl⟩
/-- what is ahead of the first x, and what is behind it -/
def cutAt (x : Nat) (l : List Nat) : List Nat := if idxL x l = -1 then l else l.take (idxL x l).toNat
def cutBe (x : Nat) (l : List Nat) : List Nat := if idxL x l = -1 then [] else l.drop ((idxL x l).toNat + 1)
theorem lcut_any (l : List Nat) (hl : ∀ i, l.getD i 0 < 256) (hm : ∀ c ∈ l, c < 256) (hn : l.length ≤ 1000000) (x : Nat) (hx : x < 256) (w : World) :
    Calls Tryd.prog 61 #[.string (str l), .string (str [x])] w fun e w' => e = .returned (.tuple #[.string (str (cutAt x l)), .string (str (cutBe x l)), .bool (decide (idxL x l ≠ -1))]) ∧ Below w.heap.size w w' := by
  have H := Lib.hid (lindex_any l hl hm hn x hx)
  have hs1 : (str [x]).size = 1 := by rw [str_size]; rfl
  have hg := idx_ge x l
  unfold cutAt cutBe
  by_cases h : idxL x l = -1
  · rw [if_pos h, if_pos h, h]
    rw [h] at H
    rw [show str [] = (⟨#[]⟩ : ByteArray) from by kernel_rfl]
    clear h hg
    generalize str l = S at *
    generalize str [x] = X at *
    go_enter Tryd.func61, Tryd.ntmps61
    go_wp2_with fail
    refine (H.out _).mono ?_
    rintro e w1 ⟨rfl, rfl⟩
    go_wp2_with fail
    exact bodyPost_ret (by simp [results, Tryd.results61, go_sem]) rfl ⟨rfl, Below.refl _ _⟩
  · obtain ⟨i, hi⟩ : ∃ i : Nat, idxL x l = (i : Int) := ⟨(idxL x l).toNat, by omega⟩
    rw [if_neg h, if_neg h, hi, Int.toNat_natCast]
    rw [hi] at H hg
    have h1 := fun W => sub_to (l := l) (k := .i64) (j := i) (by omega) W
    have h2 := fun W => sub_from (l := l) (k := .i64) (j := i + 1) (by omega) W
    have hd : decide ((i : Int) ≠ -1) = true := by rw [decide_eq_true_eq]; omega
    rw [hd]
    have hiw : IntKind.i64.wrap ((i : Int) + 1) = (i : Int) + 1 := IntWalk.i64_in _ (by omega)
    have hil : (i : Int) ≤ (l.length : Int) := by omega
    have hsz := str_size l
    generalize str (l.take i) = S1 at *
    generalize str (l.drop (i + 1)) = S2 at *
    have h2' : ∀ W, (Instr.slice 9 (.string (str l)) (some (.int .i64 ((i : Int) + 1))) none none).run Tryd.prog W = .ok (.string S2) W := fun W => by have := h2 W; rwa [Int.natCast_add] at this
    clear h h2 hd hi
    generalize str l = S at *
    generalize str [x] = X at *
    have h1' := h1 w
    have h2'' := h2' w
    have h3 := h1 w.drew
    have h4 := h2' w.drew
    go_enter Tryd.func61, Tryd.ntmps61
    go_wp2_with fail
    refine (H.out _).mono ?_
    rintro e w1 ⟨rfl, rfl⟩
    go_wp2_with fail
    go_big_quiet (fail)
    go_wp2_with fail
    refine bodyPost_ret (v := .tuple #[.string S1, .string S2, .bool true]) (by simp [results, Tryd.results61, go_sem]) rfl ⟨rfl, ?_⟩
    exact below_drewN (Below.refl _ _) _
theorem cut_any31 (l : List Nat) (hl : ∀ i, l.getD i 0 < 256) (hm : ∀ c ∈ l, c < 256) (hn : l.length ≤ 1000000) (x : Nat) (hx : x < 256) (w : World) :
    Calls Tryd.prog 43 #[.string (str l), .string (str [x])] w fun e w' => e = .returned (.tuple #[.string (str (cutAt x l)), .string (str (cutBe x l)), .bool (decide (idxL x l ≠ -1))]) ∧ Below w.heap.size w w' := by
  have H := Lib.hid (lcut_any l hl hm hn x hx)
  generalize str l = S at *
  generalize str [x] = X at *
  generalize str (cutAt x l) = S1 at *
  generalize str (cutBe x l) = S2 at *
  generalize decide (idxL x l ≠ -1) = R at *
  go_enter Tryd.func43, Tryd.ntmps43
  go_wp2_with fail
  refine (H.out _).mono ?_
  rintro e w1 ⟨rfl, hb1⟩
  go_wp2_with fail
  exact bodyPost_ret (by simp [results, Tryd.results43, go_sem]) rfl ⟨rfl, hb1⟩
end
section
open Go.RowKit Go Go.Shelf
set_option linter.unusedVariables false
set_option linter.unusedSimpArgs false
set_option maxRecDepth 1000000
set_option maxHeartbeats 1000000
def dropB (l : List Nat) : List Nat := l.dropWhile isBl
def trimR (l : List Nat) : List Nat := (l.reverse.dropWhile isBl).reverse
theorem trimR_snoc (l : List Nat) (x : Nat) : trimR (l ++ [x]) = if isBl x = true then trimR l else l ++ [x] := by
  unfold trimR
  rw [List.reverse_append, List.reverse_singleton, List.singleton_append, List.dropWhile_cons]
  cases isBl x <;> simp
theorem dropB_cons (l : List Nat) (x : Nat) : dropB (x :: l) = if isBl x = true then dropB l else x :: l := by
  unfold dropB
  rw [List.dropWhile_cons]
theorem dropB_sub (l : List Nat) : ∀ c ∈ dropB l, c ∈ l := fun c h => (List.dropWhile_suffix _).subset h
theorem trimR_sub (l : List Nat) : ∀ c ∈ trimR l, c ∈ l := fun c h => by
  unfold trimR at h
  rw [List.mem_reverse] at h
  exact List.mem_reverse.1 ((List.dropWhile_suffix _).subset h)
theorem dropB_len (l : List Nat) : (dropB l).length ≤ l.length := (List.dropWhile_suffix _).length_le
theorem trimR_len (l : List Nat) : (trimR l).length ≤ l.length := by
  unfold trimR
  rw [List.length_reverse]
  have := (List.dropWhile_suffix (p := isBl) (l := l.reverse)).length_le
  rwa [List.length_reverse] at this
def slen : Value → Nat
  | .string s => s.size
  | _ => 0
def TlR (l : List Nat) (F : List Nat → List Nat) (sv : Value) : Prop := ∃ m, sv = .string (str m) ∧ (∀ c ∈ m, c < 256) ∧ m.length ≤ l.length ∧ F m = F l
theorem trimLeft_any (b : Nat) (l : List Nat) (hm : ∀ c ∈ l, c < 256) (hn : l.length ≤ 1000000) (w : World) (hc : ∀ y, y < 256 → w.cell? ⟨b, y, none⟩ = some (.bool (isBl y))) :
    Calls Tryd.prog 65 #[.string (str l), .pointer (some ⟨b, 0, none⟩)] w fun e w' => e = .returned (.string (str (dropB l))) ∧ w = w' := by
  have HC := Lib.hid (fun x (hx : x < 256) => hasA_any b x hx w hc)
  have HR : Hid (TlR l dropB (.string (str l))) := Lib.hid ⟨l, rfl, hm, Nat.le_refl _, rfl⟩
  generalize str l = S0 at *
  clear hc hm
  go_enter Tryd.func65, Tryd.ntmps65
  go_wp2_with fail
  go_loopw [0] (fun sv wr => TlR l dropB sv ∧ wr = w) (fun sv _ => slen sv)
  case atStart => exact ⟨HR.out, rfl⟩
  case round =>
    clear HR
    obtain ⟨⟨m, rfl, hb, hl, hF⟩, rfl⟩ := hrel
    have hsz := str_size m
    cases m with
    | nil =>
      have HF2 : Hid (str (dropB l) = str []) := Lib.hid (by rw [← hF]; rfl)
      clear hF
      have hs0 : (str ([] : List Nat)).size = 0 := by rw [str_size]; rfl
      generalize str ([] : List Nat) = S at *
      go_wp2_with fail
      go_ret
      exact ⟨by rw [HF2.out]; rfl, rfl⟩
    | cons x r =>
      have hx : x < 256 := hb x (by simp)
      have hr : ∀ c ∈ r, c < 256 := fun c h => hb c (List.mem_cons_of_mem _ h)
      have hgb : ∀ i, (x :: r).getD i 0 < 256 := getD_lt256 hb
      have hi0 := idx_at hgb (k := 0) (by simp) wr
      have hi : (Instr.index 9 (.string (str (x :: r))) (.int .i64 0)).run Tryd.prog wr = .ok (.int .u8 (x : Int)) wr := hi0
      have hs1 := sub_from (l := x :: r) (k := .i64) (j := 1) (by simp) wr
      have hs : (Instr.slice 9 (.string (str (x :: r))) (some (.int .i64 1)) none none).run Tryd.prog wr = .ok (.string (str r)) wr := hs1
      have HX := Lib.hid (HC.out x hx)
      have hl0 : ((x :: r).length : Int) > 0 := by simp
      have hlr : r.length ≤ l.length := by simp at hl; omega
      have hzr := str_size r
      clear hi0 hs1 hgb
      by_cases hbl : isBl x = true
      · have HF : Hid (TlR l dropB (.string (str r)) ∧ wr = wr) := Lib.hid ⟨⟨r, rfl, hr, hlr, by rw [← hF, dropB_cons, if_pos hbl]⟩, rfl⟩
        rw [hbl] at HX
        have hzz : (str r).size < (str (x :: r)).size := by rw [hzr, hsz]; simp
        have HZ := Lib.hid hzz
        obtain ⟨n1, hn1⟩ : ∃ n1, (x :: r).length = n1 := ⟨_, rfl⟩
        rw [hn1] at hsz hl0
        clear hF hbl hzz hzr hl hb hr hn1
        generalize str (x :: r) = S at *
        generalize str r = S2 at *
        go_wp2_with fail
        refine HX.out.mono ?_
        rintro e w1 ⟨rfl, rfl⟩
        go_wp2_with fail
        go_roundw
        case rel => exact HF.out
        case measure => exact HZ.out
      · have hbf : isBl x = false := by cases h : isBl x; rfl; exact absurd h hbl
        have HF2 : Hid (str (dropB l) = str (x :: r)) := Lib.hid (by rw [← hF, dropB_cons, if_neg hbl])
        rw [hbf] at HX
        obtain ⟨n1, hn1⟩ : ∃ n1, (x :: r).length = n1 := ⟨_, rfl⟩
        rw [hn1] at hsz hl0
        clear hF hbl hbf hzr hl hb hr hn1
        generalize str (x :: r) = S at *
        generalize str r = S2 at *
        go_wp2_with fail
        refine HX.out.mono ?_
        rintro e w1 ⟨rfl, rfl⟩
        go_wp2_with fail
        go_ret
        exact ⟨by rw [HF2.out]; rfl, rfl⟩
theorem snoc_cases (m : List Nat) : m = [] ∨ ∃ r x, m = r ++ [x] := by
  by_cases h : m = []
  · exact .inl h
  · exact .inr ⟨m.dropLast, m.getLast h, (List.dropLast_concat_getLast h).symm⟩
theorem trimRight_any (b : Nat) (l : List Nat) (hm : ∀ c ∈ l, c < 256) (hn : l.length ≤ 1000000) (w : World) (hc : ∀ y, y < 256 → w.cell? ⟨b, y, none⟩ = some (.bool (isBl y))) :
    Calls Tryd.prog 66 #[.string (str l), .pointer (some ⟨b, 0, none⟩)] w fun e w' => e = .returned (.string (str (trimR l))) ∧ w = w' := by
  have HC := Lib.hid (fun x (hx : x < 256) => hasA_any b x hx w hc)
  have HR : Hid (TlR l trimR (.string (str l))) := Lib.hid ⟨l, rfl, hm, Nat.le_refl _, rfl⟩
  generalize str l = S0 at *
  clear hc hm
  go_enter Tryd.func66, Tryd.ntmps66
  go_wp2_with fail
  go_loopw [0] (fun sv wr => TlR l trimR sv ∧ wr = w) (fun sv _ => slen sv)
  case atStart => exact ⟨HR.out, rfl⟩
  case round =>
    clear HR
    obtain ⟨⟨m, rfl, hb, hl, hF⟩, rfl⟩ := hrel
    have hsz := str_size m
    rcases snoc_cases m with rfl | ⟨r, x, rfl⟩
    ·
      have HF2 : Hid (str (trimR l) = str []) := Lib.hid (by rw [← hF]; rfl)
      clear hF
      have hs0 : (str ([] : List Nat)).size = 0 := by rw [str_size]; rfl
      generalize str ([] : List Nat) = S at *
      go_wp2_with fail
      go_ret
      exact ⟨by rw [HF2.out]; rfl, rfl⟩
    · have hx : x < 256 := hb x (by simp)
      have hr : ∀ c ∈ r, c < 256 := fun c h => hb c (List.mem_append_left _ h)
      have hgb : ∀ i, (r ++ [x]).getD i 0 < 256 := getD_lt256 hb
      obtain ⟨q, hq⟩ : ∃ q, r.length = q := ⟨_, rfl⟩
      have hi0 := idx_at hgb (k := q) (by simp; omega) wr
      have hi : (Instr.index 9 (.string (str (r ++ [x]))) (.int .i64 (q : Int))).run Tryd.prog wr = .ok (.int .u8 (x : Int)) wr := by rw [← hq] at hi0 ⊢; rw [hi0]; simp
      have hs1 := sub_to (l := r ++ [x]) (k := .i64) (j := q) (by simp; omega) wr
      have hs : (Instr.slice 9 (.string (str (r ++ [x]))) none (some (.int .i64 (q : Int))) none).run Tryd.prog wr = .ok (.string (str r)) wr := by rw [← hq] at hs1 ⊢; rw [hs1, List.take_left']; rfl
      have HX := Lib.hid (HC.out x hx)
      have hl0 : ((r ++ [x]).length : Int) > 0 := by simp
      have hln : ((r ++ [x]).length : Int) = (q : Int) + 1 := by simp; omega
      have hlr : r.length ≤ l.length := by simp at hl; omega
      have hzr := str_size r
      clear hi0 hs1 hgb
      by_cases hbl : isBl x = true
      · have HF : Hid (TlR l trimR (.string (str r)) ∧ wr = wr) := Lib.hid ⟨⟨r, rfl, hr, hlr, by rw [← hF, trimR_snoc, if_pos hbl]⟩, rfl⟩
        rw [hbl] at HX
        have hzz : (str r).size < (str (r ++ [x])).size := by rw [hzr, hsz]; simp
        have HZ := Lib.hid hzz
        have hsz2 : (str (r ++ [x])).size = q + 1 := by rw [hsz]; simp; omega
        have hqq : ((q + 1 : Nat) : Int) - 1 = (q : Int) := by omega
        have hqm : q ≤ 1000000 := by simp at hl; omega
        clear hF hbl hzz hzr hl hb hr hsz hl0 hln hq
        generalize str (r ++ [x]) = S at *
        generalize str r = S2 at *
        go_wp2_with fail
        refine HX.out.mono ?_
        rintro e w1 ⟨rfl, rfl⟩
        go_wp2_with fail
        go_roundw
        case rel => exact HF.out
        case measure => exact HZ.out
      · have hbf : isBl x = false := by cases h : isBl x; rfl; exact absurd h hbl
        have HF2 : Hid (str (trimR l) = str (r ++ [x])) := Lib.hid (by rw [← hF, trimR_snoc, if_neg hbl])
        rw [hbf] at HX
        have hsz2 : (str (r ++ [x])).size = q + 1 := by rw [hsz]; simp; omega
        have hqq : ((q + 1 : Nat) : Int) - 1 = (q : Int) := by omega
        have hqm : q ≤ 1000000 := by simp at hl; omega
        clear hF hbl hbf hzr hl hb hr hsz hl0 hln hq
        generalize str (r ++ [x]) = S at *
        generalize str r = S2 at *
        go_wp2_with fail
        refine HX.out.mono ?_
        rintro e w1 ⟨rfl, rfl⟩
        go_wp2_with fail
        go_ret
        exact ⟨by rw [HF2.out]; rfl, rfl⟩
theorem trimL_any (l : List Nat) (hm : ∀ c ∈ l, c < 256) (hn : l.length ≤ 1000000) (w : World) :
    Calls Tryd.prog 48 #[.string (str l), .string ⟨#[32, 9]⟩] w fun e w' => e = .returned (.string (str (dropB l))) ∧ Below w.heap.size w w' := by
  by_cases h0 : l = []
  · subst h0
    rw [show str (dropB []) = (⟨#[]⟩ : ByteArray) from by kernel_rfl, show str [] = (⟨#[]⟩ : ByteArray) from by kernel_rfl]
    have hq : ((⟨#[]⟩ : ByteArray).toList == ([] : List UInt8)) = true := by rw [toList_data]; rfl
    generalize (⟨#[]⟩ : ByteArray) = E at *
    go_enter Tryd.func48, Tryd.ntmps48
    go_wp2_with fail
    go_ret
    exact ⟨rfl, Below.refl _ _⟩
  · have hq : ((str l).toList == ([] : List UInt8)) = false := by rw [emp_str (getD_lt256 hm), decide_eq_false_iff_not]; exact h0
    have hq2 : ((⟨#[32, 9]⟩ : ByteArray).toList == ([] : List UInt8)) = false := by rw [toList_data]; rfl
    have hq3 : (⟨#[32, 9]⟩ : ByteArray).size = 2 := rfl
    have HMK := Lib.hid (mkset_any w)
    have HW := Lib.hid (Below.refl w.heap.size w)
    have HA1 : Hid (Below w.heap.size w (w.alloc (.cells blS 108))) := Lib.hid ((Below.refl _ _).alloc (Nat.le_refl _) _)
    generalize hw1 : (w.alloc (.cells blS 108)) = w1 at *
    have HX2 : Hid ((w1.alloc (.cells blS 108)).heap[w1.heap.size]? = some (.cells blS 108 (0, 0))) := Lib.hid (heap_alloc_new w1 _)
    have HA2 : Hid (Below w.heap.size w (w1.alloc (.cells blS 108))) := Lib.hid (HA1.out.alloc HA1.out.size _)
    have HC : Hid (∀ y, y < 256 → (w1.alloc (.cells blS 108)).cell? ⟨w1.heap.size, y, none⟩ = some (.bool (isBl y))) := Lib.hid (fun y hy => (blk_cell HX2.out y).trans (blS_at hy))
    obtain ⟨zz, hzz⟩ : ∃ zz : Array Value, zz = Array.replicate 256 (.bool false) := ⟨_, rfl⟩
    have hz : (zeroValue 108).run Tryd.prog w1 = .ok (.agg zz) w1 := by rw [hzz]; kernel_rfl
    have HO : Hid (zz.size = blS.size) := Lib.hid (by rw [hzz, blS_size]; simp)
    have HI : Hid ((Tryd.prog.info? 108).map (·.size) = some blS.size) := Lib.hid (by rw [blS_size]; kernel_rfl)
    have HXZ : Hid ((w1.alloc (.cells zz 108)).heap[w1.heap.size]? = some (.cells zz 108 (0, 0))) := Lib.hid (heap_alloc_new w1 _)
    have HSR : Hid ((w1.alloc (.cells zz 108)).setRow w1.heap.size blS = w1.alloc (.cells blS 108)) := Lib.hid (World.setRow_alloc_new _ _ _ _)
    have HB1 := Lib.hid blS_one
    generalize hw2 : (w1.alloc (.cells blS 108)) = w2 at *
    have HM := Lib.hid hm
    have HT := Lib.hid (fun W m (h : ∀ c ∈ m, c < 256) (h2 : m.length ≤ 1000000) (hc : ∀ y, y < 256 → W.cell? ⟨w1.heap.size, y, none⟩ = some (.bool (isBl y))) => trimLeft_any w1.heap.size m h h2 W hc)
    have HTR := Lib.hid (fun W m (h : ∀ c ∈ m, c < 256) (h2 : m.length ≤ 1000000) (hc : ∀ y, y < 256 → W.cell? ⟨w1.heap.size, y, none⟩ = some (.bool (isBl y))) => trimRight_any w1.heap.size m h h2 W hc)
    have HS1 := Lib.hid (trimR_sub l)
    have HS2 := Lib.hid (trimR_len l)
    clear hw1 hw2 hzz h0
    generalize (⟨#[32, 9]⟩ : ByteArray) = E at *
    generalize blS = BS0 at *
    go_enter Tryd.func48, Tryd.ntmps48
    go_wp2_with fail
    refine HMK.out.mono ?_
    rintro e wq ⟨rfl, hwq⟩
    subst hwq
    go_upto_region 6 with (with_reducible refine wpList_store_row rfl 108 (.tmp 5) (.tmp 29) rfl _ BS0 rfl rfl 108 zz HXZ.out HI.out HO.out HB1.out ?_)
    rw [HSR.out]
    clear hz
    go_wp2_with fail
    refine (HT.out _ l HM.out hn HC.out).mono ?_
    rintro e w3 ⟨rfl, rfl⟩
    go_wp2_with fail
    go_ret
    exact ⟨rfl, HA2.out⟩
theorem trim_any31 (l : List Nat) (hm : ∀ c ∈ l, c < 256) (hn : l.length ≤ 1000000) (w : World) :
    Calls Tryd.prog 44 #[.string (str l), .string ⟨#[32, 9]⟩] w fun e w' => e = .returned (.string (str (dropB (trimR l)))) ∧ Below w.heap.size w w' := by
  by_cases h0 : l = []
  · subst h0
    rw [show str (dropB (trimR [])) = (⟨#[]⟩ : ByteArray) from by kernel_rfl, show str [] = (⟨#[]⟩ : ByteArray) from by kernel_rfl]
    have hq : ((⟨#[]⟩ : ByteArray).toList == ([] : List UInt8)) = true := by rw [toList_data]; rfl
    generalize (⟨#[]⟩ : ByteArray) = E at *
    go_enter Tryd.func44, Tryd.ntmps44
    go_wp2_with fail
    go_ret
    exact ⟨rfl, Below.refl _ _⟩
  · have hq : ((str l).toList == ([] : List UInt8)) = false := by rw [emp_str (getD_lt256 hm), decide_eq_false_iff_not]; exact h0
    have hq2 : ((⟨#[32, 9]⟩ : ByteArray).toList == ([] : List UInt8)) = false := by rw [toList_data]; rfl
    have hq3 : (⟨#[32, 9]⟩ : ByteArray).size = 2 := rfl
    have HMK := Lib.hid (mkset_any w)
    have HW := Lib.hid (Below.refl w.heap.size w)
    have HA1 : Hid (Below w.heap.size w (w.alloc (.cells blS 108))) := Lib.hid ((Below.refl _ _).alloc (Nat.le_refl _) _)
    generalize hw1 : (w.alloc (.cells blS 108)) = w1 at *
    have HX2 : Hid ((w1.alloc (.cells blS 108)).heap[w1.heap.size]? = some (.cells blS 108 (0, 0))) := Lib.hid (heap_alloc_new w1 _)
    have HA2 : Hid (Below w.heap.size w (w1.alloc (.cells blS 108))) := Lib.hid (HA1.out.alloc HA1.out.size _)
    have HC : Hid (∀ y, y < 256 → (w1.alloc (.cells blS 108)).cell? ⟨w1.heap.size, y, none⟩ = some (.bool (isBl y))) := Lib.hid (fun y hy => (blk_cell HX2.out y).trans (blS_at hy))
    obtain ⟨zz, hzz⟩ : ∃ zz : Array Value, zz = Array.replicate 256 (.bool false) := ⟨_, rfl⟩
    have hz : (zeroValue 108).run Tryd.prog w1 = .ok (.agg zz) w1 := by rw [hzz]; kernel_rfl
    have HO : Hid (zz.size = blS.size) := Lib.hid (by rw [hzz, blS_size]; simp)
    have HI : Hid ((Tryd.prog.info? 108).map (·.size) = some blS.size) := Lib.hid (by rw [blS_size]; kernel_rfl)
    have HXZ : Hid ((w1.alloc (.cells zz 108)).heap[w1.heap.size]? = some (.cells zz 108 (0, 0))) := Lib.hid (heap_alloc_new w1 _)
    have HSR : Hid ((w1.alloc (.cells zz 108)).setRow w1.heap.size blS = w1.alloc (.cells blS 108)) := Lib.hid (World.setRow_alloc_new _ _ _ _)
    have HB1 := Lib.hid blS_one
    generalize hw2 : (w1.alloc (.cells blS 108)) = w2 at *
    have HM := Lib.hid hm
    have HT := Lib.hid (fun W m (h : ∀ c ∈ m, c < 256) (h2 : m.length ≤ 1000000) (hc : ∀ y, y < 256 → W.cell? ⟨w1.heap.size, y, none⟩ = some (.bool (isBl y))) => trimLeft_any w1.heap.size m h h2 W hc)
    have HTR := Lib.hid (fun W m (h : ∀ c ∈ m, c < 256) (h2 : m.length ≤ 1000000) (hc : ∀ y, y < 256 → W.cell? ⟨w1.heap.size, y, none⟩ = some (.bool (isBl y))) => trimRight_any w1.heap.size m h h2 W hc)
    have HS1 := Lib.hid (trimR_sub l)
    have HS2 := Lib.hid (trimR_len l)
    clear hw1 hw2 hzz h0
    generalize (⟨#[32, 9]⟩ : ByteArray) = E at *
    generalize blS = BS0 at *
    go_enter Tryd.func44, Tryd.ntmps44
    go_wp2_with fail
    refine HMK.out.mono ?_
    rintro e wq ⟨rfl, hwq⟩
    subst hwq
    go_upto_region 6 with (with_reducible refine wpList_store_row rfl 108 (.tmp 5) (.tmp 32) rfl _ BS0 rfl rfl 108 zz HXZ.out HI.out HO.out HB1.out ?_)
    rw [HSR.out]
    clear hz
    go_wp2_with fail
    refine (HTR.out _ l HM.out hn HC.out).mono ?_
    rintro e w3 ⟨rfl, rfl⟩
    go_wp2_with fail
    refine (HT.out _ (trimR l) (fun c h => HM.out c (HS1.out c h)) (Nat.le_trans HS2.out hn) HC.out).mono ?_
    rintro e w3 ⟨rfl, rfl⟩
    go_wp2_with fail
    go_ret
    exact ⟨rfl, HA2.out⟩
end
end Go.Proofs.YtcaogiaoabdkdaaDoor
