/-
  The library's set of the two blanks: what lies in it; IndexByte; the pieces of strings.
-/
import Derived.Test.YtcaogiaoabdkdaaDoorZLnI
import Derived.Shelf.Strings.AsciiSet
namespace Go.Proofs.YtcaogiaoabdkdaaDoor
open Go.RowKit Go Go.Shelf
set_option linter.unusedVariables false
set_option linter.unusedSimpArgs false
set_option maxRecDepth 1000000
set_option maxHeartbeats 1000000
def rhoA : Ren := ⟨fun n => if n = 227 then 64 else if n = 228 then 73 else 0, fun n => if n = 3 then 3 else if n = 4 then 4 else if n = 5 then 5 else if n = 9 then 9 else if n = 21 then 21 else if n = 116 then 108 else if n = 117 then 109 else if n = 124 then 112 else 0, fun x => x⟩
theorem laysA : Lays.n227 Tryd.prog rhoA where
  mixed := by kernel_rfl
  f227 := by kernel_rfl
  t0 := Tryd.underlying0
  a0 := fun _ => by kernel_rfl
  z0 := fun _ => by kernel_rfl
  v0 := fun _ => by kernel_rfl
  t3 := Tryd.underlying3
  a3 := fun _ => by kernel_rfl
  z3 := fun _ => by kernel_rfl
  v3 := fun _ => by kernel_rfl
  t4 := Tryd.underlying4
  a4 := fun _ => by kernel_rfl
  z4 := fun _ => by kernel_rfl
  v4 := fun _ => by kernel_rfl
  t5 := Tryd.underlying5
  a5 := fun _ => by kernel_rfl
  z5 := fun _ => by kernel_rfl
  v5 := fun _ => by kernel_rfl
  t9 := Tryd.underlying9
  a9 := fun _ => by kernel_rfl
  z9 := fun _ => by kernel_rfl
  v9 := fun _ => by kernel_rfl
  t116 := Tryd.underlying108
  a116 := fun _ => by kernel_rfl
  z116 := fun _ => by kernel_rfl
/-- the set of the two blanks -/
def blS : Array Value := Lib.setCells [32, 9]
def isBl (x : Nat) : Bool := decide (x = 32 ∨ x = 9)
theorem blS_at {x : Nat} (hx : x < 256) : blS[x]? = some (.bool (isBl x)) := by
  have h := Lib.setCells_at [32, 9] (UInt8.ofNat x)
  have e : (UInt8.ofNat x).toNat = x := by simp [UInt8.toNat_ofNat']; omega
  rw [e] at h
  unfold blS
  rw [h]
  congr 2
  unfold isBl
  rw [Bool.eq_iff_iff, List.contains_iff_mem, decide_eq_true_eq]
  simp only [List.mem_cons, List.not_mem_nil, or_false]
  have h32 : UInt8.ofNat x = 32 ↔ x = 32 := ⟨fun q => by have := congrArg UInt8.toNat q; rw [e] at this; exact this, fun q => by subst q; rfl⟩
  have h9 : UInt8.ofNat x = 9 ↔ x = 9 := ⟨fun q => by have := congrArg UInt8.toNat q; rw [e] at this; exact this, fun q => by subst q; rfl⟩
  rw [h32, h9]
theorem blS_size : blS.size = 256 := Lib.setCells_size _
theorem blS_one : blS.all (·.oneCell') = true := Lib.setCells_one _
theorem mkset_any (w : World) : Calls Tryd.prog 64 #[.string ⟨#[32, 9]⟩] w fun e w' => e = .returned (.tuple #[.agg blS, .bool true]) ∧ w' = w.alloc (.cells blS 108) :=
  Any.strings_makeASCIISet laysA (fun _ => by kernel_rfl) (by kernel_rfl) ⟨#[32, 9]⟩ w (by decide) (fun j b h => by
    match j, h with
    | 0, h => cases h; decide
    | 1, h => cases h; decide
    | j + 2, h => simp at h)
/-- is a byte a blank? -/
theorem hasA_any (b x : Nat) (hx : x < 256) (w : World) (hc : ∀ y, y < 256 → w.cell? ⟨b, y, none⟩ = some (.bool (isBl y))) :
    Calls Tryd.prog 73 #[.pointer (some ⟨b, 0, none⟩), .int .u8 (x : Int)] w fun e w' => e = .returned (.bool (isBl x)) ∧ w = w' := by
  have h0 := hc x hx
  have hxI : (x : Int) < 256 := by omega
  clear hc
  go_enter Tryd.func73, Tryd.ntmps73
  go_wp2
  go_ret
  exact ⟨rfl, rfl⟩
theorem str_ext (l : List Nat) (i j : Nat) : (str l).extract i j = str ((l.take j).drop i) := by
  apply ByteArray.ext
  apply Array.ext'
  have h : ∀ l : List Nat, (str l).data.toList = (l.map fun n : Nat => (n : Int)).map fun n => UInt8.ofNat n.toNat := fun l => strOfNums_data _
  rw [ByteArray.data_extract, Array.toList_extract, h, h]
  simp only [List.extract_eq_take_drop, List.map_drop, List.map_take, List.drop_take]
theorem sub_from {l : List Nat} {k : IntKind} {j : Nat} (hj : j ≤ l.length) (w : World) : (Instr.slice 9 (.string (str l)) (some (.int k (j : Int))) none none).run Tryd.prog w = .ok (.string (str (l.drop j))) w := by
  rw [run_slice_string_from_if w 9 (str l) k (j : Int) Tryd.underlying9, if_pos ⟨by omega, by rw [str_size]; omega⟩, Int.toNat_natCast, str_size, str_ext, List.take_of_length_le (Nat.le_refl _)]
theorem sub_to {l : List Nat} {k : IntKind} {j : Nat} (hj : j ≤ l.length) (w : World) : (Instr.slice 9 (.string (str l)) none (some (.int k (j : Int))) none).run Tryd.prog w = .ok (.string (str (l.take j))) w := by
  rw [run_slice_string_to_if w 9 (str l) k (j : Int) Tryd.underlying9, if_pos ⟨by omega, by rw [str_size]; omega⟩, Int.toNat_natCast, str_ext, List.drop_zero]
/-- where the first x stands -/
def idxL (x : Nat) : List Nat → Int
  | [] => -1
  | c :: l => if c = x then 0 else if idxL x l = -1 then -1 else idxL x l + 1
theorem str_data (l : List Nat) : (str l).data.toList = l.map UInt8.ofNat := by
  have h : (str l).data.toList = (l.map fun n : Nat => (n : Int)).map fun n => UInt8.ofNat n.toNat := strOfNums_data _
  rw [h, List.map_map]; rfl
theorem idx_lib {x : Nat} (hx : x < 256) : ∀ l : List Nat, (∀ c ∈ l, c < 256) → Lib.indexByte (l.map UInt8.ofNat) (UInt8.ofNat x) = idxL x l
  | [], _ => rfl
  | c :: l, h => by
    have hc := h c (by simp)
    have ih := idx_lib hx l (fun d hd => h d (List.mem_cons_of_mem _ hd))
    have he : (UInt8.ofNat c == UInt8.ofNat x) = decide (c = x) := by
      rw [Bool.eq_iff_iff, beq_iff_eq, decide_eq_true_eq]
      refine ⟨fun q => ?_, fun q => by rw [q]⟩
      have := congrArg UInt8.toNat q
      simp [UInt8.toNat_ofNat'] at this
      omega
    rw [List.map_cons, Lib.indexByte, ih, he, idxL]
    by_cases e : c = x
    · simp [e]
    · simp [e]
theorem idx_ge (x : Nat) (l : List Nat) : -1 ≤ idxL x l ∧ idxL x l < (l.length : Int) := by
  induction l with
  | nil => rw [idxL]; exact ⟨Int.le_refl _, by simp⟩
  | cons c l ih =>
    rw [idxL, List.length_cons]
    split
    · omega
    · split <;> omega
/-- cut at the first x: what is ahead of it, and what is behind -/
theorem idx_none {x : Nat} {l : List Nat} (h : idxL x l = -1) : ∀ c ∈ l, c ≠ x := by
  induction l with
  | nil => intro c hc; simp at hc
  | cons d l ih =>
    have hg := (idx_ge x l).1
    rw [idxL] at h
    split at h
    · omega
    · split at h
      · intro c hc
        rcases List.mem_cons.1 hc with rfl | hc
        · assumption
        · exact ih (by assumption) c hc
      · omega
theorem idx_some {x : Nat} {l : List Nat} {i : Nat} (h : idxL x l = (i : Int)) : i < l.length ∧ l.getD i 0 = x ∧ ∀ c ∈ l.take i, c ≠ x := by
  induction l generalizing i with
  | nil => rw [idxL] at h; omega
  | cons d l ih =>
    have hg := (idx_ge x l).1
    rw [idxL] at h
    split at h
    · obtain rfl : i = 0 := by omega
      refine ⟨by simp, by simp; assumption, by simp⟩
    · split at h
      · omega
      · obtain ⟨j, rfl⟩ : ∃ j, i = j + 1 := ⟨i - 1, by omega⟩
        obtain ⟨h1, h2, h3⟩ := ih (i := j) (by omega)
        refine ⟨by simp; omega, by simpa using h2, ?_⟩
        intro c hc
        rw [List.take_succ_cons] at hc
        rcases List.mem_cons.1 hc with rfl | hc
        · assumption
        · exact h3 c hc
theorem getD_lt256 {l : List Nat} (h : ∀ c ∈ l, c < 256) (i : Nat) : l.getD i 0 < 256 := by
  by_cases hi : i < l.length
  · rw [List.getD_eq_getElem?_getD, List.getElem?_eq_getElem hi]; exact h _ (List.getElem_mem hi)
  · rw [List.getD_eq_getElem?_getD, List.getElem?_eq_none (by omega)]; exact Nat.zero_lt_succ _
end Go.Proofs.YtcaogiaoabdkdaaDoor
