/-
  Joined: Bits, Sl.
-/
import Derived.WalkKit
import Derived.OpenShut
import Derived.Below
import Derived.Laws.Rows
import Derived.Laws.BytesArg
import Derived.Laws.OwnMore
import Derived.Laws.MakeOwn
import Derived.Deep.Draws
import Derived.ProofKit
import Derived.ShutString
namespace Go.Proofs.YtcaogiaoabdkdaaDoor
set_option maxRecDepth 100000
section
set_option linter.unusedVariables false
open Go.RowKit
theorem bits_cast (k : IntKind) (j : Nat) (hj : j ≤ k.bits) (hk : ∀ n : Int, 0 ≤ n → n < 2 ^ j → k.wrap n = n) (a b : Nat) (ha : a < 2 ^ j) (hb : b < 2 ^ j) :
    bits .and k a b = ((a &&& b : Nat) : Int) ∧ bits .or k a b = ((a ||| b : Nat) : Int) ∧ bits .xor k a b = ((a ^^^ b : Nat) : Int) := by
  refine ⟨(bits_nat k j hj hk a b ha hb).1, (bits_nat k j hj hk a b ha hb).2, ?_⟩
  have hp : 2 ^ j ≤ 2 ^ k.bits := Nat.pow_le_pow_right (by decide) hj
  have ha' : a % 2 ^ k.bits = a := Nat.mod_eq_of_lt (Nat.lt_of_lt_of_le ha hp)
  have hb' : b % 2 ^ k.bits = b := Nat.mod_eq_of_lt (Nat.lt_of_lt_of_le hb hp)
  simp only [bits, BitVec.ofInt_natCast, BitVec.toNat_xor, BitVec.toNat_ofNat, ha', hb']
  refine hk _ (Int.natCast_nonneg _) ?_
  have h : a ^^^ b < 2 ^ j := Nat.xor_lt_two_pow ha hb
  exact_mod_cast h
theorem and8 {a b : Nat} (ha : a < 256) (hb : b < 256) : bits .and .u8 a b = ((a &&& b : Nat) : Int) := (bits_cast .u8 8 (by decide) (fun n h0 h1 => wraps_u8 n h0 h1) a b ha hb).1
theorem or8 {a b : Nat} (ha : a < 256) (hb : b < 256) : bits .or .u8 a b = ((a ||| b : Nat) : Int) := (bits_cast .u8 8 (by decide) (fun n h0 h1 => wraps_u8 n h0 h1) a b ha hb).2.1
theorem xor8 {a b : Nat} (ha : a < 256) (hb : b < 256) : bits .xor .u8 a b = ((a ^^^ b : Nat) : Int) := (bits_cast .u8 8 (by decide) (fun n h0 h1 => wraps_u8 n h0 h1) a b ha hb).2.2
theorem wraps_u64 (n : Int) (h0 : 0 ≤ n) (h1 : n < 2 ^ 64) : IntKind.u64.wrap n = n := IntWalk.u64_in n ⟨h0, by omega⟩
theorem wraps_i64 (n : Int) (h0 : 0 ≤ n) (h1 : n < 2 ^ 63) : IntKind.i64.wrap n = n := IntWalk.i64_in n ⟨by omega, by omega⟩
theorem or64 {a b : Nat} (ha : a < 2 ^ 64) (hb : b < 2 ^ 64) : bits .or .u64 a b = ((a ||| b : Nat) : Int) := (bits_cast .u64 64 (by decide) wraps_u64 a b ha hb).2.1
theorem andi {a b : Nat} (ha : a < 2 ^ 63) (hb : b < 2 ^ 63) : bits .and .i64 a b = ((a &&& b : Nat) : Int) := (bits_cast .i64 63 (by decide) wraps_i64 a b ha hb).1
theorem xori {a b : Nat} (ha : a < 2 ^ 63) (hb : b < 2 ^ 63) : bits .xor .i64 a b = ((a ^^^ b : Nat) : Int) := (bits_cast .i64 63 (by decide) wraps_i64 a b ha hb).2.2
theorem ret_int {k : IntKind} {a b : Int} (h : a = b) : Ending.returned (.int k a) = .returned (.int k b) := by rw [h]
theorem ret_bool {a b : Bool} (h : a = b) : Ending.returned (.bool a) = .returned (.bool b) := by rw [h]
theorem nat_u8 {z : Int} (h : (Lit.int .u8 z).wf = true) : ∃ n : Nat, n < 256 ∧ z = (n : Int) := by
  have := bounds_u8 h
  exact ⟨z.toNat, by omega, by omega⟩
theorem nat_u64 {z : Int} (h : (Lit.int .u64 z).wf = true) : ∃ n : Nat, n < 2 ^ 64 ∧ z = (n : Int) := by
  have := bounds_u64 h
  exact ⟨z.toNat, by omega, by omega⟩
theorem and1 (q : Nat) : q &&& 1 = q % 2 := Nat.and_two_pow_sub_one_eq_mod q 1

/-! a block that is known whole -/
theorem blk_lt {w : World} {g : Nat} {t : TypeId} {cs : Array Value} (h : w.heap[g]? = some (.cells cs t (0, 0))) : g < w.heap.size := by
  rcases Nat.lt_or_ge g w.heap.size with hlt | hge
  · exact hlt
  · rw [Array.getElem?_eq_none hge] at h; cases h
theorem blk_cell {w : World} {g : Nat} {t : TypeId} {cs : Array Value} (h : w.heap[g]? = some (.cells cs t (0, 0))) (i : Nat) : w.cell? ⟨g, i, none⟩ = cs[i]? := cell_of_row w g i cs t (0, 0) h
theorem blk_free {w : World} {g : Nat} {t : TypeId} {cs : Array Value} (h : w.heap[g]? = some (.cells cs t (0, 0))) (i : Nat) : w.frozen? ⟨g, i, none⟩ = false := by simp [World.frozen?, h]
theorem blk_set {w : World} {g : Nat} {t : TypeId} {cs : Array Value} (h : w.heap[g]? = some (.cells cs t (0, 0))) (i : Nat) (u : Value) :
    (w.setCell ⟨g, i, none⟩ u).heap[g]? = some (.cells (cs.setIfInBounds i u) t (0, 0)) := by
  simp [World.setCell, Array.getElem?_modify, h]
theorem size_set (w : World) (p : Addr) (u : Value) : (w.setCell p u).heap.size = w.heap.size := by simp [World.setCell]
end
section
open Go.RowKit
set_option linter.unusedVariables false

/-- the slice that starts at A, with n elements and room for c, reads as l and lies below block B -/
def BS (w : World) (B : Nat) (A : Option Addr) (n c : Nat) (l : List Nat) : Prop :=
  l.length = n ∧ n ≤ c ∧ c ≤ 9223372036854775807 ∧ (∀ i, l.getD i 0 < 256) ∧
    (0 < n → ∃ b o, A = some ⟨b, o, none⟩ ∧ b < B ∧ ∀ i, i < n → w.cell? ⟨b, o + i, none⟩ = some (.int .u8 ((l.getD i 0 : Nat) : Int)))

section
variable {w w' : World} {B B' n c : Nat} {A : Option Addr} {l : List Nat}
theorem BS.len (h : BS w B A n c l) : l.length = n := h.1
theorem BS.cap (h : BS w B A n c l) : n ≤ c ∧ c ≤ 9223372036854775807 := ⟨h.2.1, h.2.2.1⟩
theorem BS.byte (h : BS w B A n c l) (i : Nat) : l.getD i 0 < 256 := h.2.2.2.1 i
theorem BS.at_ (h : BS w B A n c l) (hn : 0 < n) : ∃ b o, A = some ⟨b, o, none⟩ ∧ b < B ∧ ∀ i, i < n → w.cell? ⟨b, o + i, none⟩ = some (.int .u8 ((l.getD i 0 : Nat) : Int)) := h.2.2.2.2 hn
theorem BS.nil (w : World) (B : Nat) : BS w B none 0 0 [] := ⟨rfl, by omega, by omega, by simp, fun h => absurd h (by omega)⟩
theorem BS.keep (h : BS w B A n c l) (hk : ∀ p : Addr, p.block < B → w'.cell? p = w.cell? p) : BS w' B A n c l :=
  ⟨h.1, h.2.1, h.2.2.1, h.2.2.2.1, fun hn => by
    obtain ⟨b, o, e, hb, hc⟩ := h.2.2.2.2 hn
    exact ⟨b, o, e, hb, fun i hi => (hk ⟨b, o + i, none⟩ hb).trans (hc i hi)⟩⟩
theorem BS.more (h : BS w B A n c l) (hB : B ≤ B') : BS w B' A n c l :=
  ⟨h.1, h.2.1, h.2.2.1, h.2.2.2.1, fun hn => by
    obtain ⟨b, o, e, hb, hc⟩ := h.2.2.2.2 hn
    exact ⟨b, o, e, by omega, hc⟩⟩
theorem BS.below (h : BS w B A n c l) (hb : Below B w w') : BS w' B A n c l := h.keep fun _ hp => hb.cell hp
theorem BS.dr (h : BS w B A n c l) : BS w.drew B A n c l := h
theorem BS.take (h : BS w B A n c l) {k : Nat} (hk : k ≤ n) : BS w B A k c (l.take k) := by
  obtain ⟨h1, h2, h3, h4, h5⟩ := h
  refine ⟨by rw [List.length_take]; omega, by omega, h3, fun i => ?_, fun hn => ?_⟩
  · by_cases hi : i < k
    · have : (l.take k).getD i 0 = l.getD i 0 := by simp [List.getD, List.getElem?_take_of_lt hi]
      rw [this]; exact h4 i
    · have : (l.take k)[i]? = none := by rw [List.getElem?_eq_none]; rw [List.length_take]; omega
      simp [List.getD, this]
  · obtain ⟨b, o, e, hb, hc⟩ := h5 (by omega)
    refine ⟨b, o, e, hb, fun i hi => ?_⟩
    have : (l.take k).getD i 0 = l.getD i 0 := by simp [List.getD, List.getElem?_take_of_lt hi]
    rw [this]; exact hc i (by omega)
theorem BS.of_blk {g : Nat} {t : TypeId} {cs : Array Value} (hb : w.heap[g]? = some (.cells cs t (0, 0))) (hB : g < B) (h1 : l.length = n) (hc : n ≤ c) (hm : c ≤ 9223372036854775807) (h2 : ∀ i, l.getD i 0 < 256)
    (h3 : ∀ i, i < n → cs[i]? = some (.int .u8 ((l.getD i 0 : Nat) : Int))) : BS w B (some ⟨g, 0, none⟩) n c l :=
  ⟨h1, hc, hm, h2, fun _ => ⟨g, 0, rfl, hB, fun i hi => by rw [Nat.zero_add]; exact (blk_cell hb i).trans (h3 i hi)⟩⟩
/-- what the call itself appended -/
theorem BS.of_own {base : Nat} {e : TypeId} {v : Value} (h : w.ownsRow base e 1 v n (l.map fun x => Value.int .u8 ((x : Nat) : Int))) (h2 : ∀ i, l.getD i 0 < 256) :
    ∃ A c, v = .slice A n c ∧ BS w w.heap.size A n c l := by
  obtain ⟨hl, h⟩ := h
  have h1 : l.length = n := by simpa using hl
  rcases h with ⟨rfl, rfl⟩ | ⟨g, cap, cur, rfl, _, hh, hnc, hm, hs, ht⟩
  · refine ⟨none, 0, rfl, ?_⟩
    rw [List.length_eq_zero_iff.mp h1]
    exact BS.nil _ _
  · refine ⟨_, cap, rfl, BS.of_blk hh (blk_lt hh) h1 hnc (by unfold maxLen at hm; omega) h2 fun i hi => ?_⟩
    have h3 : (cur.toList.take (n * 1))[i]? = some (.int .u8 ((l.getD i 0 : Nat) : Int)) := by
      rw [ht, List.getElem?_map, List.getElem?_eq_getElem (by omega)]
      simp [List.getD, List.getElem?_eq_getElem (show i < l.length by omega)]
    rw [List.getElem?_take_of_lt (by omega)] at h3
    simpa using h3
end

/-- the bytes as a string -/
def str (l : List Nat) : ByteArray := strOfNums (l.map fun n : Nat => (n : Int))
theorem str_inj {l l' : List Nat} (h : ∀ i, l.getD i 0 < 256) (h' : ∀ i, l'.getD i 0 < 256) (e : str l = str l') : l = l' := by
  have e1 : (str l).data.toList = (str l').data.toList := by rw [e]
  unfold str at e1
  rw [strOfNums_data, strOfNums_data, List.map_map, List.map_map] at e1
  have hl : l.length = l'.length := by have := congrArg List.length e1; simpa using this
  apply List.ext_getElem hl
  intro i h1 h2
  have e2 : (l.map ((fun n : Int => UInt8.ofNat n.toNat) ∘ fun n : Nat => (n : Int)))[i]? = (l'.map ((fun n : Int => UInt8.ofNat n.toNat) ∘ fun n : Nat => (n : Int)))[i]? := by rw [e1]
  rw [List.getElem?_map, List.getElem?_map, List.getElem?_eq_getElem h1, List.getElem?_eq_getElem h2] at e2
  simp only [Option.map_some, Function.comp, Option.some.injEq, Int.toNat_natCast] at e2
  have b1 := h i
  have b2 := h' i
  simp only [List.getD, List.getElem?_eq_getElem h1, List.getElem?_eq_getElem h2, Option.getD_some] at b1 b2
  have e3 := congrArg UInt8.toNat e2
  rw [UInt8.toNat_ofNat', UInt8.toNat_ofNat', Nat.mod_eq_of_lt b1, Nat.mod_eq_of_lt b2] at e3
  exact e3
theorem str_nil : str [] = ByteArray.empty := rfl
section
variable {P : Program} {w : World} {B n c : Nat} {A : Option Addr} {l : List Nat}
theorem BS.conv (h : BS w B A n c l) (src e dst : TypeId) (hs : P.underlying src = some (.slice e)) (he : P.underlying e = some (.int .u8)) (hd : P.underlying dst = some .string) :
    (convert src dst (.slice A n c)).run P w = .ok (.string (str l)) w := by
  obtain ⟨h1, h2, h3, h4, h5⟩ := h
  rcases Nat.eq_zero_or_pos n with h0 | h0
  · subst h0
    rw [List.length_eq_zero_iff.mp h1, run_convert_bytes_string w src dst e _ 0 c hs he hd]
    cases A <;> simp [Conv.bytesToString, loadCells, str_nil]
    all_goals rfl
  · obtain ⟨b, o, rfl, hb, hc⟩ := h5 h0
    exact run_convert_bytes_arg w src e hs he b o n c (l.map fun n : Nat => (n : Int)) (by simpa using h1) (fun i hi => by
      rw [hc i hi]
      simp [List.getD, List.getElem?_map, List.getElem?_eq_getElem (show i < l.length by omega)]) dst hd
end
/-- what the frame of a proof tells of a slice that came in -/
theorem BS.of_row {w : World} {a : Option Addr} {len cap : Nat} {zs : List Int} (h : (a = none ∧ len = 0 ∧ cap = 0 ∧ zs = []) ∨
    ∃ x, a = some x ∧ len ≤ cap ∧ cap ≤ maxLen ∧ zs.length = cap ∧ (∀ i, i < zs.length → w.cell? (x.add i) = some (.int .u8 (zs.getD i 0))) ∧ ∀ n ∈ zs, (Lit.int .u8 n).wf = true) :
    ∃ l, BS w w.heap.size a len cap l := by
  rcases h with ⟨rfl, rfl, rfl, rfl⟩ | ⟨x, rfl, hl, hm, hz, hc, hwf⟩
  · exact ⟨[], BS.nil _ _⟩
  · have hb : ∀ i, 0 ≤ zs.getD i 0 ∧ zs.getD i 0 ≤ 255 := fun i => by
      have := range_u8 hwf i
      simpa [List.getD] using this
    refine ⟨(zs.take len).map Int.toNat, by rw [List.length_map, List.length_take]; omega, hl, by unfold maxLen at hm; omega, fun i => ?_, fun hn => ?_⟩
    · by_cases hi : i < len
      · have h1 : ((zs.take len).map Int.toNat).getD i 0 = (zs.getD i 0).toNat := by
          simp [List.getD, List.getElem?_take_of_lt hi, List.getElem?_eq_getElem (show i < zs.length by omega)]
        have := hb i
        omega
      · have : ((zs.take len).map Int.toNat)[i]? = none := by rw [List.getElem?_eq_none]; rw [List.length_map, List.length_take]; omega
        rw [List.getD_eq_getElem?_getD, this]
        simp
    · obtain ⟨b, o, rfl, hcell⟩ := ints_at hc (by omega)
      have hlt : b < w.heap.size := block_lt_of_cell (hcell 0 (by omega))
      refine ⟨b, o, rfl, hlt, fun i hi => ?_⟩
      rw [hcell i (by omega)]
      have h1 : ((zs.take len).map Int.toNat).getD i 0 = (zs.getD i 0).toNat := by
        simp [List.getD, List.getElem?_take_of_lt hi, List.getElem?_eq_getElem (show i < zs.length by omega)]
      have := hb i
      rw [h1]
      congr 2
      omega

/-! a row that the call makes by 'make' -/
def zeros (n : Nat) : Array Value := Array.replicate n (.int .u8 0)
theorem zeros_at {n i : Nat} (h : i < n) : (zeros n)[i]? = some (.int .u8 0) := by simp [zeros, h]
theorem run_make_bytes {P : Program} (t e : TypeId) (ht : P.underlying t = some (.slice e)) (hi : (P.info? e).map (fun i => (i.zero, i.size, i.bytes)) = some (some (.int .u8 0), 1, 1))
    (n : Nat) (hn : n ≤ 281474976710656) (w : World) :
    (Instr.makeSlice t (.int .i64 (n : Int)) (.int .i64 (n : Int))).run P w = .ok (.slice (some ⟨w.heap.size, 0, none⟩) n n) (w.alloc (.cells (zeros n) e)) := by
  obtain ⟨i, h0, h1, h2, h3⟩ := info_parts hi
  have hr := run_make (P := P) w t e i _ ht h0 h1 .i64 .i64 n n (by omega) (Int.le_refl _) (by rw [h3]; omega) (by omega)
  rw [hr]
  have e1 : madeCells (Value.int IntKind.u8 0).cells ((n : Int).toNat * i.size) = zeros n := by
    rw [h2]
    apply Array.toList_inj.mp
    rw [Int.toNat_natCast, Nat.mul_one]
    show (madeCells #[Value.int IntKind.u8 0] n).toList = _
    rw [toList_madeCells_one]
    simp [zeros]
  rw [e1]
  simp

/-- a row of which so many cells are laid: cell i holds f i -/
def rowOf (f : Nat → Nat) (n : Nat) : Nat → Array Value
  | 0 => zeros n
  | k + 1 => (rowOf f n k).setIfInBounds k (.int .u8 ((f k : Nat) : Int))
theorem rowOf_size (f : Nat → Nat) (n k : Nat) : (rowOf f n k).size = n := by
  induction k with
  | zero => simp [rowOf, zeros]
  | succ k ih => simp [rowOf, ih]
theorem rowOf_at (f : Nat → Nat) (n : Nat) : ∀ k, k ≤ n → ∀ i, i < k → (rowOf f n k)[i]? = some (.int .u8 ((f i : Nat) : Int)) := by
  intro k
  induction k with
  | zero => intro _ i hi; omega
  | succ k ih =>
    intro hk i hi
    unfold rowOf
    by_cases h : i = k
    · subst h
      rw [Array.getElem?_setIfInBounds_self_of_lt (by rw [rowOf_size]; omega)]
    · rw [Array.getElem?_setIfInBounds_ne (by omega)]
      exact ih (by omega) i (by omega)
theorem BS.of_rowOf {w : World} {g B : Nat} {t : TypeId} {f : Nat → Nat} {n : Nat} (hb : w.heap[g]? = some (.cells (rowOf f n n) t (0, 0))) (hB : g < B) (hm : n ≤ 9223372036854775807) (h2 : ∀ i, i < n → f i < 256) :
    BS w B (some ⟨g, 0, none⟩) n n ((List.range n).map f) := by
  have hd : ∀ i, ((List.range n).map f).getD i 0 = if i < n then f i else 0 := by
    intro i
    by_cases h : i < n
    · rw [if_pos h]; simp [List.getD, List.getElem?_map, List.getElem?_range h]
    · rw [if_neg h]
      have : ((List.range n).map f)[i]? = none := by rw [List.getElem?_eq_none]; simp; omega
      rw [List.getD_eq_getElem?_getD, this]; rfl
  refine BS.of_blk hb hB (by simp) (Nat.le_refl _) hm (fun i => ?_) (fun i hi => ?_)
  · rw [hd]; split
    · exact h2 i ‹_›
    · omega
  · rw [hd, if_pos hi]; exact rowOf_at f n n (Nat.le_refl _) i hi

/-! only one block has turned, and what is new -/
theorem only_alloc {a w : World} {row : Option Nat} (h : a.grownBy w row) (o : Obj) : a.grownBy (w.alloc o) row :=
  ⟨h.os, h.tape, h.output, Nat.le_trans h.size (by simp), fun i hi hne => (Below.heap_alloc w o i (Nat.lt_of_lt_of_le hi h.size)).trans (h.block i hi hne)⟩
theorem only_drew {a w : World} {row : Option Nat} (h : a.grownBy w row) : a.grownBy w.drew row := ⟨h.os, h.tape, h.output, h.size, h.block⟩
theorem only_set {a w : World} {g : Nat} (h : a.grownBy w (some g)) {p : Addr} (hp : p.block = g ∨ a.heap.size ≤ p.block) (u : Value) : a.grownBy (w.setCell p u) (some g) :=
  ⟨h.os, h.tape, h.output, by rw [size_set]; exact h.size, fun i hi hne => (Below.heap_setCell w p u i (by
    rintro rfl
    rcases hp with hp | hp
    · exact hne (by rw [hp])
    · omega)).trans (h.block i hi hne)⟩
theorem below_only {B : Nat} {a b w : World} (h : Below B a b) {g : Nat} (hg : B ≤ g) (hB : B ≤ b.heap.size) (k : b.grownBy w (some g)) : Below B a w :=
  ⟨k.os.trans h.os, k.tape.trans h.tape, k.output.trans h.output, Nat.le_trans h.size k.size, fun i hi => (k.block i (by omega) (fun e => by injection e with e; omega)).trans (h.block i hi)⟩
theorem blk_far {w : World} {g : Nat} {t : TypeId} {cs : Array Value} (h : w.heap[g]? = some (.cells cs t (0, 0))) {p : Addr} (hp : g ≠ p.block) (u : Value) :
    (w.setCell p u).heap[g]? = some (.cells cs t (0, 0)) := (Below.heap_setCell w p u g hp).trans h
theorem blk_alloc {w : World} {g : Nat} {t : TypeId} {cs : Array Value} (h : w.heap[g]? = some (.cells cs t (0, 0))) (o : Obj) :
    (w.alloc o).heap[g]? = some (.cells cs t (0, 0)) := (Below.heap_alloc w o g (blk_lt h)).trans h
end
end Go.Proofs.YtcaogiaoabdkdaaDoor
