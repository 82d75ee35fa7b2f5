/-
  The sum that is told.
-/
import Derived.Test.YtoclelpmampikaaGreatShaN
import Derived.Test.YtoclelpmampikaaGreatShaI
import Derived.Laws.Tables
import Derived.Deep.RegionLaw
import Derived.Deep.RegionWith
namespace Go.Proofs.YtoclelpmampikaaGreat
open Go.RowKit Go
set_option linter.unusedVariables false
theorem zero_dig (w : World) : (zeroValue 34).run Tryz.prog w = .ok (.agg (zeros 32)) w := by kernel_rfl
theorem info_hash (f : Nat → Value) : (Tryz.prog.info? 127).map (·.size) = some (rowV f 74).size := by
  rw [rowV_size]; kernel_rfl
theorem info_dig {cs : Array Value} (h : cs.size = 32) : (Tryz.prog.info? 34).map (·.size) = some cs.size := by
  rw [h]; kernel_rfl
theorem one_hash (g : Nat) (s : Sha.St) (tail : List Nat) (n : Nat) : (rowV (hashF g s tail n) 74).all (·.oneCell') = true := by
  rw [Array.all_eq_true]
  intro i hi
  rw [rowV_size] at hi
  have h := rowV_at (hashF g s tail n) hi
  have h2 : (rowV (hashF g s tail n) 74)[i]'(by rw [rowV_size]; exact hi) = hashF g s tail n i := by
    rw [Array.getElem?_eq_getElem (by rw [rowV_size]; exact hi)] at h
    exact Option.some.inj h
  rw [h2]
  unfold hashF
  split
  · rfl
  · split
    · rfl
    · split <;> rfl
theorem rowV_len (f : Nat → Value) (n : Nat) : (rowV f n).size = n := rowV_size f n
theorem IsSum.below {w w' : World} {hb g B : Nat} {m : List Nat} (h : IsSum w hb g m) (hb' : Below B w w') (h1 : hb < B) (h2 : g < B) : IsSum w' hb g m := by
  obtain ⟨tail, ht, hh, hta⟩ := h
  exact ⟨tail, ht, Row.below hh hb' h1, Row.below hta hb' h2⟩
theorem IsSum.lt {w : World} {hb g : Nat} {m : List Nat} (h : IsSum w hb g m) : hb < w.heap.size ∧ g < w.heap.size := by
  obtain ⟨tail, ht, hh, hta⟩ := h
  exact ⟨Row.lt hh, Row.lt hta⟩
theorem pad_len (n : Nat) : (Sha.pad n).length ≤ 72 := by
  unfold Sha.pad
  simp only [List.length_append, List.length_cons, List.length_replicate, List.length_reverse, putL_len]
  omega
/-- the digest's cells, k words of which are laid -/
def digF (D : Sha.St) (k i : Nat) : Value := if i < 4 * k then u8 ((Sha.digest D).getD i 0) else u8 0
theorem dig_at (D : Sha.St) {k r : Nat} (hk : k < 8) (hr : r < 4) : (Sha.digest D).getD (4 * k + r) 0 = (putL 4 (D.at_ k)).reverse.getD r 0 := by
  rcases (by omega : k = 0 ∨ k = 1 ∨ k = 2 ∨ k = 3 ∨ k = 4 ∨ k = 5 ∨ k = 6 ∨ k = 7) with rfl | rfl | rfl | rfl | rfl | rfl | rfl | rfl <;>
    rcases (by omega : r = 0 ∨ r = 1 ∨ r = 2 ∨ r = 3) with rfl | rfl | rfl | rfl <;> rfl
theorem dig_len (D : Sha.St) : (Sha.digest D).length = 32 := rfl
theorem dig_splice (D : Sha.St) {k : Nat} (hk : k < 8) : (splice (rowV (digF D k) 32).toList (4 * k) (bvals (putL 4 (D.at_ k)).reverse)).toArray = rowV (digF D (k + 1)) 32 := by
  have hz2 : (rowV (digF D k) 32).toList.length = 32 := by simp [rowV_size]
  have hq : (bvals (putL 4 (D.at_ k)).reverse).length = 4 := by rw [bvals_len, List.length_reverse, putL_len]
  apply rowV_ext
  · rw [List.size_toArray, length_splice _ _ _ (by omega)]; exact hz2
  · intro i hi
    have hr : (rowV (digF D k) 32).toList[i]? = some (digF D k i) := by
      have := rowV_at (digF D k) hi
      simpa using this
    have hl : ((rowV (digF D k) 32).toList.take (4 * k)).length = 4 * k := by rw [List.length_take]; omega
    rw [List.getElem?_toArray]
    unfold splice
    by_cases h1 : i < 4 * k
    · rw [List.getElem?_append_left (by omega), List.getElem?_take_of_lt h1, hr]
      congr 1
      unfold digF
      rw [if_pos h1, if_pos (by omega)]
    · rw [List.getElem?_append_right (by omega), hl]
      by_cases h2 : i < 4 * k + 4
      · rw [List.getElem?_append_left (by omega)]
        obtain ⟨r, rfl⟩ : ∃ r, i = 4 * k + r := ⟨i - 4 * k, by omega⟩
        have hr4 : r < 4 := by omega
        have hlt : r < (putL 4 (D.at_ k)).reverse.length := by rw [List.length_reverse, putL_len]; exact hr4
        rw [Nat.add_sub_cancel_left]
        have e : (bvals (putL 4 (D.at_ k)).reverse)[r]? = some (u8 ((putL 4 (D.at_ k)).reverse.getD r 0)) := by
          simp only [bvals, List.getElem?_map, List.getElem?_eq_getElem hlt, List.getD, u8, Option.map_some, Option.getD_some]
        rw [e]
        congr 1
        unfold digF
        rw [if_pos (by omega), dig_at D hk hr4]
      · rw [List.getElem?_append_right (by omega), List.getElem?_drop, hq, show 4 * k + 4 + (i - 4 * k - 4) = i by omega, hr]
        congr 1
        unfold digF
        rw [if_neg h1, if_neg (by omega)]
/-- the digest as a value -/
def digA (m : List Nat) : Array Value := rowV (fun i => u8 ((Sha.sum m).getD i 0)) 32
theorem one_dig (m : List Nat) : (digA m).all (·.oneCell') = true := by
  unfold digA
  rw [Array.all_eq_true]
  intro i hi
  rw [rowV_size] at hi
  have h := rowV_at (fun i => u8 ((Sha.sum m).getD i 0)) hi
  have h2 : (rowV (fun i => u8 ((Sha.sum m).getD i 0)) 32)[i]'(by rw [rowV_size]; exact hi) = u8 ((Sha.sum m).getD i 0) := by
    rw [Array.getElem?_eq_getElem (by rw [rowV_size]; exact hi)] at h
    exact Option.some.inj h
  rw [h2]
  rfl
theorem dig_end (m : List Nat) : rowV (digF (Sha.blocks Sha.first (m ++ Sha.pad m.length) ((m ++ Sha.pad m.length).length / 64)) 8) 32 = digA m :=
  rowV_congr fun i hi => by unfold digF; rw [if_pos (by omega)]; rfl
theorem dig_zero (D : Sha.St) : zeros 32 = rowV (digF D 0) 32 := rowV_ext (by simp [zeros]) fun i hi => by rw [zeros_at hi]; unfold digF; rw [if_neg (by omega)]; rfl
def Gives4 (w : World) (x : Nat) (e : Ending) (w' : World) : Prop := ∃ A c, e = .returned (.slice A 4 c) ∧ Below w.heap.size w w' ∧ BS w' w'.heap.size A 4 c (putL 4 x).reverse
theorem high4' (v : Nat) (hv : v < 4294967296) (w : World) : Calls Tryz.prog 72 #[.int .i64 4, .int .u64 (v : Int)] w (Gives4 w v) :=
  (high4 v hv w).mono fun e w' h => by
    obtain ⟨A, c, he, hb, hbs⟩ := h
    have hl : (putL 4 v).reverse.length = 4 := by rw [List.length_reverse, putL_len]
    rw [hl] at he hbs
    exact ⟨A, c, he, hb, hbs⟩
theorem step_dig_copy {ops : Array Oper} {o : Oper} {a : Act} {K : Act → World → Prop} {Q : Exit → Act → World → Prop} {E : Prop} (W W' : World) (hgd : o.guard = none) (d s : Operand)
    (ho : o.op = .call { callee := .builtin .copy, args := #[d, s], argTypes := #[89, 89] })
    (go k : Nat) (D : Sha.St) (hk : k < 8) (x : Nat) (hx : D.at_ k = x) (hrow : Row W go 34 (digF D k) 32) (hbl : Below W.heap.size W W') (A : Option Addr) (c : Nat) (hbs : BS W' W'.heap.size A 4 c (putL 4 x).reverse)
    (hd : a.eval d = .slice (some ⟨go, 4 * k, none⟩) (32 - 4 * k) (32 - 4 * k)) (hs : a.eval s = .slice A 4 c)
    (h : ∀ w4, Row w4 go 34 (digF D (k + 1)) 32 → Below go W w4 → K (a.put o.dst (.int .i64 4)) w4) :
    if Region.wanted o (yielded ops a.tmps) = true then Oper.wp Tryz.prog o a W' K Q else E := by
  subst hx
  have hlt := hrow.lt
  have hl : (bvals (putL 4 (D.at_ k)).reverse).length = 4 := by rw [bvals_len, List.length_reverse, putL_len]
  have hz2 : (rowV (digF D k) 32).toList.length = 32 := by simp [rowV_size]
  have hread := bs_reads hbs (Nat.le_refl 4) (by omega)
  rw [List.take_of_length_le (by rw [List.length_reverse, putL_len]; omega)] at hread
  refine step_copy_splice hgd d s 89 89 ho 5 Tryz.underlying89 size_u8 _ A (32 - 4 * k) (32 - 4 * k) 4 c hd hs go (4 * k) (rowV (digF D k) 32).toList 34
    ((hbl.block go hlt).trans hrow) (bvals (putL 4 (D.at_ k)).reverse) (by rw [hl]; show 4 = min 4 (32 - 4 * k); omega) (fun _ => ⟨rfl, hread⟩) (by rw [hl, hz2]; omega) (bvals_one _) go W (hbl.mono (by omega)) (Nat.le_refl _) fun w4 hw4 hb4 => ?_
  rw [hl]
  refine h w4 ?_ hb4
  unfold Row
  rw [← dig_splice D hk]
  exact hw4.out
def SmRel (w : World) (D : Sha.St) (v : Value) (wr : World) : Prop :=
  ∃ k : Nat, v = .int .i64 (k : Int) ∧ k ≤ 8 ∧ Below w.heap.size w wr ∧ wr.heap[w.heap.size]? = some (.cells (zeros 32) 34 (0, 0)) ∧ Row wr (w.heap.size + 1) 34 (digF D k) 32
theorem cut_dig (b o k : Nat) (hk : k < 32) (w : World) : (Instr.sliceAt 34 (.pointer (some ⟨b, o, none⟩)) (some (.int .i64 (k : Int))) none none).run Tryz.prog w = .ok (.slice (some ⟨b, o + k, none⟩) (32 - k) (32 - k)) w :=
  run_cut_arr _ _ 32 Tryz.underlying34 size_u8 b o k hk w
set_option maxHeartbeats 2000000 in
set_option maxRecDepth 100000 in
theorem sum_any (hb g : Nat) (m : List Nat) (w : World) (h : IsSum w hb g m) (hm : ∀ i, m.getD i 0 < 256) (hl : m.length ≤ 900000) :
    Calls Tryz.prog 55 #[.pointer (some ⟨hb, 0, none⟩)] w fun e w' => e = .returned (.agg (digA m)) ∧ Below w.heap.size w w' := by
  have hz := zero_dig
  have hz2 := zero_hash
  have HS := Lib.hid h
  have hlt := h.lt
  have hb0 : Below w.heap.size w ((w.alloc (.cells (zeros 32) 34)).alloc (.cells (zeros 32) 34)) := ((Below.refl _ _).alloc (Nat.le_refl _) _).alloc (by simp) _
  have HB0 := Lib.hid hb0
  have HS0 := Lib.hid (h.below hb0 hlt.1 hlt.2)
  have es : ((w.alloc (.cells (zeros 32) 34)).alloc (.cells (zeros 32) 34)).heap.size = w.heap.size + 1 + 1 := by simp
  have HES := Lib.hid es
  have ho1 := blk_alloc (heap_alloc_new w (.cells (zeros 32) 34)) (.cells (zeros 32) 34)
  have ho2 := heap_alloc_new (w.alloc (.cells (zeros 32) 34)) (.cells (zeros 32) 34)
  have e1 : (w.alloc (.cells (zeros 32) 34)).heap.size = w.heap.size + 1 := by simp
  rw [e1] at ho2
  have HO1 := Lib.hid ho1
  have HO2 := Lib.hid ho2
  clear hb0 es ho1 ho2 e1 h
  go_enter Tryz.func55, Tryz.ntmps55
  go_wp2_with fail
  refine (none_no hb g m _ HS0.out).mono ?_
  rintro e w' ⟨rfl, hw⟩
  generalize ((w.alloc (.cells (zeros 32) 34)).alloc (.cells (zeros 32) 34)) = W0 at *
  subst hw
  obtain ⟨tail, hto, hh, hta⟩ := HS0.out
  have hh' : W0.heap[hb]? = some (.cells (rowV (hashF g (Sha.blocks Sha.first m (m.length / 64)) tail m.length) 74) 127 (0, 0)) := hh
  have HH := Lib.hid hh'
  have HI := Lib.hid (info_hash (hashF g (Sha.blocks Sha.first m (m.length / 64)) tail m.length))
  have HON := Lib.hid (one_hash g (Sha.blocks Sha.first m (m.length / 64)) tail m.length)
  have HTO := Lib.hid hto
  have ha := heap_alloc_new W0 (.cells (rowV zhF 74) 127)
  have HA := Lib.hid ha
  have hbA : Below W0.heap.size W0 ((W0.alloc (.cells (rowV zhF 74) 127)).setRow W0.heap.size (rowV (hashF g (Sha.blocks Sha.first m (m.length / 64)) tail m.length) 74)) := below_setRow ((Below.refl _ _).alloc (Nat.le_refl _) _) (Nat.le_refl _) _
  have hlt0 := HS0.out.lt
  have hs1 : IsSum ((W0.alloc (.cells (rowV zhF 74) 127)).setRow W0.heap.size (rowV (hashF g (Sha.blocks Sha.first m (m.length / 64)) tail m.length) 74)) W0.heap.size g m :=
    ⟨tail, hto, setRow_heap _ _ _ _ _ _ ha, Row.below hta hbA hlt0.2⟩
  have HBA := Lib.hid hbA
  have HS1 := Lib.hid hs1
  have hn1 := setRow_heap _ W0.heap.size _ (rowV (hashF g (Sha.blocks Sha.first m (m.length / 64)) tail m.length) 74) _ _ ha
  have HN1 := Lib.hid hn1
  have k73 := Row.cell hh (i := 73) (by omega)
  rw [hash_end] at k73
  have k73' : ((W0.alloc (.cells (rowV zhF 74) 127)).setRow W0.heap.size (rowV (hashF g (Sha.blocks Sha.first m (m.length / 64)) tail m.length) 74)).cell? ⟨hb, 73, none⟩ = some (.int .i64 ((m.length : Nat) : Int)) := (hbA.cell (p := ⟨hb, 73, none⟩) hlt0.1).trans k73
  have hsz : (rowV zhF 74).size = (rowV (hashF g (Sha.blocks Sha.first m (m.length / 64)) tail m.length) 74).size := by rw [rowV_size, rowV_size]
  have HSZ := Lib.hid hsz
  clear hto hh hh' hta hz ha hbA hs1 hn1 k73 hsz
  go_wp2_with (first
    | (with_reducible refine wpList_load_row rfl 127 (.tmp 11) rfl hb rfl 127 _ _ _ HH.out Tryz.underlying127 rfl HI.out ?_)
    | (with_reducible refine wpList_store_row rfl 127 (.tmp 4) (.tmp 12) rfl _ _ rfl rfl 127 _ HA.out HI.out HSZ.out HON.out ?_))
  have hlt1 : W0.heap.size < ((W0.alloc (.cells (rowV zhF 74) 127)).setRow W0.heap.size (rowV (hashF g (Sha.blocks Sha.first m (m.length / 64)) tail m.length) 74)).heap.size := HS1.out.lt.1
  generalize (W0.alloc (.cells (rowV zhF 74) 127)).setRow W0.heap.size (rowV (hashF g (Sha.blocks Sha.first m (m.length / 64)) tail m.length) 74) = W1 at *
  refine (pad_yes m.length (by omega) _).mono ?_
  rintro e w2 ⟨A, c, rfl, hb2, hbs, hnew⟩
  have hs2 : IsSum w2 W0.heap.size g m := HS1.out.below hb2 HS1.out.lt.1 HS1.out.lt.2
  have hoff : ∀ n, Off n A W0.heap.size := fun _ _ ad he => by have := hnew ad he; omega
  have HS2 := Lib.hid hs2
  have HBS := Lib.hid hbs
  have HOF := Lib.hid (hoff (Sha.pad m.length).length)
  have HB2 := Lib.hid (HBA.out.trans (hb2.mono (by omega)))
  have hpl := pad_len m.length
  clear hs2 hbs hoff hb2 hnew k73'
  go_wp2_with fail
  refine (write_any W0.heap.size g m (Sha.pad m.length) A _ c _ HS2.out HBS.out HOF.out (by omega)).mono ?_
  rintro e w3 ⟨rfl, hg3, tail3, hto3, hh3, hta3⟩
  have hW0 : W0.heap.size = w.heap.size + 1 + 1 := HES.out
  have hbw : Below w.heap.size w w3 := by
    have h1 : Below W0.heap.size w2 w3 := ⟨hg3.os, hg3.tape, hg3.output, hg3.size, fun i hi => hg3.block i (Nat.lt_of_lt_of_le hi HB2.out.size) (fun e => by injection e with e; omega)⟩
    exact HB0.out.trans ((HB2.out.trans h1).mono (by omega))
  have h1 : Below W0.heap.size W0 w3 := HB2.out.trans ⟨hg3.os, hg3.tape, hg3.output, hg3.size, fun i hi => hg3.block i (Nat.lt_of_lt_of_le hi HB2.out.size) (fun e => by injection e with e; omega)⟩
  have hx1 := (h1.block w.heap.size (by omega)).trans HO1.out
  have hx2 := (h1.block (w.heap.size + 1) (by omega)).trans HO2.out
  have hD : (m ++ Sha.pad m.length).length = (m ++ Sha.pad m.length).length := rfl
  obtain ⟨D, hDe⟩ : ∃ D, D = Sha.blocks Sha.first (m ++ Sha.pad m.length) ((m ++ Sha.pad m.length).length / 64) := ⟨_, rfl⟩
  have hDok : D.Ok := by rw [hDe]; exact Sha.blocks_ok Sha.first_ok _ _
  rw [← hDe] at hh3
  rw [dig_zero D] at hx2
  have HSM : Hid (SmRel w D (.int .i64 0) w3) := Lib.hid ⟨0, rfl, by omega, hbw, hx1, hx2⟩
  have HDE := Lib.hid (dig_end m)
  rw [← hDe] at HDE
  have k0 : w3.cell? ⟨W0.heap.size, 1, none⟩ = some (.int .u32 ((D.a : Nat) : Int)) := (Row.cell hh3 (i := 1 + 0) (by omega)).trans (congrArg some (hash_at _ _ _ _ (by omega)))
  have k1 : w3.cell? ⟨W0.heap.size, 2, none⟩ = some (.int .u32 ((D.b : Nat) : Int)) := (Row.cell hh3 (i := 1 + 1) (by omega)).trans (congrArg some (hash_at _ _ _ _ (by omega)))
  have k2 : w3.cell? ⟨W0.heap.size, 3, none⟩ = some (.int .u32 ((D.c : Nat) : Int)) := (Row.cell hh3 (i := 1 + 2) (by omega)).trans (congrArg some (hash_at _ _ _ _ (by omega)))
  have k3 : w3.cell? ⟨W0.heap.size, 4, none⟩ = some (.int .u32 ((D.d : Nat) : Int)) := (Row.cell hh3 (i := 1 + 3) (by omega)).trans (congrArg some (hash_at _ _ _ _ (by omega)))
  have k4 : w3.cell? ⟨W0.heap.size, 5, none⟩ = some (.int .u32 ((D.e : Nat) : Int)) := (Row.cell hh3 (i := 1 + 4) (by omega)).trans (congrArg some (hash_at _ _ _ _ (by omega)))
  have k5 : w3.cell? ⟨W0.heap.size, 6, none⟩ = some (.int .u32 ((D.f : Nat) : Int)) := (Row.cell hh3 (i := 1 + 5) (by omega)).trans (congrArg some (hash_at _ _ _ _ (by omega)))
  have k6 : w3.cell? ⟨W0.heap.size, 7, none⟩ = some (.int .u32 ((D.g : Nat) : Int)) := (Row.cell hh3 (i := 1 + 6) (by omega)).trans (congrArg some (hash_at _ _ _ _ (by omega)))
  have k7 : w3.cell? ⟨W0.heap.size, 8, none⟩ = some (.int .u32 ((D.h : Nat) : Int)) := (Row.cell hh3 (i := 1 + 7) (by omega)).trans (congrArg some (hash_at _ _ _ _ (by omega)))
  clear hW0 hg3 hto3 hh3 hta3 hbw h1 hx1 hx2 hD hDe HS2 HBS HOF HB2 HS1 HBA HN1 HSZ HON HI HA HH HTO HO1 HO2 HS0 HS
  go_wp2
  clear k0 k1 k2 k3 k4 k5 k6 k7
  obtain ⟨da, db, dc, dd, de, df, dg, dh⟩ := D
  go_loopw [21] (fun v wr => SmRel w ⟨da, db, dc, dd, de, df, dg, dh⟩ v wr) (fun v _ => (8 - intOf v).toNat)
  case atStart => exact HSM.out
  case round =>
    obtain ⟨k, rfl, hk, hbw, hx1, hx2⟩ := hrel
    have HB := Lib.hid hbw
    have HX1 := Lib.hid hx1
    have HX2 := Lib.hid hx2
    clear hbw hx1 hx2 HSM
    by_cases hlt : k < 8
    · have hi : ∀ W : World, (Instr.index 82 (.agg (stA ⟨da, db, dc, dd, de, df, dg, dh⟩)) (.int .i64 (k : Int))).run Tryz.prog W = .ok (.int .u32 (((⟨da, db, dc, dd, de, df, dg, dh⟩ : Sha.St).at_ k : Nat) : Int)) W := fun W =>
        run_index_arr 82 79 8 _ k _ W Tryz.underlying82 plain_w cells_w info_w hlt (stA_at _ hlt)
      unfold stA at hi
      dsimp only at hi
      have hx := at_ok hDok hlt
      have hcd : ∀ W : World, (Instr.sliceAt 34 (.pointer (some ⟨w.heap.size + 1, 0, none⟩)) (some (.int .i64 (4 * (k : Int)))) none none).run Tryz.prog W = .ok (.slice (some ⟨w.heap.size + 1, 4 * k, none⟩) (32 - 4 * k) (32 - 4 * k)) W := fun W => by
        have h := cut_dig (w.heap.size + 1) 0 (4 * k) (by omega) W
        rw [Int.natCast_mul, Nat.zero_add] at h
        exact h
      obtain ⟨D, hDd⟩ : ∃ D : Sha.St, D = ⟨da, db, dc, dd, de, df, dg, dh⟩ := ⟨_, rfl⟩
      rw [← hDd] at HX2 hi hx HDE
      have HDD := Lib.hid hDd
      clear hDd
      obtain ⟨x, hxe⟩ : ∃ x, D.at_ k = x := ⟨_, rfl⟩
      rw [hxe] at hi hx
      have HXE := Lib.hid hxe
      clear hxe
      have HX3 : Hid (Row wr.drew (w.heap.size + 1) 34 (digF D k) 32) := Lib.hid HX2.out.drew
      have HH4 := Lib.hid (fun W => high4' x hx W)
      go_wp2
      have q1 : IntKind.i64.wrap (4 * (k : Int)) = 4 * (k : Int) := IntWalk.i64_in _ (by omega)
      have q2 : IntKind.u64.wrap (x : Int) = (x : Int) := IntWalk.u64_in _ (by omega)
      go_region_law (first
        | (with_reducible refine step_dig_copy wr.drew _ rfl (.tmp 27) (.tmp 30) rfl (w.heap.size + 1) k D hlt x HXE.out HX3.out hb5 A5 c5 hbs5 rfl rfl ?_; intro w4 hr4 hb4)
        | (go_simp; go_at_call 72; refine (HH4.out _).mono ?_; rintro e w5 ⟨A5, c5, rfl, hb5, hbs5⟩))
      have hr : SmRel w D (.int .i64 ((k : Int) + 1)) w4 := by
        refine ⟨k + 1, rfl, by omega, HB.out.trans ?_, ?_, hr4⟩
        · have h1 : Below (w.heap.size + 1) wr w4 := ⟨hb4.os, hb4.tape, hb4.output, hb4.size, hb4.block⟩
          exact h1.mono (by omega)
        · have h1 : Below (w.heap.size + 1) wr w4 := ⟨hb4.os, hb4.tape, hb4.output, hb4.size, hb4.block⟩
          exact (h1.block w.heap.size (by omega)).trans HX1.out
      rw [HDD.out] at hr
      have HR := Lib.hid hr
      clear hr hr4 hb4 hb5 hbs5 hi hcd q1 q2
      go_wp2
      go_roundw
      case rel => exact HR.out
      case measure => simp [intOf]; omega
    · obtain rfl : k = 8 := by omega
      have hx2' : wr.heap[w.heap.size + 1]? = some (.cells (rowV (digF ⟨da, db, dc, dd, de, df, dg, dh⟩ 8) 32) 34 (0, 0)) := HX2.out
      rw [HDE.out] at hx2'
      have hzs : (digA m).size = 32 := by unfold digA; rw [rowV_size]
      have HX3 := Lib.hid hx2'
      have HI2 := Lib.hid (info_dig hzs)
      have HO3 := Lib.hid (one_dig m)
      have HZ3 : Hid ((zeros 32).size = (digA m).size) := Lib.hid (by rw [hzs]; simp [zeros])
      have hfx := setRow_heap wr _ _ (digA m) _ _ HX1.out
      have hfb := below_setRow (g := w.heap.size) HB.out (Nat.le_refl _) (digA m)
      have HFX := Lib.hid hfx
      have HFB := Lib.hid hfb
      clear hx2' hzs hfx hfb HB HX2 HDE
      obtain ⟨dm, hdm⟩ : ∃ dm, dm = digA m := ⟨_, rfl⟩
      rw [← hdm] at HX3 HI2 HO3 HZ3 HFX HFB
      have HDM := Lib.hid hdm
      clear hdm
      go_wp2_with (first
        | (with_reducible refine wpList_load_row rfl 34 (.tmp 3) rfl _ rfl 34 _ _ _ HX3.out Tryz.underlying34 rfl HI2.out ?_)
        | (with_reducible refine wpList_store_row rfl 34 (.tmp 2) (.tmp 33) rfl _ _ rfl rfl 34 _ HX1.out HI2.out HZ3.out HO3.out ?_))
      exact bodyPost_ret (v := .agg dm) (results_cell_row rfl _ _ _ 34 _ (0, 0) _ rfl HFX.out Tryz.underlying34 rfl HI2.out) rfl ⟨by rw [HDM.out], HFB.out⟩
end Go.Proofs.YtoclelpmampikaaGreat
