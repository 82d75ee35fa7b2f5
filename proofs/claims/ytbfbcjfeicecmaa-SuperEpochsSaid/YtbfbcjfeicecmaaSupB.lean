/-
  Package super: what Bytes and Parse answer; the document's Bytes.
-/
import Derived.Test.YtbfbcjfeicecmaaSupA
import Derived.Deep.RegionWith
import Derived.Lib.SlBytesConst
import Derived.RegionTactic
namespace Go.Proofs.Ytbfbcjfeicecmaa
open Go.RowKit Go
set_option linter.unusedVariables false
def sgL : List Nat := [71, 65, 82, 68, 82, 79, 66, 69]
/-- the super of a geometry -/
def supL (p t : Nat) : List Nat := padL (sgL ++ blkL 2 [1, p, t]) 256
theorem supL_len (p t : Nat) : (supL p t).length = 256 := padL_len _ _
theorem sgL_byte (i : Nat) : sgL.getD i 0 < 256 := by
  unfold sgL
  rcases Nat.lt_or_ge i 8 with h | h
  · have : i = 0 ∨ i = 1 ∨ i = 2 ∨ i = 3 ∨ i = 4 ∨ i = 5 ∨ i = 6 ∨ i = 7 := by omega
    rcases this with rfl | rfl | rfl | rfl | rfl | rfl | rfl | rfl <;> decide
  · rw [List.getD_eq_getElem?_getD, List.getElem?_eq_none (by simpa using h)]; decide
theorem sup_byte (p t i : Nat) : (sgL ++ blkL 2 [1, p, t]).getD i 0 < 256 := app_byte sgL_byte (blkL_byte _ _) i
theorem supL_byte (p t i : Nat) : (supL p t).getD i 0 < 256 := padL_byte (sup_byte p t) _ _
def BytesG (w : World) (l : List Nat) (e : Ending) (w' : World) : Prop :=
  ∃ A c, e = .returned (.tuple #[.slice A l.length c, .int .i64 0]) ∧ Below w.heap.size w w' ∧ BS w' w'.heap.size A l.length c l
abbrev sgA : Array Value := #[.int .u8 71, .int .u8 65, .int .u8 82, .int .u8 68, .int .u8 82, .int .u8 79, .int .u8 66, .int .u8 69]
theorem conv_sg (W : World) : (convert 24 24 (.slice (some ⟨W.heap.size, 0, none⟩) 8 8)).run Try.prog (W.alloc (.cells #[.int .u8 71, .int .u8 65, .int .u8 82, .int .u8 68, .int .u8 82, .int .u8 79, .int .u8 66, .int .u8 69] 5)) =
    .ok (.slice (some ⟨W.heap.size, 0, none⟩) 8 8) (W.alloc (.cells #[.int .u8 71, .int .u8 65, .int .u8 82, .int .u8 68, .int .u8 82, .int .u8 79, .int .u8 66, .int .u8 69] 5 (8, 9))) :=
  Lib.run_convert_bytes_const W _ _ #[.int .u8 71, .int .u8 65, .int .u8 82, .int .u8 68, .int .u8 82, .int .u8 79, .int .u8 66, .int .u8 69] 8 8 Try.underlying24 Try.underlying5
theorem sg_ownF (B : Nat) (W W' : World) (hb : Below (W.heap.size + 1) (W.alloc (.cells sgA 5 (8, 9))) W') : OwnF W' B (.slice (some ⟨W.heap.size, 0, none⟩) 8 8) sgL := by
  have h0 : W'.heap[W.heap.size]? = some (.cells sgA 5 (8, 9)) := (hb.block W.heap.size (by omega)).trans (heap_alloc_new W _)
  refine .inr ⟨W.heap.size, ?_, rfl, by decide, fun j hj => ?_⟩
  · have := hb.size; simp at this; omega
  · have h1 : W'.cell? ⟨W.heap.size, j, none⟩ = sgA[j]? := by simp [World.cell?, h0]
    rw [h1]
    have : j = 0 ∨ j = 1 ∨ j = 2 ∨ j = 3 ∨ j = 4 ∨ j = 5 ∨ j = 6 ∨ j = 7 := by simp [sgL] at hj; omega
    rcases this with rfl | rfl | rfl | rfl | rfl | rfl | rfl | rfl <;> rfl
theorem three_ur (W : World) (a b c : Nat) : UR (W.alloc (.cells #[.int .u64 (a : Int), .int .u64 (b : Int), .int .u64 (c : Int)] 41)) W.heap.size 0 [a, b, c] :=
  ⟨_, heap_alloc_new W _, fun i hi => by
    have : i = 0 ∨ i = 1 ∨ i = 2 := by simp at hi; omega
    rcases this with rfl | rfl | rfl <;> rfl⟩
theorem three_64 {a b c : Nat} (ha : a < 2 ^ 64) (hb : b < 2 ^ 64) (hc : c < 2 ^ 64) (i : Nat) : [a, b, c].getD i 0 < 2 ^ 64 := by
  match i with
  | 0 => exact ha
  | 1 => exact hb
  | 2 => exact hc
  | i + 3 => simp
theorem block_sup (B p t : Nat) (hp : p < 2 ^ 64) (ht : t < 2 ^ 64) (W : World) (hB : B ≤ W.heap.size) :
    Calls Try.prog 37 #[.slice (some ⟨W.heap.size, 0, none⟩) 8 8, .int .i64 2, .slice (some ⟨W.heap.size + 1, 0, none⟩) 3 3]
      ((W.alloc (.cells #[.int .u8 71, .int .u8 65, .int .u8 82, .int .u8 68, .int .u8 82, .int .u8 79, .int .u8 66, .int .u8 69] 5 (8, 9))).alloc (.cells #[.int .u64 1, .int .u64 (p : Int), .int .u64 (t : Int)] 41))
      (GivesB B ((W.alloc (.cells #[.int .u8 71, .int .u8 65, .int .u8 82, .int .u8 68, .int .u8 82, .int .u8 79, .int .u8 66, .int .u8 69] 5 (8, 9))).alloc (.cells #[.int .u64 1, .int .u64 (p : Int), .int .u64 (t : Int)] 41)) (supL p t)) := by
  have e1 : (W.alloc (.cells sgA 5 (8, 9))).heap.size = W.heap.size + 1 := by simp
  have hu := three_ur (W.alloc (.cells sgA 5 (8, 9))) 1 p t
  rw [e1] at hu
  exact block_any B 2 (W.heap.size + 1) 0 3 (by omega) (by omega) _ sgL [1, p, t] (three_64 (by decide) hp ht) _ (by simp; omega)
    (sg_ownF B W _ ((Below.refl _ _).alloc (by rw [e1]; exact Nat.le_refl _) _)) sgL_byte hu (by simp [sgL])
set_option maxRecDepth 100000 in
set_option maxHeartbeats 1000000 in
theorem bytes_yes (p t : Nat) (hp : p ≤ 64) (ht24 : t ≤ 24) (h : Geo.May p t) (w : World) : Calls Try.prog 11 #[.agg #[.int .i64 (p : Int), .int .i64 (t : Int)]] w (BytesG w (supL p t)) := by
  have hb : Below w.heap.size w (w.alloc (.cells #[.int .i64 (p : Int), .int .i64 (t : Int)] 23)) := (Below.refl _ _).alloc (Nat.le_refl _) _
  have ht := Two.new w 23 (p : Int) (t : Int)
  have HB := Lib.hid hb
  have HT := Lib.hid ht
  have HM := Lib.hid h
  have HI : Hid ((Try.prog.info? 23).map (·.size) = some (#[Value.int .i64 (p : Int), Value.int .i64 (t : Int)] : Array Value).size) := Lib.hid (info_geo2 p t)
  clear hb ht h
  go_enter Try.func11, Try.ntmps11
  go_wp2_with fail
  generalize w.alloc (.cells #[.int .i64 (p : Int), .int .i64 (t : Int)] 23) = W0 at *
  refine (check_yes p t HM.out _).mono ?_
  rintro e w1 ⟨rfl, hb1⟩
  have HT1 := Lib.hid (HT.out.after hb1)
  have HB1 := Lib.hid (HB.out.trans (hb1.mono HB.out.size))
  clear hb1
  have c0 := HT1.out.fst
  have c1 := HT1.out.snd
  have hlt := HT1.out.lt
  have hcs := conv_sg w1
  go_wp2_with fail
  have hbe : Below w.heap.size w ((w1.alloc (.cells #[.int .u8 71, .int .u8 65, .int .u8 82, .int .u8 68, .int .u8 82, .int .u8 79, .int .u8 66, .int .u8 69] 5 (8, 9))).alloc (.cells #[.int .u64 1, .int .u64 (p : Int), .int .u64 (t : Int)] 41)) := (HB1.out.alloc (Nat.le_of_lt hlt) _).alloc (by simp; omega) _
  have HBE := Lib.hid hbe
  refine (block_sup w.heap.size p t (by omega) (by omega) w1 (Nat.le_of_lt hlt)).mono ?_
  rintro e w2 ⟨A2, c2, rfl, hb2, hx2⟩
  have HF : Hid (BytesG w (supL p t) (.returned (.tuple #[.slice A2 (supL p t).length c2, .int .i64 0])) w2) := Lib.hid ⟨A2, c2, rfl, HBE.out.trans hb2, hx2⟩
  clear hbe HBE hb2 hx2 hcs
  go_wp2
  exact bodyPost_ret (v := .tuple #[.slice A2 (supL p t).length c2, .int .i64 0]) (by simp [results, Try.results11, go_sem]) rfl HF.out
set_option maxHeartbeats 1000000 in
theorem bytes_no (p t : Int) (h : ¬ Geo.May p t) (w : World) : Calls Try.prog 11 #[.agg #[.int .i64 p, .int .i64 t]] w fun e w' => e = .returned (.tuple #[.slice none 0 0, .int .i64 1]) ∧ Below w.heap.size w w' := by
  have hb : Below w.heap.size w (w.alloc (.cells #[.int .i64 p, .int .i64 t] 23)) := (Below.refl _ _).alloc (Nat.le_refl _) _
  have ht := Two.new w 23 p t
  have HB := Lib.hid hb
  have HT := Lib.hid ht
  have HM := Lib.hid h
  have HI : Hid ((Try.prog.info? 23).map (·.size) = some (#[Value.int .i64 p, Value.int .i64 t] : Array Value).size) := Lib.hid (info_geo2 p t)
  clear hb ht h
  go_enter Try.func11, Try.ntmps11
  go_wp2_with fail
  generalize w.alloc (.cells #[.int .i64 p, .int .i64 t] 23) = W0 at *
  refine (check_no p t HM.out _).mono ?_
  rintro e w1 ⟨rfl, hb1⟩
  have HB1 := Lib.hid (HB.out.trans (hb1.mono HB.out.size))
  clear hb1
  go_wp2
  exact bodyPost_ret (v := .tuple #[.slice none 0 0, .int .i64 1]) (by simp [results, Try.results11, go_sem]) rfl ⟨rfl, HB1.out⟩
/-! the document's Bytes -/
theorem putL2 {p : Nat} (hp : p < 256) : putL 2 p = [p, 0] := by
  unfold putL
  rw [show List.range 2 = [0, 1] from rfl, List.map_cons, List.map_cons, List.map_nil]
  have h1 : p / 256 ^ 0 % 256 = p := by rw [Nat.pow_zero, Nat.div_one, Nat.mod_eq_of_lt hp]
  have h2 : p / 256 ^ 1 % 256 = 0 := by rw [Nat.pow_one, Nat.div_eq_of_lt hp]
  rw [h1, h2]
theorem sup_ref {p t : Nat} (hp : p < 256) (ht : t < 256) : padL (sgL ++ [1, 0, p, 0, t, 0]) 256 = supL p t := by
  unfold supL blkL
  rw [List.flatMap_cons, List.flatMap_cons, List.flatMap_cons, List.flatMap_nil, putL2 (by omega : 1 < 256), putL2 hp, putL2 ht]
  rfl
theorem six_byte {p t : Nat} (hp : p < 256) (ht : t < 256) (i : Nat) : [1, 0, p, 0, t, 0].getD i 0 < 256 := by
  match i with
  | 0 => show (1 : Nat) < 256; omega
  | 1 => show (0 : Nat) < 256; omega
  | 2 => exact hp
  | 3 => show (0 : Nat) < 256; omega
  | 4 => exact ht
  | 5 => show (0 : Nat) < 256; omega
  | i + 6 => simp
theorem six_bs (B p t : Nat) (hp : p < 256) (ht : t < 256) (W : World) : BS (W.alloc (.cells #[.int .u8 1, .int .u8 0, .int .u8 (p : Int), .int .u8 0, .int .u8 (t : Int), .int .u8 0] 5)) (W.heap.size + 1) (some ⟨W.heap.size, 0, none⟩) 6 6 [1, 0, p, 0, t, 0] :=
  BS.of_blk (heap_alloc_new W _) (by omega) rfl (Nat.le_refl _) (by omega) (six_byte hp ht) (fun i hi => by
    have : i = 0 ∨ i = 1 ∨ i = 2 ∨ i = 3 ∨ i = 4 ∨ i = 5 := by omega
    rcases this with rfl | rfl | rfl | rfl | rfl | rfl <;> rfl)
theorem refPad256 (A : Option Addr) (m c : Nat) (L : List Nat) (W : World) (h : BS W W.heap.size A m c L) (hm : m ≤ 256) :
    Calls Try.prog 41 #[.slice A m c, .int .i64 256] W (Gives W (padL L 256)) := refPad_yes A m c 256 L W h (by omega) (by omega)
set_option maxRecDepth 100000 in
set_option maxHeartbeats 1000000 in
theorem rbytes_any (p t : Nat) (hp : p < 256) (ht24 : t < 256) (w : World) : Calls Try.prog 15 #[.agg #[.int .i64 (p : Int), .int .i64 (t : Int)]] w (Gives w (supL p t)) := by
  have hb : Below w.heap.size w (w.alloc (.cells #[.int .i64 (p : Int), .int .i64 (t : Int)] 23)) := (Below.refl _ _).alloc (Nat.le_refl _) _
  have ht := Two.new w 23 (p : Int) (t : Int)
  have HB := Lib.hid hb
  have c0 := ht.fst
  have c1 := ht.snd
  have HS := Lib.hid (sup_ref hp ht24)
  have hsz : (w.alloc (.cells #[.int .i64 (p : Int), .int .i64 (t : Int)] 23)).heap.size = w.heap.size + 1 := by simp
  have hcs := conv_sg (w.alloc (.cells #[.int .i64 (p : Int), .int .i64 (t : Int)] 23))
  have hF := fun W' => sg_ownF w.heap.size (w.alloc (.cells #[.int .i64 (p : Int), .int .i64 (t : Int)] 23)) W'
  have hX := six_bs 0 p t hp ht24 ((w.alloc (.cells #[.int .i64 (p : Int), .int .i64 (t : Int)] 23)).alloc (.cells #[.int .u8 71, .int .u8 65, .int .u8 82, .int .u8 68, .int .u8 82, .int .u8 79, .int .u8 66, .int .u8 69] 5 (8, 9)))
  have hsz2 : ((w.alloc (.cells #[.int .i64 (p : Int), .int .i64 (t : Int)] 23)).alloc (.cells #[.int .u8 71, .int .u8 65, .int .u8 82, .int .u8 68, .int .u8 82, .int .u8 79, .int .u8 66, .int .u8 69] 5 (8, 9))).heap.size = w.heap.size + 1 + 1 := by simp
  rw [hsz2] at hX
  rw [hsz] at hcs hF
  have hF2 := hF _ ((Below.refl _ _).alloc (by rw [World.size_alloc, hsz]; exact Nat.le_refl _) (.cells #[.int .u8 1, .int .u8 0, .int .u8 (p : Int), .int .u8 0, .int .u8 (t : Int), .int .u8 0] 5))
  have hb2 := (hb.alloc (by rw [hsz]; omega) (.cells #[.int .u8 71, .int .u8 65, .int .u8 82, .int .u8 68, .int .u8 82, .int .u8 79, .int .u8 66, .int .u8 69] 5 (8, 9))).alloc (by rw [hsz2]; omega) (.cells #[.int .u8 1, .int .u8 0, .int .u8 (p : Int), .int .u8 0, .int .u8 (t : Int), .int .u8 0] 5)
  have HB2 := Lib.hid hb2
  clear hb ht hsz hsz2 hF hb2
  go_enter Try.func15, Try.ntmps15
  go_wp2_with (refine wp_appsF _ rfl _ _ rfl w.heap.size _ _ rfl hF2 _ _ _ _ _ rfl hX (by omega) (by decide) HB2.out.size ?_; intro v' w2 hown2 hb2 hg2)
  have HB3 := Lib.hid (HB2.out.trans hb2)
  obtain ⟨A, c', rfl, hbs⟩ := hown2.bs (app_byte sgL_byte (six_byte hp ht24))
  clear hcs hF2 hX hb2 hg2 hown2 HB2 HB c0 c1
  generalize hL : sgL ++ [1, 0, p, 0, t, 0] = L at *
  have hl : L.length ≤ 256 := by rw [← hL]; simp [sgL]
  clear hL
  go_wp2_with fail
  refine (refPad256 A _ c' L _ hbs hl).mono ?_
  rintro e w1 ⟨A1, c1, rfl, hb1, hx1⟩
  have HF : Hid (Gives w (padL L 256) (.returned (.slice A1 (padL L 256).length c1)) w1) := Lib.hid ⟨A1, c1, rfl, HB3.out.trans (hb1.mono HB3.out.size), hx1⟩
  rw [HS.out] at HF
  clear hbs hb1 hx1
  go_wp2
  go_ret
  rw [HS.out]
  exact HF.out
end Go.Proofs.Ytbfbcjfeicecmaa
