/-
  Package logf: what the first block of a log tells.
-/
import Derived.Test.YtnalebocfbbpdaaLgU
namespace Go.Proofs.Ytnalebocfbbpdaa
open Go.RowKit Go
set_option linter.unusedVariables false
set_option linter.unusedSimpArgs false
set_option maxRecDepth 100000
theorem takeS_num {l : List Nat} {n : Nat} (h1 : 1 ≤ n) (h8 : n ≤ 8) (hl : n ≤ l.length) : takeS l 0 (n : Int) (mayN (n : Int)) = (l.take n, l.drop n, 0) := by
  have hm : mayN (n : Int) = true := decide_eq_true ⟨by omega, by omega⟩
  unfold takeS
  rw [hm, if_neg (by simp), if_neg (by simp), if_neg (by omega)]
  simp
def numAt (F : List Nat) (o n : Nat) : Nat := num ((F.drop o).take n)
theorem drop_byte {l : List Nat} (h : ∀ i, l.getD i 0 < 256) (k i : Nat) : (l.drop k).getD i 0 < 256 := by
  rw [List.getD_eq_getElem?_getD, List.getElem?_drop, ← List.getD_eq_getElem?_getD]; exact h _
theorem numAt_lt {F : List Nat} (h : ∀ i, F.getD i 0 < 256) (o n : Nat) : numAt F o n < 256 ^ n := by
  have h1 := num_lt (take_byte (drop_byte h o) n)
  have h2 : ((F.drop o).take n).length ≤ n := by rw [List.length_take]; omega
  exact Nat.lt_of_lt_of_le h1 (Nat.pow_le_pow_right (by omega) h2)
/-- the row gives its next number -/
theorem num_next (g : Nat) (F : List Nat) (o n : Nat) (h1 : 1 ≤ n) (h8 : n ≤ 8) (hl : o + n ≤ F.length) (W : World) (hst : RowSt W g 87 (F.drop o) 0) :
    Calls Try.prog 43 #[.pointer (some ⟨g, 0, none⟩), .int .i64 (n : Int)] W fun E W' => E = .returned (.int .u64 (numAt F o n : Nat)) ∧ RowSt W' g 87 (F.drop (o + n)) 0 ∧ W.grownBy W' (some g) := by
  refine (num_any g (F.drop o) 0 (n : Int) W hst).mono ?_
  rintro E W' ⟨rfl, h2, h3⟩
  rw [takeS_num h1 h8 (by rw [List.length_drop]; omega)] at h2 ⊢
  refine ⟨?_, by simpa [List.drop_drop] using h2, h3⟩
  unfold numAt
  rw [show List.take 8 (List.take n (F.drop o)) = List.take n (F.drop o) from List.take_of_length_le (by rw [List.length_take]; omega)]
def readK (F : List Nat) (i : Nat) : Int := (numAt F (18 + 2 * i) 2 : Nat)
def readE (F : List Nat) (Ls : List (List Nat)) (k : Nat) : List (Int × List Nat) := (List.range k).map fun i => (readK F i, Ls.getD (1 + i) [])
theorem readE_succ (F : List Nat) (Ls : List (List Nat)) (k : Nat) : readE F Ls (k + 1) = readE F Ls k ++ [(readK F k, Ls.getD (1 + k) [])] := by
  unfold readE; rw [List.range_succ, List.map_append]; rfl
theorem readE_len (F : List Nat) (Ls : List (List Nat)) (k : Nat) : (readE F Ls k).length = k := by unfold readE; simp
/-- the entries that a first block tells, of t blocks behind it -/
def readL (F : List Nat) (Ls : List (List Nat)) (t : Nat) : List (Int × List Nat) := if t < numAt F 16 2 then [] else readE F Ls (numAt F 16 2)
def ReadTo (w : World) (F : List Nat) (Ls : List (List Nat)) (t : Nat) (e : Ending) (w' : World) : Prop :=
  ∃ A c, e = .returned (.agg #[.int .u64 (numAt F 8 8 : Nat), .slice A (readL F Ls t).length c]) ∧ Below w.heap.size w w' ∧ EsV w' A (readL F Ls t).length (readL F Ls t) ∧ EsZ w' A (readL F Ls t).length
theorem RowSt.keepB {W W' : World} {g B : Nat} {t : TypeId} {l : List Nat} {e : Int} (h : RowSt W g t l e) (hb : Below B W W') (hg : g < B) : RowSt W' g t l e := by
  obtain ⟨A, c, h1, h2⟩ := h
  exact ⟨A, c, (hb.block g hg).trans h1, h2.keep fun p hp => hb.cell (Nat.lt_trans hp hg)⟩
theorem RowSt.setc {W : World} {g b i : Nat} {t : TypeId} {l : List Nat} {e : Int} (h : RowSt W g t l e) (hg : g < b) (x : Value) : RowSt (W.setCell ⟨b, i, none⟩ x) g t l e := by
  obtain ⟨A, c, h1, h2⟩ := h
  exact ⟨A, c, (Below.heap_setCell W ⟨b, i, none⟩ x g (by show g ≠ b; omega)).trans h1, h2.keep fun p hp => World.cell?_of_block (Below.heap_setCell W ⟨b, i, none⟩ x p.block (by show p.block ≠ b; omega))⟩
theorem EnO.only {t : TypeId} {w w' : World} {B0 B g : Nat} {v : Value} {es : List (Int × List Nat)} (h : EnO t w B0 B v es) (h0 : B0 ≤ g) (hB : g < B) (hw : B0 ≤ w.heap.size) (hg : w.grownBy w' (some g)) : EnO t w' B0 B v es := by
  obtain ⟨vs, ⟨h1, h2⟩, h3⟩ := h
  refine ⟨vs, ⟨h1, ?_⟩, fun i hi => ?_⟩
  · rcases h2 with h2 | ⟨g2, cap, cur, e1, e2, e3, e4⟩
    · exact .inl h2
    · exact .inr ⟨g2, cap, cur, e1, e2, (hg.block g2 (blk_lt e3) (fun e => by injection e with e; omega)).trans e3, e4⟩
  · obtain ⟨A, c, k1, k2, k3⟩ := h3 i hi
    obtain ⟨k3, hz⟩ := k3
    refine ⟨A, c, k1, k2, ?_, hz⟩
    rcases k3 with k3 | ⟨k3, k4⟩
    · exact .inl (k3.keep fun q hq => World.cell?_of_block (hg.block q.block (by omega) (fun e => by injection e with e; omega)))
    · exact .inr ⟨k3.keep fun g2 e => hg.block g2 (k3.lt e).2 (fun e2 => by injection e2 with e2; have := (k3.lt e).1; omega), k4⟩
/-- .. with the row still to be read: its block, the log's box -/
def RdR (w : World) (g b : Nat) (F : List Nat) (Ls : List (List Nat)) (cnt : Nat) (iv : Value) (wr : World) : Prop :=
  ∃ (k : Nat) (v : Value), iv = .int .i64 (k : Int) ∧ k ≤ numAt F 16 2 ∧ LgB wr w.heap.size 35 0 (.slice none 0 0) ∧ LgB wr b 35 cnt v ∧ EnO 58 wr w.heap.size (b + 1) v (readE F Ls k) ∧ RowSt wr g 87 (F.drop (18 + 2 * k)) 0 ∧ Below w.heap.size w wr
set_option maxHeartbeats 8000000 in
theorem read_any (F : List Nat) (Ls : List (List Nat)) (gB t c1 c2 : Nat) (A1 : Option Addr) (ht : t ≤ 24) (hc2 : t ≤ c2) (hc9 : c2 ≤ 9223372036854775807) (hLs : Ls.length = t + 1) (h256 : ∀ i, i < Ls.length → (Ls.getD i []).length = 256) (w : World) (hF : BS w w.heap.size A1 256 c1 F) (hblk : Blk w gB Ls) :
    Calls Try.prog 30 #[.slice A1 256 c1, .slice (some ⟨gB, 1, none⟩) t c2] w (ReadTo w F Ls t) := by
  have hFl := hF.len
  have hFb := hF.byte
  obtain ⟨W0, hW⟩ : ∃ W0, W0 = w.alloc (.cells #[.int .u64 0, .slice none 0 0] 35) := ⟨_, rfl⟩
  have hb0 : Below w.heap.size w W0 := by rw [hW]; exact (Below.refl _ _).alloc (Nat.le_refl _) _
  have s0 : W0.heap.size = w.heap.size + 1 := by rw [hW]; simp
  have hx0 : LgB W0 w.heap.size 35 0 (.slice none 0 0) := by rw [hW]; exact heap_alloc_new w _
  have hF0 : BS W0 W0.heap.size A1 256 c1 F := (hF.below hb0).more hb0.size
  have HB0 := Lib.hid hb0
  have HS0 := Lib.hid s0
  have HX0 := Lib.hid hx0
  have HBLK := Lib.hid hblk
  have HLS := Lib.hid hLs
  have H256 := Lib.hid h256
  have HFL := Lib.hid hFl
  have hm : numAt F 16 2 < 65536 := numAt_lt hFb 16 2
  have HOF := Lib.hid (of_any A1 256 c1 F W0 hF0 (by omega))
  have HBY : Hid (∀ g W, RowSt W g 87 F 0 → Calls Try.prog 42 #[.pointer (some ⟨g, 0, none⟩), .int .i64 8] W fun E W' => (∃ A n c, E = .returned (.slice A n c)) ∧ RowSt W' g 87 (F.drop 8) 0 ∧ W.grownBy W' (some g)) := Lib.hid (fun g W h => by
    refine (bytes_any g F 0 8 W h (by omega)).mono ?_
    rintro E W' ⟨A, c, rfl, _, h2, h3⟩
    have e : takeS F 0 8 (decide ((0 : Int) ≤ 8)) = (F.take 8, F.drop 8, 0) := takeS_num (n := 8) (by omega) (by omega) (by omega)
    rw [e] at h2
    exact ⟨⟨_, _, _, rfl⟩, h2, h3⟩)
  have HN8 : Hid (∀ g W, RowSt W g 87 (F.drop 8) 0 → Calls Try.prog 43 #[.pointer (some ⟨g, 0, none⟩), .int .i64 8] W fun E W' => E = .returned (.int .u64 (numAt F 8 8 : Nat)) ∧ RowSt W' g 87 (F.drop 16) 0 ∧ W.grownBy W' (some g)) := Lib.hid (fun g W h => num_next g F 8 8 (by omega) (by omega) (by omega) W h)
  have HN2 : Hid (∀ g W, RowSt W g 87 (F.drop 16) 0 → Calls Try.prog 43 #[.pointer (some ⟨g, 0, none⟩), .int .i64 2] W fun E W' => E = .returned (.int .u64 (numAt F 16 2 : Nat)) ∧ RowSt W' g 87 (F.drop 18) 0 ∧ W.grownBy W' (some g)) := Lib.hid (fun g W h => num_next g F 16 2 (by omega) (by omega) (by omega) W h)
  have HNK : Hid (∀ k, k < 25 → ∀ g W, RowSt W g 87 (F.drop (18 + 2 * k)) 0 → Calls Try.prog 43 #[.pointer (some ⟨g, 0, none⟩), .int .i64 2] W fun E W' => E = .returned (.int .u64 (readK F k)) ∧ RowSt W' g 87 (F.drop (18 + 2 * (k + 1))) 0 ∧ W.grownBy W' (some g)) := Lib.hid (fun k hk g W h => num_next g F (18 + 2 * k) 2 (by omega) (by omega) (by omega) W h)
  have HKB : Hid (∀ k, 0 ≤ readK F k ∧ readK F k < 65536) := Lib.hid (fun k => ⟨by unfold readK; omega, by unfold readK; have := numAt_lt hFb (18 + 2 * k) 2; omega⟩)
  have hwm : IntKind.i64.wrap ((numAt F 16 2 : Nat) : Int) = ((numAt F 16 2 : Nat) : Int) := by unfold IntKind.wrap; simp [IntKind.signed, IntKind.bits]; omega
  have HRL : Hid (numAt F 16 2 ≤ t → readL F Ls t = readE F Ls (numAt F 16 2)) := Lib.hid (fun h => by unfold readL; rw [if_neg (by omega)])
  have HRN : Hid (t < numAt F 16 2 → readL F Ls t = []) := Lib.hid (fun h => by unfold readL; rw [if_pos h])
  have HW := Lib.hid hW
  clear hF hblk hLs h256 hFl hFb hb0 hx0 hF0 s0 hW
  generalize hMM : numAt F 16 2 = many at *
  have HMM := Lib.hid hMM
  clear hMM
  generalize hCC : numAt F 8 8 = cnt at *
  have HCC := Lib.hid hCC
  clear hCC
  go_enter Try.func30, Try.ntmps30
  go_wp2_with fail
  rw [← HW.out]
  refine HOF.out.mono ?_
  rintro e w1 ⟨g, rfl, hg, hb1, hr1⟩
  have HG : Hid (w.heap.size + 1 ≤ g) := Lib.hid (by rw [← HS0.out]; exact hg)
  have HB1 := Lib.hid (HB0.out.trans (hb1.mono HB0.out.size))
  have HX1 : Hid (LgB w1 w.heap.size 35 0 (.slice none 0 0)) := Lib.hid ((hb1.block _ (by rw [HS0.out]; omega)).trans HX0.out)
  have HR1 := Lib.hid hr1
  clear hg hb1 hr1
  go_wp2_with fail
  refine (HBY.out g w1 HR1.out).mono ?_
  rintro e w2 ⟨⟨Aq, nq, cq, rfl⟩, hr2, hg2⟩
  have HR2 := Lib.hid hr2
  have HB2 : Hid (Below w.heap.size w w2) := Lib.hid (below_only HB1.out (by have := HG.out; omega) HB1.out.size hg2)
  have HX2 : Hid (LgB w2 w.heap.size 35 0 (.slice none 0 0)) := Lib.hid ((hg2.block _ (by have := HB1.out.size; have := HX1.out.lt; omega) (fun e => by injection e with e; have := HG.out; omega)).trans HX1.out)
  clear hr2 hg2
  go_wp2_with fail
  refine (HN8.out g w2 HR2.out).mono ?_
  rintro e w3 ⟨rfl, hr3, hg3⟩
  have HR3 := Lib.hid hr3
  have HB3 : Hid (Below w.heap.size w w3) := Lib.hid (below_only HB2.out (by have := HG.out; omega) HB2.out.size hg3)
  have HX3 : Hid (LgB w3 w.heap.size 35 0 (.slice none 0 0)) := Lib.hid ((hg3.block _ HX2.out.lt (fun e => by injection e with e; have := HG.out; omega)).trans HX2.out)
  clear hr3 hg3
  go_wp2_with fail
  have HX4 := Lib.hid (LgB.new w3 35 cnt (.slice none 0 0))
  have HA4 : Hid (Below w3.heap.size w3 (w3.alloc (.cells #[.int .u64 (cnt : Int), .slice none 0 0] 35))) := Lib.hid ((Below.refl _ _).alloc (Nat.le_refl _) _)
  have HZ4 : Hid ((w3.alloc (.cells #[.int .u64 (cnt : Int), .slice none 0 0] 35)).heap.size = w3.heap.size + 1) := Lib.hid (by simp)
  generalize w3.alloc (.cells #[.int .u64 (cnt : Int), .slice none 0 0] 35) = W4 at *
  have HLB : Hid (w.heap.size ≤ w3.heap.size) := Lib.hid HB3.out.size
  have HGB : Hid (g < w3.heap.size) := Lib.hid HR3.out.lt
  have HR4 := Lib.hid (HR3.out.below HA4.out)
  have HX4a : Hid (LgB W4 w.heap.size 35 0 (.slice none 0 0)) := Lib.hid ((HA4.out.block _ HX3.out.lt).trans HX3.out)
  have HB4 := Lib.hid (HB3.out.trans (HA4.out.mono HB3.out.size))
  generalize w3.heap.size = b at *
  refine (HN2.out g W4 HR4.out).mono ?_
  rintro e w5 ⟨rfl, hr5, hg5⟩
  have HWG : Hid (w.heap.size ≤ g) := Lib.hid (by have := HG.out; omega)
  have HRW : Hid (RowSt w5 g 87 (F.drop (18 + 2 * 0)) 0) := Lib.hid hr5
  have HB : Hid (Below w.heap.size w w5) := Lib.hid (below_only HB4.out HWG.out HB4.out.size hg5)
  have HR1 : Hid (LgB w5 w.heap.size 35 0 (.slice none 0 0)) := Lib.hid ((hg5.block _ HX4a.out.lt (fun e => by injection e with e; have := HG.out; omega)).trans HX4a.out)
  have HR2 : Hid (LgB w5 b 35 cnt (.slice none 0 0)) := Lib.hid ((hg5.block b HX4.out.lt (fun e => by injection e with e; have := HGB.out; omega)).trans HX4.out)
  have hsz : b + 1 ≤ w5.heap.size := by have := hg5.size; have := HZ4.out; omega
  have HO : Hid (EnO 58 w5 w.heap.size (b + 1) (.slice none 0 0) (readE F Ls 0)) := Lib.hid (EnO.nil _ _ _ _)
  clear hr5 hg5
  obtain ⟨v0, hv0⟩ : ∃ v, v = Value.slice none 0 0 := ⟨_, rfl⟩
  rw [← hv0] at HR2 HO
  clear hv0
  by_cases htm : t < many
  · have htmi : (t : Int) < (many : Int) := by omega
    have HES : Hid (readL F Ls t = readE F Ls 0) := Lib.hid (HRN.out htm)
    clear HX4 HX4a HR4 HA4 HZ4 HX3 HR3 HX2 HX1 HX0 HOF HBY HN8 HN2 HNK
    obtain ⟨A9, c9, rfl, _⟩ := HO.out.esV (by have := HLB.out; omega) hsz
    have HFX : Hid (((w5.setCell ⟨w.heap.size, 0, none⟩ (.int .u64 (cnt : Int))).setCell ⟨w.heap.size, 1, none⟩ (.slice A9 (readE F Ls 0).length c9)).heap[w.heap.size]? = some (.cells #[.int .u64 (cnt : Int), .slice A9 (readE F Ls 0).length c9] 35 (0, 0))) := Lib.hid (by
      have h := blk_set (blk_set HR1.out 0 (.int .u64 (cnt : Int))) 1 (.slice A9 (readE F Ls 0).length c9)
      simpa using h)
    have HIL : Hid ((Try.prog.info? 35).map (·.size) = some (#[.int .u64 (cnt : Int), .slice A9 (readE F Ls 0).length c9] : Array Value).size) := Lib.hid (by rw [show (#[.int .u64 (cnt : Int), .slice A9 (readE F Ls 0).length c9] : Array Value).size = 2 from rfl]; kernel_rfl)
    have HF : Hid (ReadTo w F Ls t (.returned (.agg #[.int .u64 (cnt : Int), .slice A9 (readE F Ls 0).length c9])) ((w5.setCell ⟨w.heap.size, 0, none⟩ (.int .u64 (cnt : Int))).setCell ⟨w.heap.size, 1, none⟩ (.slice A9 (readE F Ls 0).length c9))) := Lib.hid (by
      have hS := (HO.out.set ⟨w.heap.size, 0, none⟩ (Nat.le_refl _) (by show w.heap.size < b + 1; have := HLB.out; omega) (.int .u64 (cnt : Int))).set ⟨w.heap.size, 1, none⟩ (Nat.le_refl _) (by show w.heap.size < b + 1; have := HLB.out; omega) (.slice A9 (readE F Ls 0).length c9)
      have hE : readL F Ls t = (readE F Ls 0) := HES.out
      unfold ReadTo
      rw [hE, HCC.out]
      refine ⟨A9, c9, rfl, (HB.out.setCell (Nat.le_refl _) _).setCell (Nat.le_refl _) _, ?_, hS.esZ⟩
      obtain ⟨A, c, e, h⟩ := hS.esV (by have := HLB.out; omega) (by rw [size_set, size_set]; exact hsz)
      injection e with e1 _ _
      subst e1
      exact h)
    clear HO
    generalize (readE F Ls 0).length = cl at *
    have g0 := HR1.out.fst
    have g1 := HR1.out.snd
    have d0 := HR2.out.fst
    have d1 := HR2.out.snd
    have f0 : w5.frozen? ⟨w.heap.size, 0, none⟩ = false := blk_free HR1.out 0
    have f1 : w5.frozen? ⟨w.heap.size, 1, none⟩ = false := blk_free HR1.out 1
    go_wp2
    exact bodyPost_ret (v := .agg #[.int .u64 (cnt : Int), .slice A9 cl c9]) (results_cell_row rfl _ _ _ 35 _ (0, 0) _ rfl HFX.out Try.underlying35 rfl HIL.out) rfl HF.out
  · have htmi : ¬ (t : Int) < (many : Int) := by omega
    have hmt : many ≤ t := by omega
    have hmc : many ≤ c2 := by omega
    have HES := Lib.hid (HRL.out hmt)
    have HR0 : Hid (RdR w g b F Ls cnt (.int .i64 0) w5) := Lib.hid ⟨0, _, rfl, by omega, HR1.out, HR2.out, HO.out, HRW.out, HB.out⟩
    go_wp2
    go_loopw [32] (fun iv wr => RdR w g b F Ls cnt iv wr) (fun iv _ => (many - intOf iv).toNat)
    case atStart => exact HR0.out
    case round =>
      clear HR0 HR1 HR2 HO HRW HB HX4 HX4a HR4 HA4 HZ4 HX3 HR3 HX2 HX1 HX0 HOF HBY HN8 HN2 HB4 HB3 HB2 HB1 hsz
      obtain ⟨k, v, rfl, hk, hr1, hr2, hO, hrw, hb⟩ := hrel
      rw [HMM.out] at hk
      have HR1 := Lib.hid hr1
      have HR2 := Lib.hid hr2
      have HO := Lib.hid hO
      have HRW := Lib.hid hrw
      have HB := Lib.hid hb
      have hsz : b + 1 ≤ wr.heap.size := by have := hr2.lt; omega
      clear hr1 hr2 hO hrw hb
      by_cases hlt : k < many
      · obtain ⟨Ad, cd, q1, q2⟩ := HBLK.out.2 (1 + k) (by rw [HLS.out]; omega)
        have hd := H256.out (1 + k) (by rw [HLS.out]; omega)
        have HDL : Hid ((Ls.getD (1 + k) []).length = 256) := Lib.hid hd
        have HDB : Hid (∀ i, (Ls.getD (1 + k) []).getD i 0 < 256) := Lib.hid q2.byte
        rw [hd] at q1 q2
        have HSD := Lib.hid q2
        have p1 : wr.cell? ⟨gB, 1 + k, none⟩ = some (.slice Ad 256 cd) := (HB.out.cell (p := ⟨gB, 1 + k, none⟩) HBLK.out.1).trans q1
        have HS0v : Hid (wr.drew.cell? ⟨b, 1, none⟩ = some v) := Lib.hid HR2.out.snd
        have HNKk := Lib.hid (HNK.out k (by omega))
        have hkb := HKB.out k
        have HTL : Hid ((readE F Ls k).length < 1000) := Lib.hid (by rw [readE_len]; omega)
        have HNX : Hid (∀ (v' : Value) (w' : World), LgB w' w.heap.size 35 0 (.slice none 0 0) → LgB w' b 35 cnt v' → EnO 58 w' w.heap.size (b + 1) v' (readE F Ls k ++ [(readK F k, Ls.getD (1 + k) [])]) → RowSt w' g 87 (F.drop (18 + 2 * (k + 1))) 0 → Below w.heap.size w w' → RdR w g b F Ls cnt (.int .i64 ((k : Int) + 1)) w') := Lib.hid fun v' w' h1 h2 h3 h4 h5 => ⟨k + 1, v', rfl, by rw [HMM.out]; omega, h1, h2, by rw [readE_succ]; exact h3, h4, h5⟩
        have hwk : IntKind.i64.wrap (readK F k) = readK F k := by unfold IntKind.wrap; simp [IntKind.signed, IntKind.bits]; omega
        clear q1 q2 hd
        generalize readE F Ls k = pre at *
        generalize readK F k = X at *
        generalize Ls.getD (1 + k) [] = d at *
        go_wp2_with fail
        refine wp_region_F (S := fun (W : World) => W.cell? ⟨b, 1, none⟩ = some v) [11] (by kernel_rfl) (HS0v.out) (fun hHeld => ?_)
        refine wpAnyF_take (i := 0) (oi := _) (v := ?_) rfl (by kernel_rfl) (by kernel_rfl) (by kernel_rfl) (by kernel_rfl) (fun _ _ _ h => h) (Or.inl ⟨by rfl, ?_⟩) (by assumption) ?_
        rotate_left 1
        · intro w hSw
          (try dsimp only at hSw)
          (first | (go_simp; done) | (go_simp; with_reducible rfl))
        (try simp only [Act.put, List.getElem_toArray, List.getElem_cons_succ, List.getElem_cons_zero, List.setIfInBounds_toArray, List.set_cons_zero, List.set_cons_succ])
        refine wpAnyF_take (i := 1) (oi := _) (v := ?_) rfl (by kernel_rfl) (by kernel_rfl) (by kernel_rfl) (by kernel_rfl) (fun _ _ _ h => h) (Or.inl ⟨by rfl, ?_⟩) (by assumption) ?_
        rotate_left 1
        · intro w hSw
          (try dsimp only at hSw)
          (first | (go_simp; done) | (go_simp; with_reducible rfl))
        (try simp only [Act.put, List.getElem_toArray, List.getElem_cons_succ, List.getElem_cons_zero, List.setIfInBounds_toArray, List.set_cons_zero, List.set_cons_succ])
        refine wpAnyF_take (i := 2) (oi := _) (v := ?_) rfl (by kernel_rfl) (by kernel_rfl) (by kernel_rfl) (by kernel_rfl) (fun _ _ _ h => h) (Or.inl ⟨by rfl, ?_⟩) (by assumption) ?_
        rotate_left 1
        · intro w hSw
          (try dsimp only at hSw)
          (first | (go_simp; done) | (go_simp; with_reducible rfl))
        (try simp only [Act.put, List.getElem_toArray, List.getElem_cons_succ, List.getElem_cons_zero, List.setIfInBounds_toArray, List.set_cons_zero, List.set_cons_succ])
        refine wpAnyF_take (i := 5) (oi := _) (v := ?_) rfl (by kernel_rfl) (by kernel_rfl) (by kernel_rfl) (by kernel_rfl) (fun _ _ _ h => h) (Or.inl ⟨by rfl, ?_⟩) (by assumption) ?_
        rotate_left 1
        · intro w hSw
          (try dsimp only at hSw)
          (first | (go_simp; done) | (go_simp; with_reducible rfl))
        (try simp only [Act.put, List.getElem_toArray, List.getElem_cons_succ, List.getElem_cons_zero, List.setIfInBounds_toArray, List.set_cons_zero, List.set_cons_succ])
        refine wpAnyF_ready (rs := [3]) (by kernel_rfl) (by simp) ?_
        refine AllReadyF.cons (o := _) rfl (fun K hK => ?_) AllReadyF.nil
        go_simp
        (go_at_call 43)
        refine (HNKk.out g _ HRW.out.dr).mono ?_
        rintro e w5 ⟨rfl, hr5, hg5⟩
        have HG5 : Hid (wr.grownBy w5 (some g)) := Lib.hid ⟨hg5.os, hg5.tape, hg5.output, hg5.size, hg5.block⟩
        have HRW5 := Lib.hid hr5
        have HC5 : Hid (w5.cell? ⟨b, 1, none⟩ = some v) := Lib.hid ((World.cell?_of_block (a := ⟨b, 1, none⟩) (HG5.out.block b HR2.out.lt (fun e => by injection e with e; have := HGB.out; omega))).trans HR2.out.snd)
        clear hr5 hg5
        refine hK.out _ _ (HC5.out) (fun hHeld3 => ?_)
        clear hK K
        (try simp only [Act.put, List.getElem_toArray, List.getElem_cons_succ, List.getElem_cons_zero, List.setIfInBounds_toArray, List.set_cons_zero, List.set_cons_succ])
        refine wpAnyF_take (i := 4) (oi := _) (v := ?_) rfl (by kernel_rfl) (by kernel_rfl) (by kernel_rfl) (by kernel_rfl) (fun _ _ _ h => h) (Or.inl ⟨by rfl, ?_⟩) (by assumption) ?_
        rotate_left 1
        · intro w hSw
          (try dsimp only at hSw)
          (first | (go_simp; done) | (go_simp; with_reducible rfl))
        (try simp only [Act.put, List.getElem_toArray, List.getElem_cons_succ, List.getElem_cons_zero, List.setIfInBounds_toArray, List.set_cons_zero, List.set_cons_succ])
        refine wpAnyF_ready (rs := [6]) (by kernel_rfl) (by simp) ?_
        refine AllReadyF.cons (o := _) rfl (fun K hK => ?_) AllReadyF.nil
        go_simp
        (go_at_call 21)
        refine (bclone_own Ad 256 cd d _ ((HSD.out.below (below_only HB.out HWG.out HB.out.size HG5.out)).more (below_only HB.out HWG.out HB.out.size HG5.out).size) (by omega)).mono ?_
        rintro e w6 ⟨v6, rfl, hown6, hb6⟩
        obtain ⟨A6, c6, rfl, _⟩ := hown6.bs HDB.out
        rw [HDL.out] at hown6 ⊢
        have HB5 : Hid (Below w.heap.size w w5) := Lib.hid (below_only HB.out HWG.out HB.out.size HG5.out)
        have HSZ5 : Hid (b + 1 ≤ w5.heap.size) := Lib.hid (Nat.le_trans hsz HG5.out.size)
        have HOW6 := Lib.hid hown6
        have HA6 := Lib.hid hb6
        have HC6 : Hid (w6.cell? ⟨b, 1, none⟩ = some v) := Lib.hid ((hb6.cell (p := ⟨b, 1, none⟩) (by show b < w5.heap.size; have := HSZ5.out; omega)).trans HC5.out)
        clear hown6 hb6
        refine hK.out _ _ (HC6.out) (fun hHeld6 => ?_)
        clear hK K
        (try simp only [Act.put, List.getElem_toArray, List.getElem_cons_succ, List.getElem_cons_zero, List.setIfInBounds_toArray, List.set_cons_zero, List.set_cons_succ])
        refine wpAnyF_take (i := 7) (oi := _) (v := ?_) rfl (by kernel_rfl) (by kernel_rfl) (by kernel_rfl) (by kernel_rfl) (fun _ _ _ h => h) (Or.inl ⟨by rfl, ?_⟩) (by assumption) ?_
        rotate_left 1
        · intro w hSw
          (try dsimp only at hSw)
          (first | (go_simp; done) | (go_simp; with_reducible rfl))
        (try simp only [Act.put, List.getElem_toArray, List.getElem_cons_succ, List.getElem_cons_zero, List.setIfInBounds_toArray, List.set_cons_zero, List.set_cons_succ])
        have HC8 : Hid ((w6.alloc (.cells #[.int .i64 X, .slice A6 256 c6] 58)).cell? ⟨b, 1, none⟩ = some v) := Lib.hid ((((Below.refl w6.heap.size w6).alloc (Nat.le_refl _) _).cell (p := ⟨b, 1, none⟩) (by show b < w6.heap.size; have := HSZ5.out; have := HA6.out.size; omega)).trans HC6.out)
        refine wpAnyF_ready (rs := [8]) (by kernel_rfl) (by simp) ?_
        refine AllReadyF.cons (o := _) rfl (fun K hK => ?_) AllReadyF.nil
        go_simp
        refine hK.out _ _ (HC8.out) (fun hHeld8 => ?_)
        clear hK K
        (try simp only [Act.put, List.getElem_toArray, List.getElem_cons_succ, List.getElem_cons_zero, List.setIfInBounds_toArray, List.set_cons_zero, List.set_cons_succ])
        have HO5 : Hid (EnO 58 w5 w.heap.size (b + 1) v pre) := Lib.hid (HO.out.only HWG.out (by have := HGB.out; omega) HB.out.size HG5.out)
        have HO6 : Hid (EnO 58 w6 w.heap.size (b + 1) v pre) := Lib.hid (HO5.out.below (by have := HLB.out; omega) HSZ5.out HA6.out)
        have HI6 : Hid (EnI w6 w.heap.size (b + 1) A6 c6 d) := Lib.hid ⟨.inr ⟨by rw [HDL.out]; exact HOW6.out.base HSZ5.out, HDB.out⟩, own_zero HOW6.out⟩
        have HSZ6 : Hid (b + 1 ≤ w6.heap.size) := Lib.hid (Nat.le_trans HSZ5.out HA6.out.size)
        have HR26 : Hid (LgB w6 b 35 cnt v) := Lib.hid ((HA6.out.block b (by have := HSZ5.out; omega)).trans ((HG5.out.block b HR2.out.lt (fun e => by injection e with e; have := HGB.out; omega)).trans HR2.out))
        have HR16 : Hid (LgB w6 w.heap.size 35 0 (.slice none 0 0)) := Lib.hid ((HA6.out.block _ (by have := HSZ5.out; have := HLB.out; omega)).trans ((HG5.out.block _ HR1.out.lt (fun e => by injection e with e; have := HG.out; omega)).trans HR1.out))
        have HRW6 := Lib.hid (HRW5.out.below HA6.out)
        have HB6 := Lib.hid (HB5.out.trans (HA6.out.mono HB5.out.size))
        refine wpAnyF_ready (rs := [9]) (by kernel_rfl) (by simp) ?_
        refine AllReadyF.cons (o := _) rfl (fun K hK => ?_) AllReadyF.nil
        rw [if_pos (by kernel_rfl)]
        refine step_appE 58 33 Try.underlying33 (by kernel_rfl) (by decide) w6 (.tmp 37) (.tmp 44) rfl w.heap.size (b + 1) (by have := HLB.out; omega) v pre X A6 c6 256 d HDL.out rfl HO6.out HTL.out rfl HI6.out HSZ6.out ?_
        intro v10 w10 hO10 hb10 hfar10
        obtain ⟨nn, A10, cc, rfl⟩ : ∃ nn A cc, v10 = .slice A nn cc := by
          obtain ⟨A, c, e, _⟩ := hO10.esV (by have := HLB.out; omega) (Nat.le_trans HSZ6.out hb10.size)
          exact ⟨_, A, c, e⟩
        have HG3 : Hid (LgB w10 b 35 cnt v) := Lib.hid ((hb10.block b (by omega)).trans HR26.out)
        have c10 : w10.cell? ⟨b, 1, none⟩ = some v := HG3.out.snd
        have f10 : w10.frozen? ⟨b, 1, none⟩ = false := blk_free HG3.out 1
        have HOU : Hid (RdR w g b F Ls cnt (.int .i64 ((k : Int) + 1)) (w10.setCell ⟨b, 1, none⟩ (.slice A10 nn cc))) := Lib.hid (by
          refine HNX.out (.slice A10 nn cc) _ ?_ (HG3.out.setc _) (hO10.set _ (by show w.heap.size ≤ b; exact HLB.out) (by show b < b + 1; omega) (.slice A10 nn cc)) ?_ ?_
          · exact LgB.far ((hb10.block _ (by have := HLB.out; omega)).trans HR16.out) _ (by show b ≠ w.heap.size; have := HGB.out; have := HG.out; omega) _
          · exact (HRW6.out.keepB hb10 (by have := HGB.out; omega)).setc HGB.out _
          · exact (HB6.out.trans (hb10.mono (by have := HLB.out; omega))).setCell (by show w.heap.size ≤ b; exact HLB.out) _)
        have HC10 := Lib.hid c10
        clear hO10 hb10 hfar10
        refine hK.out _ _ (HC10.out) (fun hHeld10 => ?_)
        clear hK K
        (try simp only [Act.put, List.getElem_toArray, List.getElem_cons_succ, List.getElem_cons_zero, List.setIfInBounds_toArray, List.set_cons_zero, List.set_cons_succ])
        refine wpAnyF_take (i := 10) (oi := _) (v := ?_) rfl (by kernel_rfl) (by kernel_rfl) (by kernel_rfl) (by kernel_rfl) (fun _ _ _ h => h) (Or.inl ⟨by rfl, ?_⟩) (by assumption) ?_
        rotate_left 1
        · intro w hSw
          (try dsimp only at hSw)
          (first | (go_simp; done) | (go_simp; with_reducible rfl))
        (try simp only [Act.put, List.getElem_toArray, List.getElem_cons_succ, List.getElem_cons_zero, List.setIfInBounds_toArray, List.set_cons_zero, List.set_cons_succ])
        refine wpAnyF_ready (rs := [11]) (by kernel_rfl) (by simp) ?_
        refine AllReadyF.last (o := _) rfl (by rfl) (fun K hK => ?_) AllReadyF.nil
        go_simp
        refine hK.out _ _ ?_
        clear hK K
        (try simp only [Act.put, List.getElem_toArray, List.getElem_cons_succ, List.getElem_cons_zero, List.setIfInBounds_toArray, List.set_cons_zero, List.set_cons_succ])
        refine wpAnyF_done (by kernel_rfl) ?_ _
        clear hHeld hHeld3 hHeld6 hHeld8 hHeld10 c10 f10
        go_wp2
        go_roundw
        case rel => exact HOU.out
        case measure => simp [intOf]; omega
      · obtain rfl : k = many := by omega
        obtain ⟨A9, c9, rfl, _⟩ := HO.out.esV (by have := HLB.out; omega) hsz
        have HFX : Hid (((wr.setCell ⟨w.heap.size, 0, none⟩ (.int .u64 (cnt : Int))).setCell ⟨w.heap.size, 1, none⟩ (.slice A9 (readE F Ls k).length c9)).heap[w.heap.size]? = some (.cells #[.int .u64 (cnt : Int), .slice A9 (readE F Ls k).length c9] 35 (0, 0))) := Lib.hid (by
          have h := blk_set (blk_set HR1.out 0 (.int .u64 (cnt : Int))) 1 (.slice A9 (readE F Ls k).length c9)
          simpa using h)
        have HIL : Hid ((Try.prog.info? 35).map (·.size) = some (#[.int .u64 (cnt : Int), .slice A9 (readE F Ls k).length c9] : Array Value).size) := Lib.hid (by rw [show (#[.int .u64 (cnt : Int), .slice A9 (readE F Ls k).length c9] : Array Value).size = 2 from rfl]; kernel_rfl)
        have HF : Hid (ReadTo w F Ls t (.returned (.agg #[.int .u64 (cnt : Int), .slice A9 (readE F Ls k).length c9])) ((wr.setCell ⟨w.heap.size, 0, none⟩ (.int .u64 (cnt : Int))).setCell ⟨w.heap.size, 1, none⟩ (.slice A9 (readE F Ls k).length c9))) := Lib.hid (by
          have hS := (HO.out.set ⟨w.heap.size, 0, none⟩ (Nat.le_refl _) (by show w.heap.size < b + 1; have := HLB.out; omega) (.int .u64 (cnt : Int))).set ⟨w.heap.size, 1, none⟩ (Nat.le_refl _) (by show w.heap.size < b + 1; have := HLB.out; omega) (.slice A9 (readE F Ls k).length c9)
          have hE : readL F Ls t = (readE F Ls k) := HES.out
          unfold ReadTo
          rw [hE, HCC.out]
          refine ⟨A9, c9, rfl, (HB.out.setCell (Nat.le_refl _) _).setCell (Nat.le_refl _) _, ?_, hS.esZ⟩
          obtain ⟨A, c, e, h⟩ := hS.esV (by have := HLB.out; omega) (by rw [size_set, size_set]; exact hsz)
          injection e with e1 _ _
          subst e1
          exact h)
        clear HO
        generalize (readE F Ls k).length = cl at *
        have g0 := HR1.out.fst
        have g1 := HR1.out.snd
        have d0 := HR2.out.fst
        have d1 := HR2.out.snd
        have f0 : wr.frozen? ⟨w.heap.size, 0, none⟩ = false := blk_free HR1.out 0
        have f1 : wr.frozen? ⟨w.heap.size, 1, none⟩ = false := blk_free HR1.out 1
        go_wp2
        exact bodyPost_ret (v := .agg #[.int .u64 (cnt : Int), .slice A9 cl c9]) (results_cell_row rfl _ _ _ 35 _ (0, 0) _ rfl HFX.out Try.underlying35 rfl HIL.out) rfl HF.out
end Go.Proofs.Ytnalebocfbbpdaa
