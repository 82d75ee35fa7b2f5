/-
  An act's bytes: the document's and the program's.
-/
import Derived.Test.YtkgmggjlnibgmaaScG
import Derived.Deep.AppendLies
namespace Go.Proofs.Ytkgmggjlnibgmaa
open Go.RowKit Go
set_option linter.unusedVariables false
set_option linter.unusedSimpArgs false
set_option maxRecDepth 100000
theorem some_of {w : World} {B n c : Nat} {A : Option Addr} {l : List Nat} (h : BS w B A (n + 1) c l) : A = none → c = 0 := fun e => by
  obtain ⟨b, o, e2, _⟩ := h.at_ (Nat.succ_pos n)
  rw [e] at e2; cases e2
/-- the bytes that are there: a slice of the call's own, the act's block as it was -/
def BtS (W0 : World) (v : Value) (l : List Nat) (W : World) : Prop := Own W W0.heap.size v l ∧ After W0 W
theorem BtS.blk {W0 W : World} {v : Value} {l : List Nat} (h : BtS W0 v l W) {g : Nat} {o : Obj} (hg : W0.heap[g]? = some o) : W.heap[g]? = some o := by
  refine (Below.block h.2 g ?_).trans hg
  rcases Nat.lt_or_ge g W0.heap.size with h1 | h1
  · exact h1
  · rw [Array.getElem?_eq_none h1] at hg; cases hg
theorem BtS.first {W0 W : World} {x y : Nat} (hs : W0.heap.size < W.heap.size) (ha : After W0 W) (hh : W.heap[W0.heap.size]? = some (.cells #[.int .u8 (x : Int), .int .u8 (y : Int)] 5 (0, 0))) : BtS W0 (.slice (some ⟨W0.heap.size, 0, none⟩) 2 2) [x, y] W :=
  ⟨Own.blk (Nat.le_refl _) hh rfl (Nat.le_refl _) (by unfold maxLen; omega) rfl rfl, ha⟩
set_option maxHeartbeats 8000000 in
theorem rbytes_in (kd z1 z2 z3 z4 : Nat) (y : Bool) (A : Option Addr) (n c : Nat) (b : List Nat) (hk : kd < 20) (h1 : z1 < 65536) (h2 : z2 < 65536) (h3 : z3 < 65536) (h4 : z4 < 65536) (hn : n ≤ 1024) (hA : A = none → c = 0) (w : World) (hs : BS w w.heap.size A n c b) :
    Calls Try.prog 11 #[.agg #[.int .i64 (kd : Int), .bool y, .int .i64 (z1 : Int), .int .i64 (z2 : Int), .int .i64 (z3 : Int), .int .i64 (z4 : Int), .slice A n c]] w (GivesO w (bytesA ⟨(kd : Int), y, (z1 : Int), (z2 : Int), (z3 : Int), (z4 : Int), b⟩)) := by
  cases y
  · have HX0 := Lib.hid (heap_alloc_new w (.cells #[.int .i64 (kd : Int), .bool false, .int .i64 (z1 : Int), .int .i64 (z2 : Int), .int .i64 (z3 : Int), .int .i64 (z4 : Int), .slice A n c] 26))
    have HB0 := Lib.hid (al1 w (.cells #[.int .i64 (kd : Int), .bool false, .int .i64 (z1 : Int), .int .i64 (z2 : Int), .int .i64 (z3 : Int), .int .i64 (z4 : Int), .slice A n c] 26))
    have HSZ : Hid ((w.alloc (.cells #[.int .i64 (kd : Int), .bool false, .int .i64 (z1 : Int), .int .i64 (z2 : Int), .int .i64 (z3 : Int), .int .i64 (z4 : Int), .slice A n c] 26)).heap.size = w.heap.size + 1) := Lib.hid (by simp)
    have HS := Lib.hid hs
    have HA := Lib.hid hA
    have HBL := Lib.hid hs.len
    have wk : IntKind.u8.wrap (kd : Int) = (kd : Int) := wraps_u8 _ (by omega) (by omega)
    have wz1 : IntKind.u64.wrap (z1 : Int) = (z1 : Int) := wraps_u64 _ (by omega) (by omega)
    have wz2 : IntKind.u64.wrap (z2 : Int) = (z2 : Int) := wraps_u64 _ (by omega) (by omega)
    have wz3 : IntKind.u64.wrap (z3 : Int) = (z3 : Int) := wraps_u64 _ (by omega) (by omega)
    have wz4 : IntKind.u64.wrap (z4 : Int) = (z4 : Int) := wraps_u64 _ (by omega) (by omega)
    have wn : IntKind.u64.wrap (n : Int) = (n : Int) := wraps_u64 _ (by omega) (by omega)
    have HP1 : Hid (∀ W, Calls Try.prog 25 #[.int .i64 2, .int .u64 (z1 : Int)] W (Gives W (putL 2 z1))) := Lib.hid (fun W => refPut_yes 2 z1 (by omega) (by omega) (by omega) W)
    have HP2 : Hid (∀ W, Calls Try.prog 25 #[.int .i64 2, .int .u64 (z2 : Int)] W (Gives W (putL 2 z2))) := Lib.hid (fun W => refPut_yes 2 z2 (by omega) (by omega) (by omega) W)
    have HP3 : Hid (∀ W, Calls Try.prog 25 #[.int .i64 2, .int .u64 (z3 : Int)] W (Gives W (putL 2 z3))) := Lib.hid (fun W => refPut_yes 2 z3 (by omega) (by omega) (by omega) W)
    have HP4 : Hid (∀ W, Calls Try.prog 25 #[.int .i64 2, .int .u64 (z4 : Int)] W (Gives W (putL 2 z4))) := Lib.hid (fun W => refPut_yes 2 z4 (by omega) (by omega) (by omega) W)
    have HP5 : Hid (∀ W, Calls Try.prog 25 #[.int .i64 2, .int .u64 (n : Int)] W (Gives W (putL 2 n))) := Lib.hid (fun W => refPut_yes 2 n (by omega) (by omega) (by omega) W)
    have HFIN : Hid (∀ (v : Value) (W : World), BtS (w.alloc (.cells #[.int .i64 (kd : Int), .bool false, .int .i64 (z1 : Int), .int .i64 (z2 : Int), .int .i64 (z3 : Int), .int .i64 (z4 : Int), .slice A n c] 26)) v ((((((([kd, 0] ++ putL 2 z1) ++ putL 2 z2) ++ putL 2 z3) ++ putL 2 z4) ++ putL 2 n) ++ b)) W → GivesO w (bytesA ⟨(kd : Int), false, (z1 : Int), (z2 : Int), (z3 : Int), (z4 : Int), b⟩) (.returned v) W) := Lib.hid (fun v W ho => ⟨v, rfl, by
      have e : bytesA ⟨(kd : Int), false, (z1 : Int), (z2 : Int), (z3 : Int), (z4 : Int), b⟩ = ((((((([kd, 0] ++ putL 2 z1) ++ putL 2 z2) ++ putL 2 z3) ++ putL 2 z4) ++ putL 2 n) ++ b)) := by
        unfold bytesA headA put2
        dsimp only
        rw [HBL.out]
        simp [Nat.mod_eq_of_lt (show kd < 256 by omega)]
      rw [e]; exact ho.1.base (by rw [HSZ.out]; omega), HB0.out.trans (Below.mono ho.2 (by rw [HSZ.out]; omega))⟩)
    have HW0 : Hid (BtS (w.alloc (.cells #[.int .i64 (kd : Int), .bool false, .int .i64 (z1 : Int), .int .i64 (z2 : Int), .int .i64 (z3 : Int), .int .i64 (z4 : Int), .slice A n c] 26)) (.slice (some ⟨w.heap.size + 1, 0, none⟩) 2 2) [kd, 0] (((w.alloc (.cells #[.int .i64 (kd : Int), .bool false, .int .i64 (z1 : Int), .int .i64 (z2 : Int), .int .i64 (z3 : Int), .int .i64 (z4 : Int), .slice A n c] 26)).alloc (.cells #[.int .u8 (kd : Int), .int .u8 0] 5)))) := Lib.hid (by
      have e1 := HSZ.out
      have h1 := heap_alloc_new (w.alloc (.cells #[.int .i64 (kd : Int), .bool false, .int .i64 (z1 : Int), .int .i64 (z2 : Int), .int .i64 (z3 : Int), .int .i64 (z4 : Int), .slice A n c] 26)) (.cells #[.int .u8 (kd : Int), .int .u8 0] 5)
      have h2 : After (w.alloc (.cells #[.int .i64 (kd : Int), .bool false, .int .i64 (z1 : Int), .int .i64 (z2 : Int), .int .i64 (z3 : Int), .int .i64 (z4 : Int), .slice A n c] 26)) ((w.alloc (.cells #[.int .i64 (kd : Int), .bool false, .int .i64 (z1 : Int), .int .i64 (z2 : Int), .int .i64 (z3 : Int), .int .i64 (z4 : Int), .slice A n c] 26)).alloc (.cells #[.int .u8 (kd : Int), .int .u8 0] 5)) := al1 _ _
      have h5 := BtS.first (W0 := (w.alloc (.cells #[.int .i64 (kd : Int), .bool false, .int .i64 (z1 : Int), .int .i64 (z2 : Int), .int .i64 (z3 : Int), .int .i64 (z4 : Int), .slice A n c] 26))) (W := ((w.alloc (.cells #[.int .i64 (kd : Int), .bool false, .int .i64 (z1 : Int), .int .i64 (z2 : Int), .int .i64 (z3 : Int), .int .i64 (z4 : Int), .slice A n c] 26)).alloc (.cells #[.int .u8 (kd : Int), .int .u8 0] 5))) (x := kd) (y := 0) (by simp) h2 (by simpa using h1)
      rw [e1] at h5
      exact h5)
    have HQ : Hid ((w.alloc (.cells #[.int .i64 (kd : Int), .bool false, .int .i64 (z1 : Int), .int .i64 (z2 : Int), .int .i64 (z3 : Int), .int .i64 (z4 : Int), .slice A n c] 26)).heap[w.heap.size]? = some (.cells #[.int .i64 (kd : Int), .bool false, .int .i64 (z1 : Int), .int .i64 (z2 : Int), .int .i64 (z3 : Int), .int .i64 (z4 : Int), .slice A n c] 26 (0, 0))) := HX0
    clear hs hA hk h1 h2 h3 h4
    go_enter Try.func11, Try.ntmps11
    go_upto_region 4 with (fail)
    generalize ((w.alloc (.cells #[.int .i64 (kd : Int), .bool false, .int .i64 (z1 : Int), .int .i64 (z2 : Int), .int .i64 (z3 : Int), .int .i64 (z4 : Int), .slice A n c] 26)).alloc (.cells #[.int .u8 (kd : Int), .int .u8 0] 5)) = w0 at *
    generalize (w.alloc (.cells #[.int .i64 (kd : Int), .bool false, .int .i64 (z1 : Int), .int .i64 (z2 : Int), .int .i64 (z3 : Int), .int .i64 (z4 : Int), .slice A n c] 26)) = W0 at *
    have q0 : w0.cell? ⟨w.heap.size, 2, none⟩ = some (.int .i64 (z1 : Int)) := blk_cell (HW0.out.blk HQ.out) 2
    go_wp2_with fail
    refine (HP1.out _).mono ?_
    rintro e u1 ⟨A1, c1, rfl, hb1, hs1⟩
    rw [putL_len] at hs1 ⊢
    have HU1 : Hid (BtS W0 (.slice (some ⟨w.heap.size + 1, 0, none⟩) 2 2) ([kd, 0]) u1) := Lib.hid ⟨HW0.out.1.below hb1, After.next HW0.out.2 hb1⟩
    have HS1 := Lib.hid hs1
    have HL1 : Hid (([kd, 0]).length + 2 < 1000000000) := Lib.hid (by simp [putL_len])
    clear hb1 hs1
    go_upto_region 5 with (at_builtin; refine wp_apps _ rfl (.tmp 12) (.tmp 16) rfl W0.heap.size (.slice (some ⟨w.heap.size + 1, 0, none⟩) 2 2) ([kd, 0]) rfl HU1.out.1 u1.heap.size A1 2 c1 (putL 2 z1) rfl HS1.out (some_of HS1.out) HL1.out HU1.out.2.size ?_; intro v1 w1 ho1 hd1; have HW1 : Hid (BtS W0 v1 (([kd, 0]) ++ putL 2 z1) w1) := Lib.hid ⟨ho1, Below.trans HU1.out.2 hd1⟩; have q1 : w1.cell? ⟨w.heap.size, 3, none⟩ = some (.int .i64 (z2 : Int)) := blk_cell (HW1.out.blk HQ.out) 3; clear ho1 hd1)
    go_wp2_with fail
    refine (HP2.out _).mono ?_
    rintro e u2 ⟨A2, c2, rfl, hb2, hs2⟩
    rw [putL_len] at hs2 ⊢
    have HU2 : Hid (BtS W0 v1 ([kd, 0] ++ putL 2 z1) u2) := Lib.hid ⟨HW1.out.1.below hb2, After.next HW1.out.2 hb2⟩
    have HS2 := Lib.hid hs2
    have HL2 : Hid (([kd, 0] ++ putL 2 z1).length + 2 < 1000000000) := Lib.hid (by simp [putL_len])
    clear hb2 hs2
    go_upto_region 6 with (at_builtin; refine wp_apps _ rfl (.tmp 18) (.tmp 22) rfl W0.heap.size v1 ([kd, 0] ++ putL 2 z1) rfl HU2.out.1 u2.heap.size A2 2 c2 (putL 2 z2) rfl HS2.out (some_of HS2.out) HL2.out HU2.out.2.size ?_; intro v2 w2 ho2 hd2; have HW2 : Hid (BtS W0 v2 (([kd, 0] ++ putL 2 z1) ++ putL 2 z2) w2) := Lib.hid ⟨ho2, Below.trans HU2.out.2 hd2⟩; have q2 : w2.cell? ⟨w.heap.size, 4, none⟩ = some (.int .i64 (z3 : Int)) := blk_cell (HW2.out.blk HQ.out) 4; clear ho2 hd2)
    go_wp2_with fail
    refine (HP3.out _).mono ?_
    rintro e u3 ⟨A3, c3, rfl, hb3, hs3⟩
    rw [putL_len] at hs3 ⊢
    have HU3 : Hid (BtS W0 v2 ([kd, 0] ++ putL 2 z1 ++ putL 2 z2) u3) := Lib.hid ⟨HW2.out.1.below hb3, After.next HW2.out.2 hb3⟩
    have HS3 := Lib.hid hs3
    have HL3 : Hid (([kd, 0] ++ putL 2 z1 ++ putL 2 z2).length + 2 < 1000000000) := Lib.hid (by simp [putL_len])
    clear hb3 hs3
    go_upto_region 7 with (at_builtin; refine wp_apps _ rfl (.tmp 24) (.tmp 28) rfl W0.heap.size v2 ([kd, 0] ++ putL 2 z1 ++ putL 2 z2) rfl HU3.out.1 u3.heap.size A3 2 c3 (putL 2 z3) rfl HS3.out (some_of HS3.out) HL3.out HU3.out.2.size ?_; intro v3 w3 ho3 hd3; have HW3 : Hid (BtS W0 v3 (([kd, 0] ++ putL 2 z1 ++ putL 2 z2) ++ putL 2 z3) w3) := Lib.hid ⟨ho3, Below.trans HU3.out.2 hd3⟩; have q3 : w3.cell? ⟨w.heap.size, 5, none⟩ = some (.int .i64 (z4 : Int)) := blk_cell (HW3.out.blk HQ.out) 5; clear ho3 hd3)
    go_wp2_with fail
    refine (HP4.out _).mono ?_
    rintro e u4 ⟨A4, c4, rfl, hb4, hs4⟩
    rw [putL_len] at hs4 ⊢
    have HU4 : Hid (BtS W0 v3 ([kd, 0] ++ putL 2 z1 ++ putL 2 z2 ++ putL 2 z3) u4) := Lib.hid ⟨HW3.out.1.below hb4, After.next HW3.out.2 hb4⟩
    have HS4 := Lib.hid hs4
    have HL4 : Hid (([kd, 0] ++ putL 2 z1 ++ putL 2 z2 ++ putL 2 z3).length + 2 < 1000000000) := Lib.hid (by simp [putL_len])
    clear hb4 hs4
    go_upto_region 8 with (at_builtin; refine wp_apps _ rfl (.tmp 30) (.tmp 34) rfl W0.heap.size v3 ([kd, 0] ++ putL 2 z1 ++ putL 2 z2 ++ putL 2 z3) rfl HU4.out.1 u4.heap.size A4 2 c4 (putL 2 z4) rfl HS4.out (some_of HS4.out) HL4.out HU4.out.2.size ?_; intro v4 w4 ho4 hd4; have HW4 : Hid (BtS W0 v4 (([kd, 0] ++ putL 2 z1 ++ putL 2 z2 ++ putL 2 z3) ++ putL 2 z4) w4) := Lib.hid ⟨ho4, Below.trans HU4.out.2 hd4⟩; have q4 : w4.cell? ⟨w.heap.size, 6, none⟩ = some (.slice A n c) := blk_cell (HW4.out.blk HQ.out) 6; clear ho4 hd4)
    go_wp2_with fail
    refine (HP5.out _).mono ?_
    rintro e u5 ⟨A5, c5, rfl, hb5, hs5⟩
    rw [putL_len] at hs5 ⊢
    have HU5 : Hid (BtS W0 v4 ([kd, 0] ++ putL 2 z1 ++ putL 2 z2 ++ putL 2 z3 ++ putL 2 z4) u5) := Lib.hid ⟨HW4.out.1.below hb5, After.next HW4.out.2 hb5⟩
    have HS5 := Lib.hid hs5
    have HL5 : Hid (([kd, 0] ++ putL 2 z1 ++ putL 2 z2 ++ putL 2 z3 ++ putL 2 z4).length + 2 < 1000000000) := Lib.hid (by simp [putL_len])
    clear hb5 hs5
    go_upto_region 9 with (at_builtin; refine wp_apps _ rfl (.tmp 36) (.tmp 41) rfl W0.heap.size v4 ([kd, 0] ++ putL 2 z1 ++ putL 2 z2 ++ putL 2 z3 ++ putL 2 z4) rfl HU5.out.1 u5.heap.size A5 2 c5 (putL 2 n) rfl HS5.out (some_of HS5.out) HL5.out HU5.out.2.size ?_; intro v5 w5 ho5 hd5; have HW5 : Hid (BtS W0 v5 (([kd, 0] ++ putL 2 z1 ++ putL 2 z2 ++ putL 2 z3 ++ putL 2 z4) ++ putL 2 n) w5) := Lib.hid ⟨ho5, Below.trans HU5.out.2 hd5⟩; have q5 : w5.cell? ⟨w.heap.size, 6, none⟩ = some (.slice A n c) := blk_cell (HW5.out.blk HQ.out) 6; clear ho5 hd5)
    have HL6 : Hid (([kd, 0] ++ putL 2 z1 ++ putL 2 z2 ++ putL 2 z3 ++ putL 2 z4 ++ putL 2 n).length + n < 1000000000) := Lib.hid (by simp [putL_len]; omega)
    have HS6 : Hid (BS w5 w.heap.size A n c b) := Lib.hid (HS.out.below (HB0.out.trans (Below.mono HW5.out.2 (by rw [HSZ.out]; omega))))
    go_wp2_with (at_builtin; refine wp_apps _ rfl (.tmp 43) (.tmp 45) rfl W0.heap.size v5 ([kd, 0] ++ putL 2 z1 ++ putL 2 z2 ++ putL 2 z3 ++ putL 2 z4 ++ putL 2 n) rfl HW5.out.1 w.heap.size A n c b rfl HS6.out HA.out HL6.out HW5.out.2.size ?_; intro v6 w6 ho6 hd6; have HF : Hid (GivesO w (bytesA ⟨(kd : Int), false, (z1 : Int), (z2 : Int), (z3 : Int), (z4 : Int), b⟩) (.returned v6) w6) := Lib.hid (HFIN.out _ _ ⟨ho6, Below.trans HW5.out.2 hd6⟩); clear ho6 hd6)
    go_ret
    exact HF.out
  · have HX0 := Lib.hid (heap_alloc_new w (.cells #[.int .i64 (kd : Int), .bool true, .int .i64 (z1 : Int), .int .i64 (z2 : Int), .int .i64 (z3 : Int), .int .i64 (z4 : Int), .slice A n c] 26))
    have HB0 := Lib.hid (al1 w (.cells #[.int .i64 (kd : Int), .bool true, .int .i64 (z1 : Int), .int .i64 (z2 : Int), .int .i64 (z3 : Int), .int .i64 (z4 : Int), .slice A n c] 26))
    have HSZ : Hid ((w.alloc (.cells #[.int .i64 (kd : Int), .bool true, .int .i64 (z1 : Int), .int .i64 (z2 : Int), .int .i64 (z3 : Int), .int .i64 (z4 : Int), .slice A n c] 26)).heap.size = w.heap.size + 1) := Lib.hid (by simp)
    have HS := Lib.hid hs
    have HA := Lib.hid hA
    have HBL := Lib.hid hs.len
    have wk : IntKind.u8.wrap (kd : Int) = (kd : Int) := wraps_u8 _ (by omega) (by omega)
    have wz1 : IntKind.u64.wrap (z1 : Int) = (z1 : Int) := wraps_u64 _ (by omega) (by omega)
    have wz2 : IntKind.u64.wrap (z2 : Int) = (z2 : Int) := wraps_u64 _ (by omega) (by omega)
    have wz3 : IntKind.u64.wrap (z3 : Int) = (z3 : Int) := wraps_u64 _ (by omega) (by omega)
    have wz4 : IntKind.u64.wrap (z4 : Int) = (z4 : Int) := wraps_u64 _ (by omega) (by omega)
    have wn : IntKind.u64.wrap (n : Int) = (n : Int) := wraps_u64 _ (by omega) (by omega)
    have HP1 : Hid (∀ W, Calls Try.prog 25 #[.int .i64 2, .int .u64 (z1 : Int)] W (Gives W (putL 2 z1))) := Lib.hid (fun W => refPut_yes 2 z1 (by omega) (by omega) (by omega) W)
    have HP2 : Hid (∀ W, Calls Try.prog 25 #[.int .i64 2, .int .u64 (z2 : Int)] W (Gives W (putL 2 z2))) := Lib.hid (fun W => refPut_yes 2 z2 (by omega) (by omega) (by omega) W)
    have HP3 : Hid (∀ W, Calls Try.prog 25 #[.int .i64 2, .int .u64 (z3 : Int)] W (Gives W (putL 2 z3))) := Lib.hid (fun W => refPut_yes 2 z3 (by omega) (by omega) (by omega) W)
    have HP4 : Hid (∀ W, Calls Try.prog 25 #[.int .i64 2, .int .u64 (z4 : Int)] W (Gives W (putL 2 z4))) := Lib.hid (fun W => refPut_yes 2 z4 (by omega) (by omega) (by omega) W)
    have HP5 : Hid (∀ W, Calls Try.prog 25 #[.int .i64 2, .int .u64 (n : Int)] W (Gives W (putL 2 n))) := Lib.hid (fun W => refPut_yes 2 n (by omega) (by omega) (by omega) W)
    have HFIN : Hid (∀ (v : Value) (W : World), BtS (w.alloc (.cells #[.int .i64 (kd : Int), .bool true, .int .i64 (z1 : Int), .int .i64 (z2 : Int), .int .i64 (z3 : Int), .int .i64 (z4 : Int), .slice A n c] 26)) v ((((((([kd, 1] ++ putL 2 z1) ++ putL 2 z2) ++ putL 2 z3) ++ putL 2 z4) ++ putL 2 n) ++ b)) W → GivesO w (bytesA ⟨(kd : Int), true, (z1 : Int), (z2 : Int), (z3 : Int), (z4 : Int), b⟩) (.returned v) W) := Lib.hid (fun v W ho => ⟨v, rfl, by
      have e : bytesA ⟨(kd : Int), true, (z1 : Int), (z2 : Int), (z3 : Int), (z4 : Int), b⟩ = ((((((([kd, 1] ++ putL 2 z1) ++ putL 2 z2) ++ putL 2 z3) ++ putL 2 z4) ++ putL 2 n) ++ b)) := by
        unfold bytesA headA put2
        dsimp only
        rw [HBL.out]
        simp [Nat.mod_eq_of_lt (show kd < 256 by omega)]
      rw [e]; exact ho.1.base (by rw [HSZ.out]; omega), HB0.out.trans (Below.mono ho.2 (by rw [HSZ.out]; omega))⟩)
    have HW0 : Hid (BtS (w.alloc (.cells #[.int .i64 (kd : Int), .bool true, .int .i64 (z1 : Int), .int .i64 (z2 : Int), .int .i64 (z3 : Int), .int .i64 (z4 : Int), .slice A n c] 26)) (.slice (some ⟨w.heap.size + 1, 0, none⟩) 2 2) [kd, 1] (((w.alloc (.cells #[.int .i64 (kd : Int), .bool true, .int .i64 (z1 : Int), .int .i64 (z2 : Int), .int .i64 (z3 : Int), .int .i64 (z4 : Int), .slice A n c] 26)).alloc (.cells #[.int .u8 (kd : Int), .int .u8 1] 5)))) := Lib.hid (by
      have e1 := HSZ.out
      have h1 := heap_alloc_new (w.alloc (.cells #[.int .i64 (kd : Int), .bool true, .int .i64 (z1 : Int), .int .i64 (z2 : Int), .int .i64 (z3 : Int), .int .i64 (z4 : Int), .slice A n c] 26)) (.cells #[.int .u8 (kd : Int), .int .u8 1] 5)
      have h2 : After (w.alloc (.cells #[.int .i64 (kd : Int), .bool true, .int .i64 (z1 : Int), .int .i64 (z2 : Int), .int .i64 (z3 : Int), .int .i64 (z4 : Int), .slice A n c] 26)) ((w.alloc (.cells #[.int .i64 (kd : Int), .bool true, .int .i64 (z1 : Int), .int .i64 (z2 : Int), .int .i64 (z3 : Int), .int .i64 (z4 : Int), .slice A n c] 26)).alloc (.cells #[.int .u8 (kd : Int), .int .u8 1] 5)) := al1 _ _
      have h5 := BtS.first (W0 := (w.alloc (.cells #[.int .i64 (kd : Int), .bool true, .int .i64 (z1 : Int), .int .i64 (z2 : Int), .int .i64 (z3 : Int), .int .i64 (z4 : Int), .slice A n c] 26))) (W := ((w.alloc (.cells #[.int .i64 (kd : Int), .bool true, .int .i64 (z1 : Int), .int .i64 (z2 : Int), .int .i64 (z3 : Int), .int .i64 (z4 : Int), .slice A n c] 26)).alloc (.cells #[.int .u8 (kd : Int), .int .u8 1] 5))) (x := kd) (y := 1) (by simp) h2 (by simpa using h1)
      rw [e1] at h5
      exact h5)
    have HQ : Hid ((w.alloc (.cells #[.int .i64 (kd : Int), .bool true, .int .i64 (z1 : Int), .int .i64 (z2 : Int), .int .i64 (z3 : Int), .int .i64 (z4 : Int), .slice A n c] 26)).heap[w.heap.size]? = some (.cells #[.int .i64 (kd : Int), .bool true, .int .i64 (z1 : Int), .int .i64 (z2 : Int), .int .i64 (z3 : Int), .int .i64 (z4 : Int), .slice A n c] 26 (0, 0))) := HX0
    clear hs hA hk h1 h2 h3 h4
    go_enter Try.func11, Try.ntmps11
    go_upto_region 4 with (fail)
    generalize ((w.alloc (.cells #[.int .i64 (kd : Int), .bool true, .int .i64 (z1 : Int), .int .i64 (z2 : Int), .int .i64 (z3 : Int), .int .i64 (z4 : Int), .slice A n c] 26)).alloc (.cells #[.int .u8 (kd : Int), .int .u8 1] 5)) = w0 at *
    generalize (w.alloc (.cells #[.int .i64 (kd : Int), .bool true, .int .i64 (z1 : Int), .int .i64 (z2 : Int), .int .i64 (z3 : Int), .int .i64 (z4 : Int), .slice A n c] 26)) = W0 at *
    have q0 : w0.cell? ⟨w.heap.size, 2, none⟩ = some (.int .i64 (z1 : Int)) := blk_cell (HW0.out.blk HQ.out) 2
    go_wp2_with fail
    refine (HP1.out _).mono ?_
    rintro e u1 ⟨A1, c1, rfl, hb1, hs1⟩
    rw [putL_len] at hs1 ⊢
    have HU1 : Hid (BtS W0 (.slice (some ⟨w.heap.size + 1, 0, none⟩) 2 2) ([kd, 1]) u1) := Lib.hid ⟨HW0.out.1.below hb1, After.next HW0.out.2 hb1⟩
    have HS1 := Lib.hid hs1
    have HL1 : Hid (([kd, 1]).length + 2 < 1000000000) := Lib.hid (by simp [putL_len])
    clear hb1 hs1
    go_upto_region 5 with (at_builtin; refine wp_apps _ rfl (.tmp 12) (.tmp 16) rfl W0.heap.size (.slice (some ⟨w.heap.size + 1, 0, none⟩) 2 2) ([kd, 1]) rfl HU1.out.1 u1.heap.size A1 2 c1 (putL 2 z1) rfl HS1.out (some_of HS1.out) HL1.out HU1.out.2.size ?_; intro v1 w1 ho1 hd1; have HW1 : Hid (BtS W0 v1 (([kd, 1]) ++ putL 2 z1) w1) := Lib.hid ⟨ho1, Below.trans HU1.out.2 hd1⟩; have q1 : w1.cell? ⟨w.heap.size, 3, none⟩ = some (.int .i64 (z2 : Int)) := blk_cell (HW1.out.blk HQ.out) 3; clear ho1 hd1)
    go_wp2_with fail
    refine (HP2.out _).mono ?_
    rintro e u2 ⟨A2, c2, rfl, hb2, hs2⟩
    rw [putL_len] at hs2 ⊢
    have HU2 : Hid (BtS W0 v1 ([kd, 1] ++ putL 2 z1) u2) := Lib.hid ⟨HW1.out.1.below hb2, After.next HW1.out.2 hb2⟩
    have HS2 := Lib.hid hs2
    have HL2 : Hid (([kd, 1] ++ putL 2 z1).length + 2 < 1000000000) := Lib.hid (by simp [putL_len])
    clear hb2 hs2
    go_upto_region 6 with (at_builtin; refine wp_apps _ rfl (.tmp 18) (.tmp 22) rfl W0.heap.size v1 ([kd, 1] ++ putL 2 z1) rfl HU2.out.1 u2.heap.size A2 2 c2 (putL 2 z2) rfl HS2.out (some_of HS2.out) HL2.out HU2.out.2.size ?_; intro v2 w2 ho2 hd2; have HW2 : Hid (BtS W0 v2 (([kd, 1] ++ putL 2 z1) ++ putL 2 z2) w2) := Lib.hid ⟨ho2, Below.trans HU2.out.2 hd2⟩; have q2 : w2.cell? ⟨w.heap.size, 4, none⟩ = some (.int .i64 (z3 : Int)) := blk_cell (HW2.out.blk HQ.out) 4; clear ho2 hd2)
    go_wp2_with fail
    refine (HP3.out _).mono ?_
    rintro e u3 ⟨A3, c3, rfl, hb3, hs3⟩
    rw [putL_len] at hs3 ⊢
    have HU3 : Hid (BtS W0 v2 ([kd, 1] ++ putL 2 z1 ++ putL 2 z2) u3) := Lib.hid ⟨HW2.out.1.below hb3, After.next HW2.out.2 hb3⟩
    have HS3 := Lib.hid hs3
    have HL3 : Hid (([kd, 1] ++ putL 2 z1 ++ putL 2 z2).length + 2 < 1000000000) := Lib.hid (by simp [putL_len])
    clear hb3 hs3
    go_upto_region 7 with (at_builtin; refine wp_apps _ rfl (.tmp 24) (.tmp 28) rfl W0.heap.size v2 ([kd, 1] ++ putL 2 z1 ++ putL 2 z2) rfl HU3.out.1 u3.heap.size A3 2 c3 (putL 2 z3) rfl HS3.out (some_of HS3.out) HL3.out HU3.out.2.size ?_; intro v3 w3 ho3 hd3; have HW3 : Hid (BtS W0 v3 (([kd, 1] ++ putL 2 z1 ++ putL 2 z2) ++ putL 2 z3) w3) := Lib.hid ⟨ho3, Below.trans HU3.out.2 hd3⟩; have q3 : w3.cell? ⟨w.heap.size, 5, none⟩ = some (.int .i64 (z4 : Int)) := blk_cell (HW3.out.blk HQ.out) 5; clear ho3 hd3)
    go_wp2_with fail
    refine (HP4.out _).mono ?_
    rintro e u4 ⟨A4, c4, rfl, hb4, hs4⟩
    rw [putL_len] at hs4 ⊢
    have HU4 : Hid (BtS W0 v3 ([kd, 1] ++ putL 2 z1 ++ putL 2 z2 ++ putL 2 z3) u4) := Lib.hid ⟨HW3.out.1.below hb4, After.next HW3.out.2 hb4⟩
    have HS4 := Lib.hid hs4
    have HL4 : Hid (([kd, 1] ++ putL 2 z1 ++ putL 2 z2 ++ putL 2 z3).length + 2 < 1000000000) := Lib.hid (by simp [putL_len])
    clear hb4 hs4
    go_upto_region 8 with (at_builtin; refine wp_apps _ rfl (.tmp 30) (.tmp 34) rfl W0.heap.size v3 ([kd, 1] ++ putL 2 z1 ++ putL 2 z2 ++ putL 2 z3) rfl HU4.out.1 u4.heap.size A4 2 c4 (putL 2 z4) rfl HS4.out (some_of HS4.out) HL4.out HU4.out.2.size ?_; intro v4 w4 ho4 hd4; have HW4 : Hid (BtS W0 v4 (([kd, 1] ++ putL 2 z1 ++ putL 2 z2 ++ putL 2 z3) ++ putL 2 z4) w4) := Lib.hid ⟨ho4, Below.trans HU4.out.2 hd4⟩; have q4 : w4.cell? ⟨w.heap.size, 6, none⟩ = some (.slice A n c) := blk_cell (HW4.out.blk HQ.out) 6; clear ho4 hd4)
    go_wp2_with fail
    refine (HP5.out _).mono ?_
    rintro e u5 ⟨A5, c5, rfl, hb5, hs5⟩
    rw [putL_len] at hs5 ⊢
    have HU5 : Hid (BtS W0 v4 ([kd, 1] ++ putL 2 z1 ++ putL 2 z2 ++ putL 2 z3 ++ putL 2 z4) u5) := Lib.hid ⟨HW4.out.1.below hb5, After.next HW4.out.2 hb5⟩
    have HS5 := Lib.hid hs5
    have HL5 : Hid (([kd, 1] ++ putL 2 z1 ++ putL 2 z2 ++ putL 2 z3 ++ putL 2 z4).length + 2 < 1000000000) := Lib.hid (by simp [putL_len])
    clear hb5 hs5
    go_upto_region 9 with (at_builtin; refine wp_apps _ rfl (.tmp 36) (.tmp 41) rfl W0.heap.size v4 ([kd, 1] ++ putL 2 z1 ++ putL 2 z2 ++ putL 2 z3 ++ putL 2 z4) rfl HU5.out.1 u5.heap.size A5 2 c5 (putL 2 n) rfl HS5.out (some_of HS5.out) HL5.out HU5.out.2.size ?_; intro v5 w5 ho5 hd5; have HW5 : Hid (BtS W0 v5 (([kd, 1] ++ putL 2 z1 ++ putL 2 z2 ++ putL 2 z3 ++ putL 2 z4) ++ putL 2 n) w5) := Lib.hid ⟨ho5, Below.trans HU5.out.2 hd5⟩; have q5 : w5.cell? ⟨w.heap.size, 6, none⟩ = some (.slice A n c) := blk_cell (HW5.out.blk HQ.out) 6; clear ho5 hd5)
    have HL6 : Hid (([kd, 1] ++ putL 2 z1 ++ putL 2 z2 ++ putL 2 z3 ++ putL 2 z4 ++ putL 2 n).length + n < 1000000000) := Lib.hid (by simp [putL_len]; omega)
    have HS6 : Hid (BS w5 w.heap.size A n c b) := Lib.hid (HS.out.below (HB0.out.trans (Below.mono HW5.out.2 (by rw [HSZ.out]; omega))))
    go_wp2_with (at_builtin; refine wp_apps _ rfl (.tmp 43) (.tmp 45) rfl W0.heap.size v5 ([kd, 1] ++ putL 2 z1 ++ putL 2 z2 ++ putL 2 z3 ++ putL 2 z4 ++ putL 2 n) rfl HW5.out.1 w.heap.size A n c b rfl HS6.out HA.out HL6.out HW5.out.2.size ?_; intro v6 w6 ho6 hd6; have HF : Hid (GivesO w (bytesA ⟨(kd : Int), true, (z1 : Int), (z2 : Int), (z3 : Int), (z4 : Int), b⟩) (.returned v6) w6) := Lib.hid (HFIN.out _ _ ⟨ho6, Below.trans HW5.out.2 hd6⟩); clear ho6 hd6)
    go_ret
    exact HF.out
def zNat (z1 z2 z3 z4 : Nat) : Nat → Nat | 0 => z1 | 1 => z2 | 2 => z3 | _ => z4
def accL (l : List Nat) (f : Nat → Nat) : Nat → List Nat | 0 => l | j + 1 => accL l f j ++ putL 2 (f j)
theorem accL_len (l : List Nat) (f : Nat → Nat) : ∀ j, (accL l f j).length = l.length + 2 * j
  | 0 => rfl
  | j + 1 => by rw [accL, List.length_append, accL_len l f j, putL_len]; omega
def BytR (W0 : World) (l : List Nat) (f : Nat → Nat) (iv v : Value) (wr : World) : Prop := ∃ (j : Nat) (x : Value), iv = .int .i64 (j : Int) ∧ x = v ∧ j ≤ 4 ∧ BtS W0 x (accL l f j) wr
set_option maxHeartbeats 8000000 in
theorem pbytes_in (kd z1 z2 z3 z4 : Nat) (y : Bool) (A : Option Addr) (n c : Nat) (b : List Nat) (hk : kd < 20) (h1 : z1 < 65536) (h2 : z2 < 65536) (h3 : z3 < 65536) (h4 : z4 < 65536) (hn : n ≤ 1024) (hA : A = none → c = 0) (w : World) (hs : BS w w.heap.size A n c b) :
    Calls Try.prog 26 #[.agg #[.int .i64 (kd : Int), .bool y, .int .i64 (z1 : Int), .int .i64 (z2 : Int), .int .i64 (z3 : Int), .int .i64 (z4 : Int), .slice A n c]] w (GivesO w (bytesA ⟨(kd : Int), y, (z1 : Int), (z2 : Int), (z3 : Int), (z4 : Int), b⟩)) := by
  cases y
  · have HX0 := Lib.hid (heap_alloc_new w (.cells #[.int .i64 (kd : Int), .bool false, .int .i64 (z1 : Int), .int .i64 (z2 : Int), .int .i64 (z3 : Int), .int .i64 (z4 : Int), .slice A n c] 28))
    have HB0 := Lib.hid (al1 w (.cells #[.int .i64 (kd : Int), .bool false, .int .i64 (z1 : Int), .int .i64 (z2 : Int), .int .i64 (z3 : Int), .int .i64 (z4 : Int), .slice A n c] 28))
    have HSZ : Hid ((w.alloc (.cells #[.int .i64 (kd : Int), .bool false, .int .i64 (z1 : Int), .int .i64 (z2 : Int), .int .i64 (z3 : Int), .int .i64 (z4 : Int), .slice A n c] 28)).heap.size = w.heap.size + 1) := Lib.hid (by simp)
    have HS := Lib.hid hs
    have HA := Lib.hid hA
    have HBL := Lib.hid hs.len
    have wk : IntKind.u8.wrap (kd : Int) = (kd : Int) := wraps_u8 _ (by omega) (by omega)
    have wz1 : IntKind.u64.wrap (z1 : Int) = (z1 : Int) := wraps_u64 _ (by omega) (by omega)
    have wz2 : IntKind.u64.wrap (z2 : Int) = (z2 : Int) := wraps_u64 _ (by omega) (by omega)
    have wz3 : IntKind.u64.wrap (z3 : Int) = (z3 : Int) := wraps_u64 _ (by omega) (by omega)
    have wz4 : IntKind.u64.wrap (z4 : Int) = (z4 : Int) := wraps_u64 _ (by omega) (by omega)
    have wn : IntKind.u64.wrap (n : Int) = (n : Int) := wraps_u64 _ (by omega) (by omega)
    have HPJ : Hid (∀ j W, Calls Try.prog 38 #[.int .i64 2, .int .u64 ((zNat z1 z2 z3 z4 j : Nat) : Int)] W (Gives W (putL 2 (zNat z1 z2 z3 z4 j)))) := Lib.hid (fun j W => put_yes 2 _ (by omega) (by omega) (by unfold zNat; split <;> omega) W)
    have HZJ : Hid (∀ j, zNat z1 z2 z3 z4 j < 65536) := Lib.hid (fun j => by unfold zNat; split <;> omega)
    have HIX : Hid (∀ j : Nat, j < 4 → ∀ W, (Instr.index 63 (.agg #[.int .i64 (z1 : Int), .int .i64 (z2 : Int), .int .i64 (z3 : Int), .int .i64 (z4 : Int)]) (.int .i64 (j : Int))).run Try.prog W = .ok (.int .i64 ((zNat z1 z2 z3 z4 j : Nat) : Int)) W) := Lib.hid (fun j hj W => by
      match j, hj with
      | 0, _ => go_simp; rfl
      | 1, _ => go_simp; rfl
      | 2, _ => go_simp; rfl
      | 3, _ => go_simp; rfl)
    have HP5 : Hid (∀ W, Calls Try.prog 38 #[.int .i64 2, .int .u64 (n : Int)] W (Gives W (putL 2 n))) := Lib.hid (fun W => put_yes 2 n (by omega) (by omega) (by omega) W)
    have HFIN : Hid (∀ (v : Value) (W : World), BtS (w.alloc (.cells #[.int .i64 (kd : Int), .bool false, .int .i64 (z1 : Int), .int .i64 (z2 : Int), .int .i64 (z3 : Int), .int .i64 (z4 : Int), .slice A n c] 28)) v ((((((([kd, 0] ++ putL 2 z1) ++ putL 2 z2) ++ putL 2 z3) ++ putL 2 z4) ++ putL 2 n) ++ b)) W → GivesO w (bytesA ⟨(kd : Int), false, (z1 : Int), (z2 : Int), (z3 : Int), (z4 : Int), b⟩) (.returned v) W) := Lib.hid (fun v W ho => ⟨v, rfl, by
      have e : bytesA ⟨(kd : Int), false, (z1 : Int), (z2 : Int), (z3 : Int), (z4 : Int), b⟩ = ((((((([kd, 0] ++ putL 2 z1) ++ putL 2 z2) ++ putL 2 z3) ++ putL 2 z4) ++ putL 2 n) ++ b)) := by
        unfold bytesA headA put2
        dsimp only
        rw [HBL.out]
        simp [Nat.mod_eq_of_lt (show kd < 256 by omega)]
      rw [e]; exact ho.1.base (by rw [HSZ.out]; omega), HB0.out.trans (Below.mono ho.2 (by rw [HSZ.out]; omega))⟩)
    have HW0 : Hid (BtS (w.alloc (.cells #[.int .i64 (kd : Int), .bool false, .int .i64 (z1 : Int), .int .i64 (z2 : Int), .int .i64 (z3 : Int), .int .i64 (z4 : Int), .slice A n c] 28)) (.slice (some ⟨w.heap.size + 1, 0, none⟩) 2 2) [kd, 0] (((w.alloc (.cells #[.int .i64 (kd : Int), .bool false, .int .i64 (z1 : Int), .int .i64 (z2 : Int), .int .i64 (z3 : Int), .int .i64 (z4 : Int), .slice A n c] 28)).alloc (.cells #[.int .u8 (kd : Int), .int .u8 0] 5)))) := Lib.hid (by
      have e1 := HSZ.out
      have h1 := heap_alloc_new (w.alloc (.cells #[.int .i64 (kd : Int), .bool false, .int .i64 (z1 : Int), .int .i64 (z2 : Int), .int .i64 (z3 : Int), .int .i64 (z4 : Int), .slice A n c] 28)) (.cells #[.int .u8 (kd : Int), .int .u8 0] 5)
      have h2 : After (w.alloc (.cells #[.int .i64 (kd : Int), .bool false, .int .i64 (z1 : Int), .int .i64 (z2 : Int), .int .i64 (z3 : Int), .int .i64 (z4 : Int), .slice A n c] 28)) ((w.alloc (.cells #[.int .i64 (kd : Int), .bool false, .int .i64 (z1 : Int), .int .i64 (z2 : Int), .int .i64 (z3 : Int), .int .i64 (z4 : Int), .slice A n c] 28)).alloc (.cells #[.int .u8 (kd : Int), .int .u8 0] 5)) := al1 _ _
      have h5 := BtS.first (W0 := (w.alloc (.cells #[.int .i64 (kd : Int), .bool false, .int .i64 (z1 : Int), .int .i64 (z2 : Int), .int .i64 (z3 : Int), .int .i64 (z4 : Int), .slice A n c] 28))) (W := ((w.alloc (.cells #[.int .i64 (kd : Int), .bool false, .int .i64 (z1 : Int), .int .i64 (z2 : Int), .int .i64 (z3 : Int), .int .i64 (z4 : Int), .slice A n c] 28)).alloc (.cells #[.int .u8 (kd : Int), .int .u8 0] 5))) (x := kd) (y := 0) (by simp) h2 (by simpa using h1)
      rw [e1] at h5
      exact h5)
    have HQ : Hid ((w.alloc (.cells #[.int .i64 (kd : Int), .bool false, .int .i64 (z1 : Int), .int .i64 (z2 : Int), .int .i64 (z3 : Int), .int .i64 (z4 : Int), .slice A n c] 28)).heap[w.heap.size]? = some (.cells #[.int .i64 (kd : Int), .bool false, .int .i64 (z1 : Int), .int .i64 (z2 : Int), .int .i64 (z3 : Int), .int .i64 (z4 : Int), .slice A n c] 28 (0, 0))) := HX0
    have HNB := Lib.hid (numbers_any (kd : Int) false (z1 : Int) (z2 : Int) (z3 : Int) (z4 : Int) A n c)
    clear hs hA hk h1 h2 h3 h4
    go_enter Try.func26, Try.ntmps26
    go_upto_region 4 with (fail)
    generalize ((w.alloc (.cells #[.int .i64 (kd : Int), .bool false, .int .i64 (z1 : Int), .int .i64 (z2 : Int), .int .i64 (z3 : Int), .int .i64 (z4 : Int), .slice A n c] 28)).alloc (.cells #[.int .u8 (kd : Int), .int .u8 0] 5)) = w0 at *
    generalize (w.alloc (.cells #[.int .i64 (kd : Int), .bool false, .int .i64 (z1 : Int), .int .i64 (z2 : Int), .int .i64 (z3 : Int), .int .i64 (z4 : Int), .slice A n c] 28)) = W0 at *
    have g0 : w0.cell? ⟨w.heap.size, 0, none⟩ = some (.int .i64 (kd : Int)) := blk_cell (HW0.out.blk HQ.out) 0
    have g1 : w0.cell? ⟨w.heap.size, 1, none⟩ = some (.bool false) := blk_cell (HW0.out.blk HQ.out) 1
    have g2 : w0.cell? ⟨w.heap.size, 2, none⟩ = some (.int .i64 (z1 : Int)) := blk_cell (HW0.out.blk HQ.out) 2
    have g3 : w0.cell? ⟨w.heap.size, 3, none⟩ = some (.int .i64 (z2 : Int)) := blk_cell (HW0.out.blk HQ.out) 3
    have g4 : w0.cell? ⟨w.heap.size, 4, none⟩ = some (.int .i64 (z3 : Int)) := blk_cell (HW0.out.blk HQ.out) 4
    have g5 : w0.cell? ⟨w.heap.size, 5, none⟩ = some (.int .i64 (z4 : Int)) := blk_cell (HW0.out.blk HQ.out) 5
    have g6 : w0.cell? ⟨w.heap.size, 6, none⟩ = some (.slice A n c) := blk_cell (HW0.out.blk HQ.out) 6
    go_wp2_with fail
    refine (HNB.out _).mono ?_
    rintro e wn ⟨rfl, hbn⟩
    have HWN : Hid (BtS W0 (.slice (some ⟨w.heap.size + 1, 0, none⟩) 2 2) [kd, 0] wn) := Lib.hid ⟨HW0.out.1.below hbn, After.next HW0.out.2 hbn⟩
    clear hbn g0 g1 g2 g3 g4 g5 g6
    go_wp2_with fail
    go_loopw [16, 3] (fun iv v wr => BytR W0 [kd, 0] (zNat z1 z2 z3 z4) iv v wr) (fun iv _ _ => (4 - intOf iv).toNat)
    case atStart => exact ⟨0, _, rfl, rfl, by omega, HWN.out⟩
    case round =>
      obtain ⟨j, v4, rfl, rfl, hj, hw⟩ := hrel
      have HWR := Lib.hid hw
      clear hw HWN
      by_cases hlt : j < 4
      · have hi := HIX.out j hlt
        have HJ := Lib.hid (HPJ.out j)
        have hzj := HZJ.out j
        have wj : IntKind.u64.wrap ((zNat z1 z2 z3 z4 j : Nat) : Int) = ((zNat z1 z2 z3 z4 j : Nat) : Int) := wraps_u64 _ (by omega) (by omega)
        have HNX : Hid (∀ v' w', BtS W0 v' (accL [kd, 0] (zNat z1 z2 z3 z4) j ++ putL 2 (zNat z1 z2 z3 z4 j)) w' → BytR W0 [kd, 0] (zNat z1 z2 z3 z4) (.int .i64 ((j : Int) + 1)) v' w') := Lib.hid (fun v' w' h => ⟨j + 1, v', rfl, rfl, by omega, h⟩)
        have HLJ : Hid ((accL [kd, 0] (zNat z1 z2 z3 z4) j).length + 2 < 1000000000) := Lib.hid (by rw [accL_len]; simp; omega)
        generalize zNat z1 z2 z3 z4 j = zj at *
        generalize accL [kd, 0] (zNat z1 z2 z3 z4) j = l at *
        go_wp2_with fail
        refine (HJ.out _).mono ?_
        rintro e u1 ⟨A1, c1, rfl, hb1, hs1⟩
        rw [putL_len] at hs1 ⊢
        have HU1 := Lib.hid (show BtS W0 v4 l u1 from ⟨HWR.out.1.below hb1, After.next HWR.out.2 hb1⟩)
        have HS1 := Lib.hid hs1
        clear hb1 hs1
        go_upto_region 8 with (at_builtin; refine wp_apps _ rfl (.tmp 19) (.tmp 22) rfl W0.heap.size v4 l rfl HU1.out.1 u1.heap.size A1 2 c1 (putL 2 zj) rfl HS1.out (some_of HS1.out) HLJ.out HU1.out.2.size ?_; intro v1 w1 ho1 hd1; have HW1 : Hid (BtS W0 v1 (l ++ putL 2 zj) w1) := Lib.hid ⟨ho1, Below.trans HU1.out.2 hd1⟩; clear ho1 hd1)
        go_wp2
        go_roundw
        case rel => exact HNX.out _ _ HW1.out
        case measure => simp [intOf]; omega
      · obtain rfl : j = 4 := by omega
        have HW4 : Hid (BtS W0 v4 (((([kd, 0] ++ putL 2 z1) ++ putL 2 z2) ++ putL 2 z3) ++ putL 2 z4) wr) := HWR
        clear HWR
        have q4 : wr.cell? ⟨w.heap.size, 6, none⟩ = some (.slice A n c) := blk_cell (HW4.out.blk HQ.out) 6
        go_wp2_with fail
        refine (HP5.out _).mono ?_
        rintro e u5 ⟨A5, c5, rfl, hb5, hs5⟩
        rw [putL_len] at hs5 ⊢
        have HU5 : Hid (BtS W0 v4 ((((([kd, 0] ++ putL 2 z1) ++ putL 2 z2) ++ putL 2 z3) ++ putL 2 z4)) u5) := Lib.hid ⟨HW4.out.1.below hb5, After.next HW4.out.2 hb5⟩
        have HS5 := Lib.hid hs5
        have HL5 : Hid (((((([kd, 0] ++ putL 2 z1) ++ putL 2 z2) ++ putL 2 z3) ++ putL 2 z4)).length + 2 < 1000000000) := Lib.hid (by simp [putL_len])
        clear hb5 hs5
        go_upto_region 10 with (at_builtin; refine wp_apps _ rfl (.tmp 25) (.tmp 30) rfl W0.heap.size v4 ((((([kd, 0] ++ putL 2 z1) ++ putL 2 z2) ++ putL 2 z3) ++ putL 2 z4)) rfl HU5.out.1 u5.heap.size A5 2 c5 (putL 2 n) rfl HS5.out (some_of HS5.out) HL5.out HU5.out.2.size ?_; intro v5 w5 ho5 hd5; have HW5 : Hid (BtS W0 v5 (((((([kd, 0] ++ putL 2 z1) ++ putL 2 z2) ++ putL 2 z3) ++ putL 2 z4)) ++ putL 2 n) w5) := Lib.hid ⟨ho5, Below.trans HU5.out.2 hd5⟩; have q5 : w5.cell? ⟨w.heap.size, 6, none⟩ = some (.slice A n c) := blk_cell (HW5.out.blk HQ.out) 6; clear ho5 hd5)
        have HL6 : Hid ((((((([kd, 0] ++ putL 2 z1) ++ putL 2 z2) ++ putL 2 z3) ++ putL 2 z4) ++ putL 2 n)).length + n < 1000000000) := Lib.hid (by simp [putL_len]; omega)
        have HS6 : Hid (BS w5 w.heap.size A n c b) := Lib.hid (HS.out.below (HB0.out.trans (Below.mono HW5.out.2 (by rw [HSZ.out]; omega))))
        go_wp2_with (at_builtin; refine wp_apps _ rfl (.tmp 32) (.tmp 34) rfl W0.heap.size v5 (((((([kd, 0] ++ putL 2 z1) ++ putL 2 z2) ++ putL 2 z3) ++ putL 2 z4) ++ putL 2 n)) rfl HW5.out.1 w.heap.size A n c b rfl HS6.out HA.out HL6.out HW5.out.2.size ?_; intro v6 w6 ho6 hd6; have HF : Hid (GivesO w (bytesA ⟨(kd : Int), false, (z1 : Int), (z2 : Int), (z3 : Int), (z4 : Int), b⟩) (.returned v6) w6) := Lib.hid (HFIN.out _ _ ⟨ho6, Below.trans HW5.out.2 hd6⟩); clear ho6 hd6)
        go_ret
        exact HF.out
  · have HX0 := Lib.hid (heap_alloc_new w (.cells #[.int .i64 (kd : Int), .bool true, .int .i64 (z1 : Int), .int .i64 (z2 : Int), .int .i64 (z3 : Int), .int .i64 (z4 : Int), .slice A n c] 28))
    have HB0 := Lib.hid (al1 w (.cells #[.int .i64 (kd : Int), .bool true, .int .i64 (z1 : Int), .int .i64 (z2 : Int), .int .i64 (z3 : Int), .int .i64 (z4 : Int), .slice A n c] 28))
    have HSZ : Hid ((w.alloc (.cells #[.int .i64 (kd : Int), .bool true, .int .i64 (z1 : Int), .int .i64 (z2 : Int), .int .i64 (z3 : Int), .int .i64 (z4 : Int), .slice A n c] 28)).heap.size = w.heap.size + 1) := Lib.hid (by simp)
    have HS := Lib.hid hs
    have HA := Lib.hid hA
    have HBL := Lib.hid hs.len
    have wk : IntKind.u8.wrap (kd : Int) = (kd : Int) := wraps_u8 _ (by omega) (by omega)
    have wz1 : IntKind.u64.wrap (z1 : Int) = (z1 : Int) := wraps_u64 _ (by omega) (by omega)
    have wz2 : IntKind.u64.wrap (z2 : Int) = (z2 : Int) := wraps_u64 _ (by omega) (by omega)
    have wz3 : IntKind.u64.wrap (z3 : Int) = (z3 : Int) := wraps_u64 _ (by omega) (by omega)
    have wz4 : IntKind.u64.wrap (z4 : Int) = (z4 : Int) := wraps_u64 _ (by omega) (by omega)
    have wn : IntKind.u64.wrap (n : Int) = (n : Int) := wraps_u64 _ (by omega) (by omega)
    have HPJ : Hid (∀ j W, Calls Try.prog 38 #[.int .i64 2, .int .u64 ((zNat z1 z2 z3 z4 j : Nat) : Int)] W (Gives W (putL 2 (zNat z1 z2 z3 z4 j)))) := Lib.hid (fun j W => put_yes 2 _ (by omega) (by omega) (by unfold zNat; split <;> omega) W)
    have HZJ : Hid (∀ j, zNat z1 z2 z3 z4 j < 65536) := Lib.hid (fun j => by unfold zNat; split <;> omega)
    have HIX : Hid (∀ j : Nat, j < 4 → ∀ W, (Instr.index 63 (.agg #[.int .i64 (z1 : Int), .int .i64 (z2 : Int), .int .i64 (z3 : Int), .int .i64 (z4 : Int)]) (.int .i64 (j : Int))).run Try.prog W = .ok (.int .i64 ((zNat z1 z2 z3 z4 j : Nat) : Int)) W) := Lib.hid (fun j hj W => by
      match j, hj with
      | 0, _ => go_simp; rfl
      | 1, _ => go_simp; rfl
      | 2, _ => go_simp; rfl
      | 3, _ => go_simp; rfl)
    have HP5 : Hid (∀ W, Calls Try.prog 38 #[.int .i64 2, .int .u64 (n : Int)] W (Gives W (putL 2 n))) := Lib.hid (fun W => put_yes 2 n (by omega) (by omega) (by omega) W)
    have HFIN : Hid (∀ (v : Value) (W : World), BtS (w.alloc (.cells #[.int .i64 (kd : Int), .bool true, .int .i64 (z1 : Int), .int .i64 (z2 : Int), .int .i64 (z3 : Int), .int .i64 (z4 : Int), .slice A n c] 28)) v ((((((([kd, 1] ++ putL 2 z1) ++ putL 2 z2) ++ putL 2 z3) ++ putL 2 z4) ++ putL 2 n) ++ b)) W → GivesO w (bytesA ⟨(kd : Int), true, (z1 : Int), (z2 : Int), (z3 : Int), (z4 : Int), b⟩) (.returned v) W) := Lib.hid (fun v W ho => ⟨v, rfl, by
      have e : bytesA ⟨(kd : Int), true, (z1 : Int), (z2 : Int), (z3 : Int), (z4 : Int), b⟩ = ((((((([kd, 1] ++ putL 2 z1) ++ putL 2 z2) ++ putL 2 z3) ++ putL 2 z4) ++ putL 2 n) ++ b)) := by
        unfold bytesA headA put2
        dsimp only
        rw [HBL.out]
        simp [Nat.mod_eq_of_lt (show kd < 256 by omega)]
      rw [e]; exact ho.1.base (by rw [HSZ.out]; omega), HB0.out.trans (Below.mono ho.2 (by rw [HSZ.out]; omega))⟩)
    have HW0 : Hid (BtS (w.alloc (.cells #[.int .i64 (kd : Int), .bool true, .int .i64 (z1 : Int), .int .i64 (z2 : Int), .int .i64 (z3 : Int), .int .i64 (z4 : Int), .slice A n c] 28)) (.slice (some ⟨w.heap.size + 1, 0, none⟩) 2 2) [kd, 1] (((w.alloc (.cells #[.int .i64 (kd : Int), .bool true, .int .i64 (z1 : Int), .int .i64 (z2 : Int), .int .i64 (z3 : Int), .int .i64 (z4 : Int), .slice A n c] 28)).alloc (.cells #[.int .u8 (kd : Int), .int .u8 1] 5)))) := Lib.hid (by
      have e1 := HSZ.out
      have h1 := heap_alloc_new (w.alloc (.cells #[.int .i64 (kd : Int), .bool true, .int .i64 (z1 : Int), .int .i64 (z2 : Int), .int .i64 (z3 : Int), .int .i64 (z4 : Int), .slice A n c] 28)) (.cells #[.int .u8 (kd : Int), .int .u8 1] 5)
      have h2 : After (w.alloc (.cells #[.int .i64 (kd : Int), .bool true, .int .i64 (z1 : Int), .int .i64 (z2 : Int), .int .i64 (z3 : Int), .int .i64 (z4 : Int), .slice A n c] 28)) ((w.alloc (.cells #[.int .i64 (kd : Int), .bool true, .int .i64 (z1 : Int), .int .i64 (z2 : Int), .int .i64 (z3 : Int), .int .i64 (z4 : Int), .slice A n c] 28)).alloc (.cells #[.int .u8 (kd : Int), .int .u8 1] 5)) := al1 _ _
      have h5 := BtS.first (W0 := (w.alloc (.cells #[.int .i64 (kd : Int), .bool true, .int .i64 (z1 : Int), .int .i64 (z2 : Int), .int .i64 (z3 : Int), .int .i64 (z4 : Int), .slice A n c] 28))) (W := ((w.alloc (.cells #[.int .i64 (kd : Int), .bool true, .int .i64 (z1 : Int), .int .i64 (z2 : Int), .int .i64 (z3 : Int), .int .i64 (z4 : Int), .slice A n c] 28)).alloc (.cells #[.int .u8 (kd : Int), .int .u8 1] 5))) (x := kd) (y := 1) (by simp) h2 (by simpa using h1)
      rw [e1] at h5
      exact h5)
    have HQ : Hid ((w.alloc (.cells #[.int .i64 (kd : Int), .bool true, .int .i64 (z1 : Int), .int .i64 (z2 : Int), .int .i64 (z3 : Int), .int .i64 (z4 : Int), .slice A n c] 28)).heap[w.heap.size]? = some (.cells #[.int .i64 (kd : Int), .bool true, .int .i64 (z1 : Int), .int .i64 (z2 : Int), .int .i64 (z3 : Int), .int .i64 (z4 : Int), .slice A n c] 28 (0, 0))) := HX0
    have HNB := Lib.hid (numbers_any (kd : Int) true (z1 : Int) (z2 : Int) (z3 : Int) (z4 : Int) A n c)
    clear hs hA hk h1 h2 h3 h4
    go_enter Try.func26, Try.ntmps26
    go_upto_region 4 with (fail)
    generalize ((w.alloc (.cells #[.int .i64 (kd : Int), .bool true, .int .i64 (z1 : Int), .int .i64 (z2 : Int), .int .i64 (z3 : Int), .int .i64 (z4 : Int), .slice A n c] 28)).alloc (.cells #[.int .u8 (kd : Int), .int .u8 1] 5)) = w0 at *
    generalize (w.alloc (.cells #[.int .i64 (kd : Int), .bool true, .int .i64 (z1 : Int), .int .i64 (z2 : Int), .int .i64 (z3 : Int), .int .i64 (z4 : Int), .slice A n c] 28)) = W0 at *
    have g0 : w0.cell? ⟨w.heap.size, 0, none⟩ = some (.int .i64 (kd : Int)) := blk_cell (HW0.out.blk HQ.out) 0
    have g1 : w0.cell? ⟨w.heap.size, 1, none⟩ = some (.bool true) := blk_cell (HW0.out.blk HQ.out) 1
    have g2 : w0.cell? ⟨w.heap.size, 2, none⟩ = some (.int .i64 (z1 : Int)) := blk_cell (HW0.out.blk HQ.out) 2
    have g3 : w0.cell? ⟨w.heap.size, 3, none⟩ = some (.int .i64 (z2 : Int)) := blk_cell (HW0.out.blk HQ.out) 3
    have g4 : w0.cell? ⟨w.heap.size, 4, none⟩ = some (.int .i64 (z3 : Int)) := blk_cell (HW0.out.blk HQ.out) 4
    have g5 : w0.cell? ⟨w.heap.size, 5, none⟩ = some (.int .i64 (z4 : Int)) := blk_cell (HW0.out.blk HQ.out) 5
    have g6 : w0.cell? ⟨w.heap.size, 6, none⟩ = some (.slice A n c) := blk_cell (HW0.out.blk HQ.out) 6
    go_wp2_with fail
    refine (HNB.out _).mono ?_
    rintro e wn ⟨rfl, hbn⟩
    have HWN : Hid (BtS W0 (.slice (some ⟨w.heap.size + 1, 0, none⟩) 2 2) [kd, 1] wn) := Lib.hid ⟨HW0.out.1.below hbn, After.next HW0.out.2 hbn⟩
    clear hbn g0 g1 g2 g3 g4 g5 g6
    go_wp2_with fail
    go_loopw [16, 3] (fun iv v wr => BytR W0 [kd, 1] (zNat z1 z2 z3 z4) iv v wr) (fun iv _ _ => (4 - intOf iv).toNat)
    case atStart => exact ⟨0, _, rfl, rfl, by omega, HWN.out⟩
    case round =>
      obtain ⟨j, v4, rfl, rfl, hj, hw⟩ := hrel
      have HWR := Lib.hid hw
      clear hw HWN
      by_cases hlt : j < 4
      · have hi := HIX.out j hlt
        have HJ := Lib.hid (HPJ.out j)
        have hzj := HZJ.out j
        have wj : IntKind.u64.wrap ((zNat z1 z2 z3 z4 j : Nat) : Int) = ((zNat z1 z2 z3 z4 j : Nat) : Int) := wraps_u64 _ (by omega) (by omega)
        have HNX : Hid (∀ v' w', BtS W0 v' (accL [kd, 1] (zNat z1 z2 z3 z4) j ++ putL 2 (zNat z1 z2 z3 z4 j)) w' → BytR W0 [kd, 1] (zNat z1 z2 z3 z4) (.int .i64 ((j : Int) + 1)) v' w') := Lib.hid (fun v' w' h => ⟨j + 1, v', rfl, rfl, by omega, h⟩)
        have HLJ : Hid ((accL [kd, 1] (zNat z1 z2 z3 z4) j).length + 2 < 1000000000) := Lib.hid (by rw [accL_len]; simp; omega)
        generalize zNat z1 z2 z3 z4 j = zj at *
        generalize accL [kd, 1] (zNat z1 z2 z3 z4) j = l at *
        go_wp2_with fail
        refine (HJ.out _).mono ?_
        rintro e u1 ⟨A1, c1, rfl, hb1, hs1⟩
        rw [putL_len] at hs1 ⊢
        have HU1 := Lib.hid (show BtS W0 v4 l u1 from ⟨HWR.out.1.below hb1, After.next HWR.out.2 hb1⟩)
        have HS1 := Lib.hid hs1
        clear hb1 hs1
        go_upto_region 8 with (at_builtin; refine wp_apps _ rfl (.tmp 19) (.tmp 22) rfl W0.heap.size v4 l rfl HU1.out.1 u1.heap.size A1 2 c1 (putL 2 zj) rfl HS1.out (some_of HS1.out) HLJ.out HU1.out.2.size ?_; intro v1 w1 ho1 hd1; have HW1 : Hid (BtS W0 v1 (l ++ putL 2 zj) w1) := Lib.hid ⟨ho1, Below.trans HU1.out.2 hd1⟩; clear ho1 hd1)
        go_wp2
        go_roundw
        case rel => exact HNX.out _ _ HW1.out
        case measure => simp [intOf]; omega
      · obtain rfl : j = 4 := by omega
        have HW4 : Hid (BtS W0 v4 (((([kd, 1] ++ putL 2 z1) ++ putL 2 z2) ++ putL 2 z3) ++ putL 2 z4) wr) := HWR
        clear HWR
        have q4 : wr.cell? ⟨w.heap.size, 6, none⟩ = some (.slice A n c) := blk_cell (HW4.out.blk HQ.out) 6
        go_wp2_with fail
        refine (HP5.out _).mono ?_
        rintro e u5 ⟨A5, c5, rfl, hb5, hs5⟩
        rw [putL_len] at hs5 ⊢
        have HU5 : Hid (BtS W0 v4 ((((([kd, 1] ++ putL 2 z1) ++ putL 2 z2) ++ putL 2 z3) ++ putL 2 z4)) u5) := Lib.hid ⟨HW4.out.1.below hb5, After.next HW4.out.2 hb5⟩
        have HS5 := Lib.hid hs5
        have HL5 : Hid (((((([kd, 1] ++ putL 2 z1) ++ putL 2 z2) ++ putL 2 z3) ++ putL 2 z4)).length + 2 < 1000000000) := Lib.hid (by simp [putL_len])
        clear hb5 hs5
        go_upto_region 10 with (at_builtin; refine wp_apps _ rfl (.tmp 25) (.tmp 30) rfl W0.heap.size v4 ((((([kd, 1] ++ putL 2 z1) ++ putL 2 z2) ++ putL 2 z3) ++ putL 2 z4)) rfl HU5.out.1 u5.heap.size A5 2 c5 (putL 2 n) rfl HS5.out (some_of HS5.out) HL5.out HU5.out.2.size ?_; intro v5 w5 ho5 hd5; have HW5 : Hid (BtS W0 v5 (((((([kd, 1] ++ putL 2 z1) ++ putL 2 z2) ++ putL 2 z3) ++ putL 2 z4)) ++ putL 2 n) w5) := Lib.hid ⟨ho5, Below.trans HU5.out.2 hd5⟩; have q5 : w5.cell? ⟨w.heap.size, 6, none⟩ = some (.slice A n c) := blk_cell (HW5.out.blk HQ.out) 6; clear ho5 hd5)
        have HL6 : Hid ((((((([kd, 1] ++ putL 2 z1) ++ putL 2 z2) ++ putL 2 z3) ++ putL 2 z4) ++ putL 2 n)).length + n < 1000000000) := Lib.hid (by simp [putL_len]; omega)
        have HS6 : Hid (BS w5 w.heap.size A n c b) := Lib.hid (HS.out.below (HB0.out.trans (Below.mono HW5.out.2 (by rw [HSZ.out]; omega))))
        go_wp2_with (at_builtin; refine wp_apps _ rfl (.tmp 32) (.tmp 34) rfl W0.heap.size v5 (((((([kd, 1] ++ putL 2 z1) ++ putL 2 z2) ++ putL 2 z3) ++ putL 2 z4) ++ putL 2 n)) rfl HW5.out.1 w.heap.size A n c b rfl HS6.out HA.out HL6.out HW5.out.2.size ?_; intro v6 w6 ho6 hd6; have HF : Hid (GivesO w (bytesA ⟨(kd : Int), true, (z1 : Int), (z2 : Int), (z3 : Int), (z4 : Int), b⟩) (.returned v6) w6) := Lib.hid (HFIN.out _ _ ⟨ho6, Below.trans HW5.out.2 hd6⟩); clear ho6 hd6)
        go_ret
        exact HF.out
theorem fits_of {a : Ac} (h : mayA a = true) : ∃ kd w k n p : Nat, kd < 20 ∧ w < 65536 ∧ k < 65536 ∧ n < 65536 ∧ p < 65536 ∧ a.b.length ≤ 1024 ∧ a = ⟨(kd : Int), a.yes, (w : Int), (k : Int), (n : Int), (p : Int), a.b⟩ := by
  obtain ⟨kd, w, k, n, p, q0, q1, q2, q3, q4, q5, e0, e1, e2, e3, e4⟩ := mayA_nat h
  exact ⟨kd, w, k, n, p, q0, q1, q2, q3, q4, q5, Ac.ext' e0 rfl e1 e2 e3 e4 rfl⟩
theorem rbytes_any (a : Ac) (A : Option Addr) (n c : Nat) (h : mayA a = true) (hA : A = none → c = 0) (w : World) (hs : BS w w.heap.size A n c a.b) : Calls Try.prog 11 #[.agg #[.int .i64 a.kind, .bool a.yes, .int .i64 a.which, .int .i64 a.k, .int .i64 a.n, .int .i64 a.pos, .slice A n c]] w (GivesO w (bytesA a)) := by
  obtain ⟨kd, w1, k, n1, p, q0, q1, q2, q3, q4, q5, e⟩ := fits_of h
  obtain ⟨K, y, z1, z2, z3, z4, b⟩ := a
  injection e with e0 _ e1 e2 e3 e4 _
  subst e0 e1 e2 e3 e4
  exact rbytes_in kd w1 k n1 p y A n c b q0 q1 q2 q3 q4 (by rw [← hs.len]; exact q5) hA w hs
theorem pbytes_any (a : Ac) (A : Option Addr) (n c : Nat) (h : mayA a = true) (hA : A = none → c = 0) (w : World) (hs : BS w w.heap.size A n c a.b) : Calls Try.prog 26 #[.agg #[.int .i64 a.kind, .bool a.yes, .int .i64 a.which, .int .i64 a.k, .int .i64 a.n, .int .i64 a.pos, .slice A n c]] w (GivesO w (bytesA a)) := by
  obtain ⟨kd, w1, k, n1, p, q0, q1, q2, q3, q4, q5, e⟩ := fits_of h
  obtain ⟨K, y, z1, z2, z3, z4, b⟩ := a
  injection e with e0 _ e1 e2 e3 e4 _
  subst e0 e1 e2 e3 e4
  exact pbytes_in kd w1 k n1 p y A n c b q0 q1 q2 q3 q4 (by rw [← hs.len]; exact q5) hA w hs
end Go.Proofs.Ytkgmggjlnibgmaa
