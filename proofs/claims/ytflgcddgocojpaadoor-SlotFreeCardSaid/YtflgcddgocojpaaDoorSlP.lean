/-
  Layer 18, the document's: Page.
-/
import Derived.Test.YtflgcddgocojpaaDoorSlO
namespace Go.Proofs.YtflgcddgocojpaaDoor
open Go.RowKit Go
set_option linter.unusedVariables false
set_option linter.unusedSimpArgs false
set_option maxHeartbeats 1000000

def GivesL (w : World) (l : List Nat) (n : Nat) (e : Ending) (w' : World) : Prop := ∃ A c, e = .returned (.slice A n c) ∧ Below w.heap.size w w' ∧ BS w' w'.heap.size A n c l ∧ (A = none → c = 0)
theorem GivesL.of {w w' : World} {l l' : List Nat} {n : Nat} {e : Ending} (h : Gives w l e w') (hl : l = l') (hn : l'.length = n) (h0 : 0 < n) : GivesL w l' n e w' := by
  subst hl hn
  obtain ⟨A, c, h1, h2, h3⟩ := h
  exact ⟨A, c, h1, h2, h3, fun e => by obtain ⟨b, o, e2, _⟩ := h3.at_ h0; rw [e] at e2; cases e2⟩
theorem put_l (n v : Nat) (h1 : 1 ≤ n) (h8 : n ≤ 8) (hv : v < 2 ^ 64) (w : World) : Calls Tryd.prog 41 #[.int .i64 (n : Int), .int .u64 (v : Int)] w (GivesL w (putL n v) n) := by
  refine (refPut_any (n : Int) v hv w).mono fun e w' h => GivesL.of h ?_ (putL_len _ _) (by omega)
  unfold putI; rw [if_pos (by omega)]; rfl
theorem pad_l (A : Option Addr) (m c n : Nat) (l : List Nat) (w : World) (hs : BS w w.heap.size A m c l) (hm : m ≤ 1000) (h1 : 1 ≤ n) (h2 : n ≤ 65536) :
    Calls Tryd.prog 25 #[.slice A m c, .int .i64 (n : Int)] w (GivesL w (padL l n) n) := by
  refine (refPad_any A m c (n : Int) l w hs hm).mono fun e w' h => GivesL.of h ?_ (padL_len _ _) (by omega)
  unfold padI; rw [if_pos (by omega)]; rfl
theorem flat_take (z : Nat) (l : List Ob) (k : Nat) (hk : k < l.length) : (l.take (k + 1)).flatMap (encO z) = (l.take k).flatMap (encO z) ++ encO z (oAt l k) := by
  rw [List.take_add_one, List.getElem?_eq_getElem hk, Option.toList_some, List.flatMap_append, List.flatMap_cons, List.flatMap_nil, List.append_nil]
  congr 2
  unfold oAt
  rw [List.getD_eq_getElem?_getD, List.getElem?_eq_getElem hk]; rfl
theorem flat_len (z : Nat) (l : List Ob) : (l.flatMap (encO z)).length = l.length * z := by
  induction l with
  | nil => simp
  | cons o l ih => rw [List.flatMap_cons, List.length_append, encO_len, ih, List.length_cons, Nat.add_mul, Nat.one_mul, Nat.add_comm]
theorem flat_byte {z : Nat} {l : List Ob} (h : ∀ k i, (oAt l k).2.getD i 0 < 256) (i : Nat) : (l.flatMap (encO z)).getD i 0 < 256 := by
  by_cases hz : 0 < z
  · rw [flat_at z hz]; split
    · exact encO_byte (h _) _
    · omega
  · rw [out_at _ (by rw [flat_len, show z = 0 by omega]; omega)]; omega
def PaR (w : World) (z : Nat) (l : List Ob) (pv iv : Value) (wr : World) : Prop := ∃ (j : Nat) (v : Value), iv = .int .i64 (j : Int) ∧ v = pv ∧ j ≤ l.length ∧ Own wr w.heap.size v ((l.take j).flatMap (encO z)) ∧ Below w.heap.size w wr
theorem page18_any (k : Nat) (A : Option Addr) (n c : Nat) (l : List Ob) (w : World) (hS : SZ w) (hk : k < 8) (hv : ObV w A n l) (hn : n * clZ k ≤ 256) (hb9 : ∀ i, (oAt l i).2.length ≤ 900) (hs64 : ∀ i, (oAt l i).1 < 2 ^ 64) :
    Calls Tryd.prog 23 #[.slice A n c, .int .i64 (k : Int)] w (GivesL w (pageO (clZ k) l) 256) := by
  obtain ⟨z1, z2, -, -, -, z6⟩ := cl_fits k hk
  have hl := hv.1
  have hn16 : n ≤ 16 := by
    have h1 : n * 16 ≤ n * clZ k := Nat.mul_le_mul_left n z1
    omega
  have HV := Lib.hid hv
  have HSZ := Lib.hid (fun W (h : Below w.heap.size w W) => rsize_n k hk W (hS.below h))
  have HP0 := Lib.hid (fun W (m : Nat) (hm : m ≤ 900) => put_l 2 m (by omega) (by omega) (by omega) W)
  have HP1 := Lib.hid (fun W (s : Nat) (hs : s < 2 ^ 64) => put_l 6 s (by omega) (by omega) hs W)
  have HB := Lib.hid hv.byte
  have HB9 := Lib.hid hb9
  have HS6 := Lib.hid hs64
  have HST : Hid (PaR w (clZ k) l (.slice none 0 0) (.int .i64 0) w) := Lib.hid ⟨0, _, rfl, rfl, by omega, Own.nil _ _, Below.refl _ _⟩
  rw [z6] at z1 z2 hn HST ⊢
  generalize szN k = zz at *
  have hwz : IntKind.i64.wrap ((zz : Int) + 8) = ((zz + 8 : Nat) : Int) := by rw [IntWalk.i64_in _ (by omega)]; rfl
  clear hv hS hb9 hs64 z6
  go_enter Tryd.func23, Tryd.ntmps23
  go_wp2_with fail
  go_loopw [5, 11] (fun pv iv wr => PaR w (zz + 8) l pv iv wr) (fun _ iv _ => (n - intOf iv).toNat)
  case atStart => exact HST.out
  case round =>
    clear HST
    obtain ⟨j, v, rfl, rfl, hj, ho, hb⟩ := hrel
    have HBW := Lib.hid hb
    have HO := Lib.hid ho
    clear hb ho
    by_cases hlt : j < n
    · have HNX : Hid (∀ v' w', Own w' w.heap.size v' ((l.take j).flatMap (encO (zz + 8)) ++ encO (zz + 8) (oAt l j)) → Below w.heap.size w w' → PaR w (zz + 8) l v' (.int .i64 ((j : Int) + 1)) w') := Lib.hid (fun v' w' h1 h2 => ⟨j + 1, v', rfl, rfl, by omega, by rw [flat_take _ _ _ (by omega)]; exact h1, h2⟩)
      have HFL : Hid (((l.take j).flatMap (encO (zz + 8))).length + (zz + 8) < 1000000000) := Lib.hid (by
        rw [flat_len, List.length_take]
        have : min j l.length * (zz + 8) ≤ 16 * 128 := Nat.mul_le_mul (by omega) (by omega)
        omega)
      obtain ⟨b, o, A1, c1, rfl, hb0, q0, q1, q2, q3⟩ := HV.out.at_ hlt
      have p0 : wr.cell? ⟨b, o + j * 2, none⟩ = some (.int .u64 (((oAt l j).1 : Nat) : Int)) := (HBW.out.cell (p := ⟨b, o + j * 2, none⟩) hb0).trans q0
      have p1 : wr.cell? ⟨b, o + j * 2 + 1, none⟩ = some (.slice A1 (oAt l j).2.length c1) := (HBW.out.cell (p := ⟨b, o + j * 2 + 1, none⟩) hb0).trans q1
      have hlt1 : b < wr.heap.size := Nat.lt_of_lt_of_le hb0 HBW.out.size
      have HBB := Lib.hid (q2.below HBW.out)
      have HZ1 := Lib.hid q3
      have hb9 := HB9.out j
      have hs6 := HS6.out j
      have HBY := Lib.hid (HB.out j)
      have HEN : Hid (encO (zz + 8) (oAt l j) = padL (rowO (oAt l j)) (zz + 8)) := Lib.hid rfl
      have HEB : Hid (∀ i, (encO (zz + 8) (oAt l j)).getD i 0 < 256) := Lib.hid (encO_byte (HB.out j))
      clear q0 q1 q2 q3 hb0
      generalize (l.take j).flatMap (encO (zz + 8)) = pre at *
      generalize oAt l j = oo at *
      obtain ⟨s, d⟩ := oo
      dsimp only at *
      generalize hen : encO (zz + 8) (s, d) = en at *
      generalize hm : d.length = m at *
      have HM := Lib.hid hm
      clear hm hen
      have HB5 : Hid (Below w.heap.size w (wr.alloc (.cells #[.int .u64 (s : Int), .slice A1 m c1] 55))) := Lib.hid (HBW.out.alloc HBW.out.size _)
      have HO5 : Hid (Own (wr.alloc (.cells #[.int .u64 (s : Int), .slice A1 m c1] 55)) w.heap.size v pre) := Lib.hid (HO.out.alloc _)
      have HBX : Hid ((wr.alloc (.cells #[.int .u64 (s : Int), .slice A1 m c1] 55)).heap[wr.heap.size]? = some (.cells #[.int .u64 (s : Int), .slice A1 m c1] 55 (0, 0))) := Lib.hid (heap_alloc_new _ _)
      have HXX : Hid (wr.heap.size < (wr.alloc (.cells #[.int .u64 (s : Int), .slice A1 m c1] 55)).heap.size) := Lib.hid (by simp)
      have HD5 : Hid (BS (wr.alloc (.cells #[.int .u64 (s : Int), .slice A1 m c1] 55)) w.heap.size A1 m c1 d) := Lib.hid (HBB.out.below ((Below.refl wr.heap.size wr).alloc (Nat.le_refl _) _ |>.mono (by have := HBW.out.size; omega)))
      by_cases hs0 : s = 0
      · subst hs0
        have HROW : Hid (en = padL [] (zz + 8)) := Lib.hid (by rw [HEN.out]; unfold rowO; rw [if_pos rfl])
        have HPD := Lib.hid (fun W => pad_l none 0 0 (zz + 8) [] W (BS.nil _ _) (by omega) (by omega) (by omega))
        rw [← HROW.out] at HPD
        go_wp2_with fail
        refine (HSZ.out _ HB5.out).mono ?_
        rintro e w1 ⟨rfl, rfl⟩
        go_wp2_with fail
        refine (HPD.out _).mono ?_
        rintro e w2 ⟨A2, c2, rfl, hb2, hs2, hz2⟩
        have HB6 := Lib.hid (HB5.out.trans (hb2.mono HB5.out.size))
        have HO6 := Lib.hid (HO5.out.below hb2)
        have HS6' := Lib.hid hs2
        have HZ6 := Lib.hid hz2
        clear hb2 hs2 hz2
        go_wp2_with (at_builtin; refine wp_apps w2 rfl (.tmp 34) (.tmp 39) rfl w.heap.size v pre rfl HO6.out w2.heap.size A2 (zz + 8) c2 en rfl HS6'.out HZ6.out HFL.out HB6.out.size ?_; intro v9 w9 ho9 hb9; have HF : Hid (PaR w (zz + 8) l v9 (.int .i64 ((j : Int) + 1)) w9) := Lib.hid (HNX.out v9 w9 ho9 (HB6.out.trans hb9)); clear ho9 hb9)
        go_roundw
        case rel => exact HF.out
        case measure => simp [intOf]; omega
      · -- SNZ
        have HROW : Hid (en = padL (putL 2 m ++ (putL 6 s ++ d)) (zz + 8)) := Lib.hid (by rw [HEN.out]; unfold rowO; rw [if_neg hs0, HM.out])
        have hwm : IntKind.u64.wrap (m : Int) = (m : Int) := IntWalk.u64_in _ (by omega)
        have hs1 : (0 : Int) < (s : Int) := by omega
        have HP0' := Lib.hid (fun W => HP0.out W m hb9)
        have HP1' := Lib.hid (fun W => HP1.out W s hs6)
        have HDM := HM.out
        have HLA : Hid (([] : List Nat).length + 2 < 1000000000) := Lib.hid (by simp)
        have HLB : Hid (([] ++ putL 2 m : List Nat).length + 6 < 1000000000) := Lib.hid (by simp [putL_len])
        have HLC : Hid ((([] ++ putL 2 m) ++ putL 6 s : List Nat).length + m < 1000000000) := Lib.hid (by simp [putL_len]; omega)
        have HBYT : Hid (∀ i, (((([] ++ putL 2 m) ++ putL 6 s) ++ d : List Nat)).getD i 0 < 256) := Lib.hid (by
          rw [List.nil_append, List.append_assoc]
          intro i; rw [app_at]; split
          · exact putL_byte _ _ _
          · rw [app_at]; split
            · exact putL_byte _ _ _
            · exact HBY.out _)
        have HTL : Hid ((((([] ++ putL 2 m) ++ putL 6 s) ++ d : List Nat)).length ≤ 1000) := Lib.hid (by simp [putL_len]; omega)
        clear HDM
        go_wp2_with fail
        refine (HP0'.out _).mono ?_
        rintro e w6 ⟨A6, c6, rfl, hb6, hs6', hz6⟩
        have HB6 := Lib.hid hb6
        have HS6' := Lib.hid hs6'
        have HZ6 := Lib.hid hz6
        clear hb6 hs6' hz6
        have HON : Hid (Own w6 (wr.alloc (.cells #[.int .u64 (s : Int), .slice A1 m c1] 55)).heap.size (.slice none 0 0) []) := Lib.hid (Own.nil _ _)
        go_upto_region 8 with (at_builtin; refine wp_apps w6 rfl (.tmp 18) (.tmp 23) rfl (wr.alloc (.cells #[.int .u64 (s : Int), .slice A1 m c1] 55)).heap.size (.slice none 0 0) [] rfl HON.out w6.heap.size A6 2 c6 (putL 2 m) rfl HS6'.out HZ6.out HLA.out HB6.out.size ?_; intro v7 w7 ho7 hb7; have HB7 := Lib.hid (HB6.out.trans hb7); have HO7 := Lib.hid ho7; have x0 : w7.cell? ⟨wr.heap.size, 0, none⟩ = some (.int .u64 (s : Int)) := (HB7.out.cell (p := ⟨wr.heap.size, 0, none⟩) HXX.out).trans (blk_cell HBX.out 0); have x1 : w7.cell? ⟨wr.heap.size, 1, none⟩ = some (.slice A1 m c1) := (HB7.out.cell (p := ⟨wr.heap.size, 1, none⟩) HXX.out).trans (blk_cell HBX.out 1); clear ho7 hb7)
        go_wp2_with fail
        refine (HP1'.out _).mono ?_
        rintro e w8 ⟨A8, c8, rfl, hb8, hs8, hz8⟩
        have HB8 := Lib.hid (HB7.out.trans (hb8.mono HB7.out.size))
        have HS8 := Lib.hid hs8
        have HZ8 := Lib.hid hz8
        have HO8 := Lib.hid (HO7.out.below hb8)
        clear hb8 hs8 hz8 x0 x1
        go_upto_region 9 with (at_builtin; refine wp_apps w8 rfl (.tmp 25) (.tmp 28) rfl (wr.alloc (.cells #[.int .u64 (s : Int), .slice A1 m c1] 55)).heap.size v7 ([] ++ putL 2 m) rfl HO8.out w8.heap.size A8 6 c8 (putL 6 s) rfl HS8.out HZ8.out HLB.out HB8.out.size ?_; intro v9 w9 ho9 hb9'; have HB9' := Lib.hid (HB8.out.trans hb9'); have HO9 := Lib.hid ho9; have x0 : w9.cell? ⟨wr.heap.size, 0, none⟩ = some (.int .u64 (s : Int)) := (HB9'.out.cell (p := ⟨wr.heap.size, 0, none⟩) HXX.out).trans (blk_cell HBX.out 0); have x1 : w9.cell? ⟨wr.heap.size, 1, none⟩ = some (.slice A1 m c1) := (HB9'.out.cell (p := ⟨wr.heap.size, 1, none⟩) HXX.out).trans (blk_cell HBX.out 1); clear ho9 hb9')
        have HSD := Lib.hid ((HD5.out.more (show w.heap.size ≤ (wr.alloc (.cells #[.int .u64 (s : Int), .slice A1 m c1] 55)).heap.size from HB5.out.size)).below HB9'.out)
        go_upto_region 10 with (at_builtin; refine wp_apps w9 rfl (.tmp 30) (.tmp 32) rfl (wr.alloc (.cells #[.int .u64 (s : Int), .slice A1 m c1] 55)).heap.size v9 (([] ++ putL 2 m) ++ putL 6 s) rfl HO9.out (wr.alloc (.cells #[.int .u64 (s : Int), .slice A1 m c1] 55)).heap.size A1 m c1 d rfl HSD.out HZ1.out HLC.out HB9'.out.size ?_; intro v10 w10 ho10 hb10; have HB10 := Lib.hid (HB9'.out.trans hb10); have HO10 := Lib.hid ho10; clear ho10 hb10)
        clear x0 x1
        obtain ⟨AA, cA, hAA, hBA⟩ := HO10.out.bs HBYT.out
        have HPD := Lib.hid (pad_l AA _ cA (zz + 8) _ w10 hBA HTL.out (by omega) (by omega))
        rw [List.nil_append, List.append_assoc] at HPD
        rw [← HROW.out] at HPD
        rw [List.nil_append, List.append_assoc] at hAA
        subst hAA
        have HBA := Lib.hid (HB5.out.trans (HB10.out.mono HB5.out.size))
        have HOA := Lib.hid (HO5.out.below HB10.out)
        clear hBA
        generalize (putL 2 m ++ (putL 6 s ++ d)).length = nn at *
        go_wp2_with fail
        refine (HSZ.out _ HBA.out).mono ?_
        rintro e w1 ⟨rfl, rfl⟩
        go_wp2_with fail
        refine HPD.out.mono ?_
        rintro e w2 ⟨A2, c2, rfl, hb2, hs2, hz2⟩
        have HB6 := Lib.hid (HBA.out.trans (hb2.mono HBA.out.size))
        have HO6 := Lib.hid (HOA.out.below hb2)
        have HS6' := Lib.hid hs2
        have HZ6 := Lib.hid hz2
        clear hb2 hs2 hz2
        go_wp2_with (at_builtin; refine wp_apps w2 rfl (.tmp 34) (.tmp 39) rfl w.heap.size v pre rfl HO6.out w2.heap.size A2 (zz + 8) c2 en rfl HS6'.out HZ6.out HFL.out HB6.out.size ?_; intro v9 w9 ho9 hb9; have HF : Hid (PaR w (zz + 8) l v9 (.int .i64 ((j : Int) + 1)) w9) := Lib.hid (HNX.out v9 w9 ho9 (HB6.out.trans hb9)); clear ho9 hb9)
        go_roundw
        case rel => exact HF.out
        case measure => simp [intOf]; omega
    · obtain rfl : j = n := by omega
      have HFLB : Hid (∀ i, (l.flatMap (encO (zz + 8))).getD i 0 < 256) := Lib.hid (flat_byte HB.out)
      have hfl : (l.flatMap (encO (zz + 8))).length ≤ 256 := by rw [flat_len, hl]; exact hn
      rw [List.take_of_length_le (by omega)] at HO
      obtain ⟨AA, cA, hAA, hBA⟩ := HO.out.bs HFLB.out
      have HPD := Lib.hid (pad_l AA _ cA 256 _ wr hBA (by omega) (by omega) (by omega))
      subst hAA
      have HPG : Hid (padL (l.flatMap (encO (zz + 8))) 256 = pageO (zz + 8) l) := Lib.hid rfl
      rw [HPG.out] at HPD
      clear hBA hfl HPG HFLB
      generalize pageO (zz + 8) l = pg at *
      generalize (l.flatMap (encO (zz + 8))).length = nn at *
      go_wp2_with fail
      refine HPD.out.mono ?_
      rintro e w2 ⟨A2, c2, rfl, hb2, hs2, hz2⟩
      have HF : Hid (GivesL w pg 256 (.returned (.slice A2 256 c2)) w2) := Lib.hid ⟨_, _, rfl, HBW.out.trans (hb2.mono HBW.out.size), hs2, hz2⟩
      clear hb2 hs2 hz2
      go_wp2_with fail
      go_ret
      exact HF.out
end Go.Proofs.YtflgcddgocojpaaDoor
