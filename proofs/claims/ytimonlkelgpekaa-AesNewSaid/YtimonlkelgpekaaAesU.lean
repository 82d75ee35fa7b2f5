/-
  Keys that are refused; ciphers that are not there. AesNew's walk.
-/
import Derived.Test.YtimonlkelgpekaaAesS
namespace Go.Proofs.Ytimonlkelgpekaa
open Go.RowKit Go
set_option linter.unusedVariables false
set_option linter.unusedSimpArgs false
attribute [local irreducible] Gf.inv Gf.tm Gf.pw Gf.spread Gf.sub Gf.boxAt Gf.bk Gf.rm Gf.bit
def zr4 : List Nat := [0, 0, 0, 0]
theorem built16 : Try.prog.built 22 [] = some (rowV (bF z16) 16) := by kernel_rfl
theorem built4 : Try.prog.built 36 [] = some (rowV (bF zr4) 4) := by kernel_rfl
theorem zero4' (w : World) : (zeroValue 36).run Try.prog w = .ok (.agg (rowV (bF zr4) 4)) w := by kernel_rfl
theorem info4' (l : List Nat) : (Try.prog.info? 36).map (·.size) = some (rowV (bF l) 4).size := by rw [rowV_size]; kernel_rfl
theorem new_nobox (A : Option Addr) (n c : Nat) (w : World) : Calls Try.prog 12 #[.pointer none, .slice A n c] w fun e w' => e = .returned (.tuple #[.pointer none, .int .i64 2]) ∧ w = w' := by
  go_enter Try.func12, Try.ntmps12
  go_wp2
  go_ret2
  exact ⟨rfl, rfl⟩
theorem new_bad (g : Nat) (A : Option Addr) (n c : Nat) (h16 : n ≠ 16) (h32 : n ≠ 32) (w : World) : Calls Try.prog 12 #[.pointer (some ⟨g, 0, none⟩), .slice A n c] w fun e w' => e = .returned (.tuple #[.pointer none, .int .i64 1]) ∧ w = w' := by
  have h1 : ((n : Int) == 16) = false := by rw [beq_eq_false_iff_ne]; omega
  have h2 : ((n : Int) == 32) = false := by rw [beq_eq_false_iff_ne]; omega
  have h3 : ((n : Int) != 16) = true := by rw [bne_iff_ne]; omega
  have h4 : ((n : Int) != 32) = true := by rw [bne_iff_ne]; omega
  have h5 : ¬ (n : Int) = 16 := by omega
  have h6 : ¬ (n : Int) = 32 := by omega
  go_enter Try.func12, Try.ntmps12
  go_wp2
  go_ret2
  exact ⟨rfl, rfl⟩
theorem rounds_nil (w : World) : Calls Try.prog 20 #[.pointer none] w fun e w' => e = .returned (.int .i64 0) ∧ w = w' := by
  go_enter Try.func20, Try.ntmps20
  go_wp2
  go_ret
  exact ⟨rfl, rfl⟩
theorem none_nil5 (w : World) : Calls Try.prog 29 #[.pointer none] w fun e w' => e = .returned (.bool true) ∧ w = w' := by
  go_enter Try.func29, Try.ntmps29
  go_wp2_with fail
  refine (rounds_nil _).mono ?_
  rintro e w' ⟨rfl, rfl⟩
  go_wp2
  go_ret
  exact ⟨rfl, rfl⟩
set_option maxHeartbeats 1000000 in
set_option maxRecDepth 100000 in
theorem enc_nil5 (P : Array Value) (w : World) : Calls Try.prog 14 #[.pointer none, .agg P] w fun e w' => e = .returned (.agg (rowV (bF z16) 16)) ∧ Below w.heap.size w w' := by
  have hz := zero16
  have e1 : (w.alloc (.cells P 22)).heap.size = w.heap.size + 1 := by simp
  have ho1 := heap_alloc_new (w.alloc (.cells P 22)) (.cells (rowV (bF z16) 16) 22)
  rw [e1] at ho1
  have hb0 : Below w.heap.size w ((w.alloc (.cells P 22)).alloc (.cells (rowV (bF z16) 16) 22)) := ((Below.refl _ _).alloc (Nat.le_refl _) _).alloc (by rw [e1]; omega) _
  obtain ⟨z, hzz⟩ : ∃ z, z = rowV (bF z16) 16 := ⟨_, rfl⟩
  have HB := Lib.hid built16
  have HI := Lib.hid (info16 z16)
  have HON := Lib.hid (one_row z16 16)
  rw [← hzz] at hz ho1 hb0 HB HI HON ⊢
  have HO1 := Lib.hid ho1
  have HFX := Lib.hid (setRow_heap _ _ _ z _ _ ho1)
  have HFB := Lib.hid (below_setRow (g := w.heap.size + 1) hb0 (by omega) z)
  clear hzz ho1 hb0 e1
  go_enter Try.func14, Try.ntmps14
  go_wp2_with fail
  refine (none_nil5 _).mono ?_
  rintro e w' ⟨rfl, rfl⟩
  clear hz
  go_wp2_with (first
    | (refine wp_build_eq rfl 22 #[] rfl z (by first | exact HB.out | (simp; exact HB.out)) ?_)
    | (with_reducible refine wpList_store_row rfl 22 (.tmp 4) (.tmp 9) rfl _ _ rfl rfl 22 _ HO1.out HI.out rfl HON.out ?_))
  exact bodyPost_ret (v := .agg z) (results_cell_row rfl _ _ _ 22 _ (0, 0) _ rfl HFX.out Try.underlying22 rfl HI.out) rfl ⟨rfl, HFB.out⟩
set_option maxHeartbeats 1000000 in
set_option maxRecDepth 100000 in
theorem dec_nil5 (P : Array Value) (w : World) : Calls Try.prog 18 #[.pointer none, .agg P] w fun e w' => e = .returned (.agg (rowV (bF z16) 16)) ∧ Below w.heap.size w w' := by
  have hz := zero16
  have e1 : (w.alloc (.cells P 22)).heap.size = w.heap.size + 1 := by simp
  have ho1 := heap_alloc_new (w.alloc (.cells P 22)) (.cells (rowV (bF z16) 16) 22)
  rw [e1] at ho1
  have hb0 : Below w.heap.size w ((w.alloc (.cells P 22)).alloc (.cells (rowV (bF z16) 16) 22)) := ((Below.refl _ _).alloc (Nat.le_refl _) _).alloc (by rw [e1]; omega) _
  obtain ⟨z, hzz⟩ : ∃ z, z = rowV (bF z16) 16 := ⟨_, rfl⟩
  have HB := Lib.hid built16
  have HI := Lib.hid (info16 z16)
  have HON := Lib.hid (one_row z16 16)
  rw [← hzz] at hz ho1 hb0 HB HI HON ⊢
  have HO1 := Lib.hid ho1
  have HFX := Lib.hid (setRow_heap _ _ _ z _ _ ho1)
  have HFB := Lib.hid (below_setRow (g := w.heap.size + 1) hb0 (by omega) z)
  clear hzz ho1 hb0 e1
  go_enter Try.func18, Try.ntmps18
  go_wp2_with fail
  refine (none_nil5 _).mono ?_
  rintro e w' ⟨rfl, rfl⟩
  clear hz
  go_wp2_with (first
    | (refine wp_build_eq rfl 22 #[] rfl z (by first | exact HB.out | (simp; exact HB.out)) ?_)
    | (with_reducible refine wpList_store_row rfl 22 (.tmp 4) (.tmp 9) rfl _ _ rfl rfl 22 _ HO1.out HI.out rfl HON.out ?_))
  exact bodyPost_ret (v := .agg z) (results_cell_row rfl _ _ _ 22 _ (0, 0) _ rfl HFX.out Try.underlying22 rfl HI.out) rfl ⟨rfl, HFB.out⟩
set_option maxHeartbeats 1000000 in
set_option maxRecDepth 100000 in
theorem word_nil5 (k : Int) (w : World) : Calls Try.prog 19 #[.pointer none, .int .i64 k] w fun e w' => e = .returned (.agg (rowV (bF zr4) 4)) ∧ Below w.heap.size w w' := by
  have hz := zero4'
  have ho1 := heap_alloc_new w (.cells (rowV (bF zr4) 4) 36)
  have hb0 : Below w.heap.size w (w.alloc (.cells (rowV (bF zr4) 4) 36)) := (Below.refl _ _).alloc (Nat.le_refl _) _
  obtain ⟨z, hzz⟩ : ∃ z, z = rowV (bF zr4) 4 := ⟨_, rfl⟩
  have HB := Lib.hid built4
  have HI := Lib.hid (info4' zr4)
  have HON := Lib.hid (one_row zr4 4)
  rw [← hzz] at hz ho1 hb0 HB HI HON ⊢
  have HO1 := Lib.hid ho1
  have HFX := Lib.hid (setRow_heap _ _ _ z _ _ ho1)
  have HFB := Lib.hid (below_setRow (g := w.heap.size) hb0 (Nat.le_refl _) z)
  clear hzz ho1 hb0
  go_enter Try.func19, Try.ntmps19
  go_wp2_with fail
  refine (none_nil5 _).mono ?_
  rintro e w' ⟨rfl, rfl⟩
  clear hz
  go_wp2_with (first
    | (refine wp_build_eq rfl 36 #[] rfl z (by first | exact HB.out | (simp; exact HB.out)) ?_)
    | (with_reducible refine wpList_store_row rfl 36 (.tmp 4) (.tmp 21) rfl _ _ rfl rfl 36 _ HO1.out HI.out rfl HON.out ?_))
  exact bodyPost_ret (v := .agg z) (results_cell_row rfl _ _ _ 36 _ (0, 0) _ rfl HFX.out Try.underlying36 rfl HI.out) rfl ⟨rfl, HFB.out⟩
def l4z : Array Value := #[.int .u8 0, .int .u8 0, .int .u8 0, .int .u8 0]
theorem word1_nil (w : World) : Calls Try.prog 19 #[.pointer none, .int .i64 1] w fun e w' => e = .returned (.agg #[.int .u8 0, .int .u8 0, .int .u8 0, .int .u8 0]) ∧ Below w.heap.size w w' := word_nil5 1 w
theorem equal_zr4 (w : World) : (Op.equalIn 10000 36 (.agg #[.int .u8 0, .int .u8 0, .int .u8 0, .int .u8 0]) (.agg #[.int .u8 0, .int .u8 0, .int .u8 0, .int .u8 0])).run Try.prog w = .ok true w := by
  have := equal_row 36 4 Try.underlying36 zr4 zr4 rfl rfl w
  rw [decide_eq_true rfl] at this
  exact this
set_option maxHeartbeats 2000000 in
set_option maxRecDepth 100000 in
theorem aesNew_any (A : Option Addr) (n c : Nat) (l lp : List Nat) (w : World) (hs : BS w w.heap.size A n c l) :
    Calls Try.prog 6 #[.slice A n c, .agg (rowV (bF lp) 16)] w fun e w' => e = .returned (.bool true) ∧ Below w.heap.size w w' := by
  obtain ⟨cp, hcp, hlp⟩ := list_of (bF lp) 16
  obtain ⟨cz, hcz, hlz⟩ := list_of (bF z16) 16
  have hcap := hs.cap
  have HIP := Lib.hid (info_list hlp)
  have HIZ := Lib.hid (info_list hlz)
  have HU := Lib.hid Try.underlying22
  have hz := zero16
  have hq := fun W => equal_row 22 16 Try.underlying22 z16 z16 (by simp [z16]) (by simp [z16]) W
  rw [decide_eq_true rfl] at hq
  have hen := fun P W => enc_nil5 P W
  have hdn := fun P W => dec_nil5 P W
  rw [← hcz] at hz hq hen hdn
  rw [← hcp]
  have HZ := Lib.hid hz
  have HQ := Lib.hid hq
  have HQ4 := Lib.hid equal_zr4
  have HEN := Lib.hid hen
  have HDN := Lib.hid hdn
  have HCP := Lib.hid hcp
  have HCZ := Lib.hid hcz
  have hb0 : Below w.heap.size w (w.alloc (.cells cp.toArray 22)) := (Below.refl _ _).alloc (Nat.le_refl _) _
  have hrp : Row (w.alloc (.cells cp.toArray 22)) w.heap.size 22 (bF lp) 16 := by
    have := heap_alloc_new w (.cells cp.toArray 22)
    unfold Row; rw [← HCP.out]; exact this
  have HB0 := Lib.hid hb0
  have HRP := Lib.hid hrp
  have HS0 := Lib.hid ((hs.below hb0).more hb0.size)
  clear hlp hlz hcp hcz hz hq hen hdn hb0 hrp hs
  by_cases h80 : 80 < n
  · have g80 : (80 : Int) < (n : Int) := by omega
    have HS80 := Lib.hid (HS0.out.take (k := 80) (by omega))
    clear HS0
    go_enter Try.func6, Try.ntmps6
    go_wp2_with fail
    generalize w.alloc (.cells cp.toArray 22) = W0 at *
    refine (newBox_any _).mono ?_
    rintro e w1 ⟨rfl, hb1, hbx1⟩
    have HBX := Lib.hid hbx1
    have HB1 := Lib.hid hb1
    have HBS1 := Lib.hid ((HS80.out.below hb1).more hb1.size)
    clear hb1 hbx1
    have h16 : ¬ 80 = 16 := by omega
    have h32 : ¬ 80 = 32 := by omega
    go_wp2_with fail
    refine (new_bad _ A 80 c h16 h32 w1).mono ?_
    rintro e w2 ⟨rfl, rfl⟩
    have hb2 := HB1.out
    clear HBX HB1 HBS1 HS80

    go_wp2_with fail
    refine (new_nobox _ _ c _).mono ?_
    rintro e w3 ⟨rfl, rfl⟩
    have hbz : Below w1.heap.size w1 (w1.alloc (.cells cz.toArray 22)) := (Below.refl _ _).alloc (Nat.le_refl _) _
    have hrz : Row (w1.alloc (.cells cz.toArray 22)) w1.heap.size 22 (bF z16) 16 := by
      have := heap_alloc_new w1 (.cells cz.toArray 22)
      unfold Row; rw [← HCZ.out]; exact this
    have hrp2 := Row.below HRP.out hb2 (Row.lt HRP.out)
    have hrp3 := Row.below hrp2 hbz (Row.lt hrp2)
    have hbw := HB0.out.trans ((hb2.trans (hbz.mono hb2.size)).mono HB0.out.size)
    have HBW := Lib.hid hbw
    have HRZ := Lib.hid hrz
    have HRP3 := Lib.hid hrp3
    have hz := HZ.out
    clear hbz hrz hrp2 hrp3 hbw hb2 HRP
    go_wp2_with fail
    clear hz
    generalize w1.alloc (.cells cz.toArray 22) = W3 at *
    refine wp_region_class (After W3) (by kernel_rfl) (by kernel_rfl) (After.drew W3) ?_
    have hq := HQ.out
    have hq4 := HQ4.out
    repeat (first
      | go_big_quiet_skip
      | (go_big_quiet_want; first
        | (with_reducible refine quiet_load 22 (.tmp 3) rfl _ _ rfl cp _ (fun w h => row_range (After.row h HRP3.out) HCP.out) HU.out rfl HIP.out ?_; (simp only [Act.put, List.setIfInBounds_toArray, List.set_cons_zero, List.set_cons_succ]); go_big_quiet_on)
        | (with_reducible refine quiet_load 22 (.tmp 10) rfl _ _ rfl cz _ (fun w h => row_range (After.row h HRZ.out) HCZ.out) HU.out rfl HIZ.out ?_; (simp only [Act.put, List.setIfInBounds_toArray, List.set_cons_zero, List.set_cons_succ]); go_big_quiet_on)
        | (go_big_quiet_op; first
          | go_big_quiet_on
          | ((with_reducible refine ⟨_, fun _ _ => rfl, ?_⟩); go_big_quiet_on)
          | ((with_reducible refine ⟨_, fun _ _ => ⟨rfl, rfl⟩, ?_⟩); go_big_quiet_on)
          | ((with_reducible refine ⟨_, fun W hW => calls_after hW (HEN.out _ W), ?_⟩); go_big_quiet_on)
          | ((with_reducible refine ⟨_, fun W hW => calls_after hW (HDN.out _ W), ?_⟩); go_big_quiet_on)
          | ((with_reducible refine ⟨_, fun W hW => (rounds_nil W).mono (fun _ _ h => ⟨h.1, h.2 ▸ hW⟩), ?_⟩); go_big_quiet_on)
          | ((with_reducible refine ⟨_, fun W hW => calls_after hW (word1_nil W), ?_⟩); go_big_quiet_on)
          | ((with_reducible refine ⟨_, fun W hW => calls_after hW (awake5_any W), ?_⟩); go_big_quiet_on))))
    refine wpQuiet_nil ?_
    intro W4 hW4
    go_wp2
    go_ret
    exact ⟨rfl, HBW.out.trans (hW4.mono HBW.out.size)⟩
  · have g80 : (n : Int) ≤ 80 := by omega
    go_enter Try.func6, Try.ntmps6
    go_wp2_with fail
    generalize w.alloc (.cells cp.toArray 22) = W0 at *
    refine (newBox_any _).mono ?_
    rintro e w1 ⟨rfl, hb1, hbx1⟩
    have HBX := Lib.hid hbx1
    have HB1 := Lib.hid hb1
    have HBS1 := Lib.hid ((HS0.out.below hb1).more hb1.size)
    clear hb1 hbx1
    by_cases h16 : n = 16
    · subst h16
      have hbs16 := HBS1.out
      clear HBS1 HS0
      obtain ⟨b, o, rfl, _⟩ := hbs16.at_ (by omega)
      have HBS2 := Lib.hid hbs16
      clear hbs16
      go_wp2_with fail
      refine (new_16 _ b o c _ w1 HBX.out HBS2.out).mono ?_
      rintro e w2 ⟨rfl, _, hb2'⟩
      have hb2 := HB1.out.trans (hb2'.mono HB1.out.size)
      clear hb2' HBX HBS2 HB1

      go_wp2_with fail
      refine (new_nobox _ _ c _).mono ?_
      rintro e w3 ⟨rfl, rfl⟩
      have hbz : Below w2.heap.size w2 (w2.alloc (.cells cz.toArray 22)) := (Below.refl _ _).alloc (Nat.le_refl _) _
      have hrz : Row (w2.alloc (.cells cz.toArray 22)) w2.heap.size 22 (bF z16) 16 := by
        have := heap_alloc_new w2 (.cells cz.toArray 22)
        unfold Row; rw [← HCZ.out]; exact this
      have hrp2 := Row.below HRP.out hb2 (Row.lt HRP.out)
      have hrp3 := Row.below hrp2 hbz (Row.lt hrp2)
      have hbw := HB0.out.trans ((hb2.trans (hbz.mono hb2.size)).mono HB0.out.size)
      have HBW := Lib.hid hbw
      have HRZ := Lib.hid hrz
      have HRP3 := Lib.hid hrp3
      have hz := HZ.out
      clear hbz hrz hrp2 hrp3 hbw hb2 HRP
      go_wp2_with fail
      clear hz
      generalize w2.alloc (.cells cz.toArray 22) = W3 at *
      refine wp_region_class (After W3) (by kernel_rfl) (by kernel_rfl) (After.drew W3) ?_
      have hq := HQ.out
      have hq4 := HQ4.out
      repeat (first
        | go_big_quiet_skip
        | (go_big_quiet_want; first
          | (with_reducible refine quiet_load 22 (.tmp 3) rfl _ _ rfl cp _ (fun w h => row_range (After.row h HRP3.out) HCP.out) HU.out rfl HIP.out ?_; (simp only [Act.put, List.setIfInBounds_toArray, List.set_cons_zero, List.set_cons_succ]); go_big_quiet_on)
          | (with_reducible refine quiet_load 22 (.tmp 10) rfl _ _ rfl cz _ (fun w h => row_range (After.row h HRZ.out) HCZ.out) HU.out rfl HIZ.out ?_; (simp only [Act.put, List.setIfInBounds_toArray, List.set_cons_zero, List.set_cons_succ]); go_big_quiet_on)
          | (go_big_quiet_op; first
            | go_big_quiet_on
            | ((with_reducible refine ⟨_, fun _ _ => rfl, ?_⟩); go_big_quiet_on)
            | ((with_reducible refine ⟨_, fun _ _ => ⟨rfl, rfl⟩, ?_⟩); go_big_quiet_on)
            | ((with_reducible refine ⟨_, fun W hW => calls_after hW (HEN.out _ W), ?_⟩); go_big_quiet_on)
            | ((with_reducible refine ⟨_, fun W hW => calls_after hW (HDN.out _ W), ?_⟩); go_big_quiet_on)
            | ((with_reducible refine ⟨_, fun W hW => (rounds_nil W).mono (fun _ _ h => ⟨h.1, h.2 ▸ hW⟩), ?_⟩); go_big_quiet_on)
            | ((with_reducible refine ⟨_, fun W hW => calls_after hW (word1_nil W), ?_⟩); go_big_quiet_on)
            | ((with_reducible refine ⟨_, fun W hW => calls_after hW (awake5_any W), ?_⟩); go_big_quiet_on))))
      refine wpQuiet_nil ?_
      intro W4 hW4
      go_wp2
      go_ret
      exact ⟨rfl, HBW.out.trans (hW4.mono HBW.out.size)⟩
    · by_cases h32 : n = 32
      · subst h32
        have hbs16 := HBS1.out
        clear HBS1 HS0
        obtain ⟨b, o, rfl, _⟩ := hbs16.at_ (by omega)
        have HBS2 := Lib.hid hbs16
        clear hbs16 h16
        go_wp2_with fail
        refine (new_32 _ b o c _ w1 HBX.out HBS2.out).mono ?_
        rintro e w2 ⟨rfl, _, hb2'⟩
        have hb2 := HB1.out.trans (hb2'.mono HB1.out.size)
        clear hb2' HBX HBS2 HB1

        go_wp2_with fail
        refine (new_nobox _ _ c _).mono ?_
        rintro e w3 ⟨rfl, rfl⟩
        have hbz : Below w2.heap.size w2 (w2.alloc (.cells cz.toArray 22)) := (Below.refl _ _).alloc (Nat.le_refl _) _
        have hrz : Row (w2.alloc (.cells cz.toArray 22)) w2.heap.size 22 (bF z16) 16 := by
          have := heap_alloc_new w2 (.cells cz.toArray 22)
          unfold Row; rw [← HCZ.out]; exact this
        have hrp2 := Row.below HRP.out hb2 (Row.lt HRP.out)
        have hrp3 := Row.below hrp2 hbz (Row.lt hrp2)
        have hbw := HB0.out.trans ((hb2.trans (hbz.mono hb2.size)).mono HB0.out.size)
        have HBW := Lib.hid hbw
        have HRZ := Lib.hid hrz
        have HRP3 := Lib.hid hrp3
        have hz := HZ.out
        clear hbz hrz hrp2 hrp3 hbw hb2 HRP
        go_wp2_with fail
        clear hz
        generalize w2.alloc (.cells cz.toArray 22) = W3 at *
        refine wp_region_class (After W3) (by kernel_rfl) (by kernel_rfl) (After.drew W3) ?_
        have hq := HQ.out
        have hq4 := HQ4.out
        repeat (first
          | go_big_quiet_skip
          | (go_big_quiet_want; first
            | (with_reducible refine quiet_load 22 (.tmp 3) rfl _ _ rfl cp _ (fun w h => row_range (After.row h HRP3.out) HCP.out) HU.out rfl HIP.out ?_; (simp only [Act.put, List.setIfInBounds_toArray, List.set_cons_zero, List.set_cons_succ]); go_big_quiet_on)
            | (with_reducible refine quiet_load 22 (.tmp 10) rfl _ _ rfl cz _ (fun w h => row_range (After.row h HRZ.out) HCZ.out) HU.out rfl HIZ.out ?_; (simp only [Act.put, List.setIfInBounds_toArray, List.set_cons_zero, List.set_cons_succ]); go_big_quiet_on)
            | (go_big_quiet_op; first
              | go_big_quiet_on
              | ((with_reducible refine ⟨_, fun _ _ => rfl, ?_⟩); go_big_quiet_on)
              | ((with_reducible refine ⟨_, fun _ _ => ⟨rfl, rfl⟩, ?_⟩); go_big_quiet_on)
              | ((with_reducible refine ⟨_, fun W hW => calls_after hW (HEN.out _ W), ?_⟩); go_big_quiet_on)
              | ((with_reducible refine ⟨_, fun W hW => calls_after hW (HDN.out _ W), ?_⟩); go_big_quiet_on)
              | ((with_reducible refine ⟨_, fun W hW => (rounds_nil W).mono (fun _ _ h => ⟨h.1, h.2 ▸ hW⟩), ?_⟩); go_big_quiet_on)
              | ((with_reducible refine ⟨_, fun W hW => calls_after hW (word1_nil W), ?_⟩); go_big_quiet_on)
              | ((with_reducible refine ⟨_, fun W hW => calls_after hW (awake5_any W), ?_⟩); go_big_quiet_on))))
        refine wpQuiet_nil ?_
        intro W4 hW4
        go_wp2
        go_ret
        exact ⟨rfl, HBW.out.trans (hW4.mono HBW.out.size)⟩
      · have q1 : (((n : Nat) : Int) == 16) = false := by rw [beq_eq_false_iff_ne]; omega
        have q2 : (((n : Nat) : Int) == 32) = false := by rw [beq_eq_false_iff_ne]; omega
        go_wp2_with fail
        refine (new_bad _ A n c h16 h32 w1).mono ?_
        rintro e w2 ⟨rfl, rfl⟩
        have hb2 := HB1.out
        clear HBX HB1 HBS1 HS0

        go_wp2_with fail
        refine (new_nobox _ _ c _).mono ?_
        rintro e w3 ⟨rfl, rfl⟩
        have hbz : Below w1.heap.size w1 (w1.alloc (.cells cz.toArray 22)) := (Below.refl _ _).alloc (Nat.le_refl _) _
        have hrz : Row (w1.alloc (.cells cz.toArray 22)) w1.heap.size 22 (bF z16) 16 := by
          have := heap_alloc_new w1 (.cells cz.toArray 22)
          unfold Row; rw [← HCZ.out]; exact this
        have hrp2 := Row.below HRP.out hb2 (Row.lt HRP.out)
        have hrp3 := Row.below hrp2 hbz (Row.lt hrp2)
        have hbw := HB0.out.trans ((hb2.trans (hbz.mono hb2.size)).mono HB0.out.size)
        have HBW := Lib.hid hbw
        have HRZ := Lib.hid hrz
        have HRP3 := Lib.hid hrp3
        have hz := HZ.out
        clear hbz hrz hrp2 hrp3 hbw hb2 HRP
        go_wp2_with fail
        clear hz
        generalize w1.alloc (.cells cz.toArray 22) = W3 at *
        refine wp_region_class (After W3) (by kernel_rfl) (by kernel_rfl) (After.drew W3) ?_
        have hq := HQ.out
        have hq4 := HQ4.out
        repeat (first
          | go_big_quiet_skip
          | (go_big_quiet_want; first
            | (with_reducible refine quiet_load 22 (.tmp 3) rfl _ _ rfl cp _ (fun w h => row_range (After.row h HRP3.out) HCP.out) HU.out rfl HIP.out ?_; (simp only [Act.put, List.setIfInBounds_toArray, List.set_cons_zero, List.set_cons_succ]); go_big_quiet_on)
            | (with_reducible refine quiet_load 22 (.tmp 10) rfl _ _ rfl cz _ (fun w h => row_range (After.row h HRZ.out) HCZ.out) HU.out rfl HIZ.out ?_; (simp only [Act.put, List.setIfInBounds_toArray, List.set_cons_zero, List.set_cons_succ]); go_big_quiet_on)
            | (go_big_quiet_op; first
              | go_big_quiet_on
              | ((with_reducible refine ⟨_, fun _ _ => rfl, ?_⟩); go_big_quiet_on)
              | ((with_reducible refine ⟨_, fun _ _ => ⟨rfl, rfl⟩, ?_⟩); go_big_quiet_on)
              | ((with_reducible refine ⟨_, fun W hW => calls_after hW (HEN.out _ W), ?_⟩); go_big_quiet_on)
              | ((with_reducible refine ⟨_, fun W hW => calls_after hW (HDN.out _ W), ?_⟩); go_big_quiet_on)
              | ((with_reducible refine ⟨_, fun W hW => (rounds_nil W).mono (fun _ _ h => ⟨h.1, h.2 ▸ hW⟩), ?_⟩); go_big_quiet_on)
              | ((with_reducible refine ⟨_, fun W hW => calls_after hW (word1_nil W), ?_⟩); go_big_quiet_on)
              | ((with_reducible refine ⟨_, fun W hW => calls_after hW (awake5_any W), ?_⟩); go_big_quiet_on))))
        refine wpQuiet_nil ?_
        intro W4 hW4
        go_wp2
        go_ret
        exact ⟨rfl, HBW.out.trans (hW4.mono HBW.out.size)⟩
end Go.Proofs.Ytimonlkelgpekaa
