/-
  A book that is not there; the parts of a text; the document's Text and Sum.
-/
import Derived.Test.YtoclelpmampikaaGreatBkH
import Derived.Test.YtoclelpmampikaaGreatShaT
namespace Go.Proofs.YtoclelpmampikaaGreat
open Go.RowKit Go
set_option linter.unusedVariables false
set_option linter.unusedSimpArgs false
def zeroD : Value := .agg (zeros 32)
set_option maxHeartbeats 1000000 in
set_option maxRecDepth 100000 in
theorem bk_sum_nil (k : Nat) (V : Value) (w : World) : Calls Tryz.prog 43 #[.pointer none, .int .u8 (k : Int), V] w fun e w' => e = .returned zeroD ∧ Below w.heap.size w w' := by
  have hz := zero_dig
  have hb : ∀ W, (zeroValue 34).run Tryz.prog W = .ok (.agg (zeros 32)) W := zero_dig
  have hx := heap_alloc_new w (.cells (zeros 32) 34)
  have hb1 : Below w.heap.size w (w.alloc (.cells (zeros 32) 34)) := (Below.refl _ _).alloc (Nat.le_refl _) _
  have hfx := setRow_heap _ _ _ (zeros 32) _ _ hx
  have hfb := below_setRow (g := w.heap.size) hb1 (Nat.le_refl _) (zeros 32)
  have HX := Lib.hid hx
  have HFX := Lib.hid hfx
  have HFB := Lib.hid hfb
  have HI := Lib.hid (info_dig (cs := zeros 32) (by simp [zeros]))
  have HO : Hid ((zeros 32).all (·.oneCell') = true) := Lib.hid (by kernel_rfl)
  clear hx hb1 hfx hfb
  go_enter Tryz.func43, Tryz.ntmps43
  go_wp2_with (with_reducible refine wpList_store_row rfl 34 (.tmp 6) (.tmp 18) rfl _ _ rfl rfl 34 _ HX.out HI.out rfl HO.out ?_)
  exact bodyPost_ret (v := zeroD) (results_cell_row rfl _ _ _ 34 _ (0, 0) _ rfl HFX.out Tryz.underlying34 rfl HI.out) rfl ⟨rfl, HFB.out⟩
/-! ### parts of a text -/
/-- .. of which none that is nil has room -/
def PtsZ (w : World) (V : Value) (Ls : List (List Nat)) : Prop :=
  ∃ P c, V = .slice P Ls.length c ∧ Ls.length ≤ c ∧ (0 < Ls.length → ∃ b o, P = some ⟨b, o, none⟩ ∧ b < w.heap.size ∧
    ∀ i, i < Ls.length → ∃ A c', w.cell? ⟨b, o + i, none⟩ = some (.slice A (Ls.getD i []).length c') ∧ BS w w.heap.size A (Ls.getD i []).length c' (Ls.getD i []) ∧ (A = none → c' = 0))
theorem PtsZ.pts {w : World} {V : Value} {Ls : List (List Nat)} (h : PtsZ w V Ls) : Pts w V Ls := by
  obtain ⟨P, c, h1, h2, h3⟩ := h
  refine ⟨P, c, h1, h2, fun h0 => ?_⟩
  obtain ⟨b, o, k1, k2, k3⟩ := h3 h0
  exact ⟨b, o, k1, k2, fun i hi => by obtain ⟨A, c', q1, q2, _⟩ := k3 i hi; exact ⟨A, c', q1, q2⟩⟩
theorem PtsZ.below {w w' : World} {V : Value} {Ls : List (List Nat)} (h : PtsZ w V Ls) (hb : Below w.heap.size w w') : PtsZ w' V Ls := by
  obtain ⟨P, c, h1, h2, h3⟩ := h
  refine ⟨P, c, h1, h2, fun h0 => ?_⟩
  obtain ⟨b, o, k1, k2, k3⟩ := h3 h0
  refine ⟨b, o, k1, Nat.lt_of_lt_of_le k2 hb.size, fun i hi => ?_⟩
  obtain ⟨A, c', q1, q2, q3⟩ := k3 i hi
  exact ⟨A, c', (hb.cell (p := ⟨b, o + i, none⟩) k2).trans q1, (q2.below hb).more hb.size, q3⟩
theorem pts_two {w : World} {b : Nat} {A B : Option Addr} {n m c d : Nat} {x y : List Nat} {t : TypeId} (hb : w.heap[b]? = some (.cells #[.slice A n c, .slice B m d] t (0, 0))) (hx : BS w w.heap.size A n c x) (hy : BS w w.heap.size B m d y) (hA : A = none → c = 0) (hB : B = none → d = 0) :
    PtsZ w (.slice (some ⟨b, 0, none⟩) 2 2) [x, y] := by
  refine ⟨_, 2, rfl, Nat.le_refl _, fun _ => ⟨b, 0, rfl, blk_lt hb, fun i hi => ?_⟩⟩
  rw [Nat.zero_add]
  match i, hi with
  | 0, _ => exact ⟨A, c, by rw [show ([x, y] : List (List Nat)).getD 0 [] = x from rfl, hx.len]; exact blk_cell hb 0, by rw [show ([x, y] : List (List Nat)).getD 0 [] = x from rfl, hx.len]; exact hx, hA⟩
  | 1, _ => exact ⟨B, d, by rw [show ([x, y] : List (List Nat)).getD 1 [] = y from rfl, hy.len]; exact blk_cell hb 1, by rw [show ([x, y] : List (List Nat)).getD 1 [] = y from rfl, hy.len]; exact hy, hB⟩
theorem pts_one {w : World} {b : Nat} {A : Option Addr} {n c : Nat} {x : List Nat} {t : TypeId} (hb : w.heap[b]? = some (.cells #[.slice A n c] t (0, 0))) (hx : BS w w.heap.size A n c x) (hA : A = none → c = 0) :
    PtsZ w (.slice (some ⟨b, 0, none⟩) 1 1) [x] := by
  refine ⟨_, 1, rfl, Nat.le_refl _, fun _ => ⟨b, 0, rfl, blk_lt hb, fun i hi => ?_⟩⟩
  rw [Nat.zero_add]
  match i, hi with
  | 0, _ => exact ⟨A, c, by rw [show ([x] : List (List Nat)).getD 0 [] = x from rfl, hx.len]; exact blk_cell hb 0, by rw [show ([x] : List (List Nat)).getD 0 [] = x from rfl, hx.len]; exact hx, hA⟩
def PartsTo (w : World) (A B : Option Addr) (n m c d : Nat) (e : Ending) (w' : World) : Prop :=
  e = .returned (.slice (some ⟨w.heap.size + 1, 0, none⟩) 2 2) ∧ Below w.heap.size w w' ∧ w'.heap.size = w.heap.size + 2 ∧ w'.heap[w.heap.size + 1]? = some (.cells #[.slice A (min n 60) c, .slice B (min m 60) d] 89 (0, 0))
theorem bs_take60 {w : World} {B n c : Nat} {A : Option Addr} {x : List Nat} (h : BS w B A n c x) : BS w B A (min n 60) c (x.take 60) := by
  have hl := h.len
  by_cases h1 : 60 ≤ n
  · rw [Nat.min_eq_right h1]; exact h.take h1
  · rw [Nat.min_eq_left (by omega), List.take_of_length_le (by omega)]; exact h
/-! ### the document's Text and Sum -/
theorem flat_step {Ls : List (List Nat)} {i : Nat} (h : i < Ls.length) : (Ls.take (i + 1)).flatten = (Ls.take i).flatten ++ Ls.getD i [] := by
  have e : Ls.getD i [] = Ls[i] := by simp [List.getD, List.getElem?_eq_getElem h]
  rw [e, List.take_succ_eq_append_getElem h]
  simp only [List.flatten_append, List.flatten_cons, List.flatten_nil, List.append_nil]
theorem flat_le (Ls : List (List Nat)) (i : Nat) : (Ls.take i).flatten.length ≤ Ls.flatten.length := by
  have e : Ls.flatten.length = (Ls.take i).flatten.length + (Ls.drop i).flatten.length := by
    rw [← List.length_append, ← List.flatten_append, List.take_append_drop]
  omega
def TxR (w : World) (k : Nat) (Ls : List (List Nat)) (iv v : Value) (wr : World) : Prop := ∃ i : Nat, iv = .int .i64 (i : Int) ∧ i ≤ Ls.length ∧ Own wr w.heap.size v (txt k (Ls.take i)) ∧ Below w.heap.size w wr ∧ w.heap.size ≤ wr.heap.size
set_option maxHeartbeats 2000000 in
theorem text_any (k : Nat) (hk : k < 256) (V : Value) (Ls : List (List Nat)) (w : World) (h : PtsZ w V Ls) (hn : Ls.length ≤ 1000) (hl : Ls.flatten.length ≤ 800000) :
    Calls Tryz.prog 75 #[.int .u8 (k : Int), V] w (JoinTo w (txt k Ls)) := by
  have hby : ∀ i, (txt k Ls).getD i 0 < 256 := fun i => by
    unfold txt
    cases i with
    | zero => exact hk
    | succ i => exact bk_flat_byte h.pts.byte i
  obtain ⟨P, c, rfl, hc, hP⟩ := h
  have h0 : TxR w k Ls (.int .i64 0) (.slice (some ⟨w.heap.size, 0, none⟩) 1 1) (w.alloc (.cells #[.int .u8 (k : Int)] 5)) :=
    ⟨0, rfl, by omega, Own.blk (Nat.le_refl _) (heap_alloc_new w _) rfl (by omega) (by unfold maxLen; omega) rfl rfl, (Below.refl _ _).alloc (Nat.le_refl _) _, by simp⟩
  have H0 := Lib.hid h0
  have HP := Lib.hid hP
  have HBY := Lib.hid hby
  have HL := Lib.hid hl
  clear h0 hP hby hl
  go_enter Tryz.func75, Tryz.ntmps75
  go_wp2_with fail
  go_loopw [12, 5] (fun iv v wr => TxR w k Ls iv v wr) (fun iv _ _ => (Ls.length - intOf iv).toNat)
  case atStart => exact H0.out
  case round =>
    clear H0
    obtain ⟨i, rfl, hi, hO, hb, hsz⟩ := hrel
    have HO := Lib.hid hO
    have HB := Lib.hid hb
    clear hO hb
    by_cases hlt : i < Ls.length
    · obtain ⟨b, o, rfl, hbl, hat⟩ := HP.out (by omega)
      obtain ⟨A, c1, q1, q2, q3⟩ := hat i hlt
      have p1 : wr.cell? ⟨b, o + i, none⟩ = some (.slice A (Ls.getD i []).length c1) := (HB.out.cell (p := ⟨b, o + i, none⟩) hbl).trans q1
      have HS : Hid (BS wr w.heap.size A (Ls.getD i []).length c1 (Ls.getD i [])) := Lib.hid (q2.below HB.out)
      have HA := Lib.hid q3
      have HF : Hid (txt k (Ls.take (i + 1)) = txt k (Ls.take i) ++ Ls.getD i []) := Lib.hid (by unfold txt; rw [flat_step hlt]; rfl)
      have HN : Hid ((txt k (Ls.take i)).length + (Ls.getD i []).length < 1000000000) := Lib.hid (by
        have h1 := flat_le Ls (i + 1)
        rw [flat_step hlt, List.length_append] at h1
        have h2 := HL.out
        unfold txt
        rw [List.length_cons]
        omega)
      have HR : Hid (∀ v' w', Own w' w.heap.size v' (txt k (Ls.take i) ++ Ls.getD i []) → Below w.heap.size w w' → TxR w k Ls (.int .i64 ((i : Int) + 1)) v' w') := Lib.hid fun v' w' z1 z2 => ⟨i + 1, rfl, by omega, by rw [HF.out]; exact z1, z2, z2.size⟩
      clear q1 q2 q3 hat HF
      obtain ⟨m, hm⟩ : ∃ m, m = (Ls.getD i []).length := ⟨_, rfl⟩
      rw [← hm] at p1 HS HN
      clear hm
      generalize Ls.getD i [] = l at *
      generalize txt k (Ls.take i) = pre at *
      go_wp2_with (
        at_builtin
        refine wp_apps wr rfl _ _ rfl w.heap.size _ pre rfl HO.out w.heap.size A m c1 l rfl HS.out HA.out HN.out hsz ?_
        intro v' w1 hown1 hb1
        have HX := Lib.hid (HR.out v' w1 hown1 (HB.out.trans hb1))
        clear hown1 hb1)
      go_roundw
      case rel => exact HX.out
      case measure => simp [intOf]; omega
    · obtain rfl : i = Ls.length := by omega
      have HO9 : Hid (Own wr w.heap.size u5 (txt k Ls)) := Lib.hid (by have := HO.out; rw [List.take_length] at this; exact this)
      have HX := Lib.hid (own_join HO9.out HBY.out HB.out)
      clear HO HO9
      go_wp2
      go_ret
      exact HX.out
set_option maxHeartbeats 2000000 in
set_option maxRecDepth 100000 in
theorem rsum_any (k : Nat) (hk : k < 256) (V : Value) (Ls : List (List Nat)) (w : World) (h : PtsZ w V Ls) (hn : Ls.length ≤ 1000) (hl : Ls.flatten.length ≤ 800000) :
    Calls Tryz.prog 58 #[.int .u8 (k : Int), V] w fun e w' => e = .returned (.agg (digA (txt k Ls))) ∧ Below w.heap.size w w' := by
  have hz := zero32
  have hx := heap_alloc_new w (.cells (zeros 32) 33)
  have hb0 : Below w.heap.size w (w.alloc (.cells (zeros 32) 33)) := (Below.refl _ _).alloc (Nat.le_refl _) _
  have hs0 : (w.alloc (.cells (zeros 32) 33)).heap.size = w.heap.size + 1 := by simp
  have HX := Lib.hid hx
  have HB0 := Lib.hid hb0
  have HS0 := Lib.hid hs0
  have HP := Lib.hid (h.below hb0)
  have htl : (txt k Ls).length ≤ 900000 := by unfold txt; rw [List.length_cons]; omega
  have HTL := Lib.hid htl
  obtain ⟨da, hda⟩ : ∃ da, da = digA (txt k Ls) := ⟨_, rfl⟩
  have hda2 : da.size = 32 := by rw [hda]; unfold digA; rw [rowV_size]
  have HI := Lib.hid (info_d32 hda2)
  have HO : Hid (da.all (·.oneCell') = true) := Lib.hid (by rw [hda]; exact one_dig _)
  have HZ : Hid ((zeros 32).size = da.size) := Lib.hid (by rw [hda2]; simp [zeros])
  have HDA := Lib.hid hda
  rw [← hda]
  clear h hx hb0 hs0 htl hda hda2
  go_enter Tryz.func58, Tryz.ntmps58
  go_wp2_with fail
  generalize w.alloc (.cells (zeros 32) 33) = W0 at *
  refine (text_any k hk V Ls _ HP.out hn hl).mono ?_
  rintro e w1 ⟨A1, c1, rfl, hb1, hs1, hz1⟩
  have HB1 := Lib.hid hb1
  have HS1 := Lib.hid hs1
  have HZ1 := Lib.hid hz1
  obtain ⟨n, hn2⟩ : ∃ n, n = (txt k Ls).length := ⟨_, rfl⟩
  rw [← hn2] at HS1 HTL ⊢
  clear hb1 hs1 hz1 hn2
  go_wp2_with fail
  refine (refSum_any A1 n c1 (txt k Ls) w1 HS1.out HZ1.out HTL.out).mono ?_
  rintro e w2 ⟨rfl, hb2⟩
  rw [← HDA.out]
  have hbW : Below W0.heap.size W0 w2 := HB1.out.trans (hb2.mono HB1.out.size)
  have hs0 := HS0.out
  have hx3 := (hbW.block w.heap.size (by omega)).trans HX.out
  have HX3 := Lib.hid hx3
  have hfx := setRow_heap w2 _ _ da _ _ hx3
  have hfb := below_setRow (g := w.heap.size) (HB0.out.trans (hbW.mono (by omega))) (Nat.le_refl _) da
  have HFX := Lib.hid hfx
  have HFB := Lib.hid hfb
  clear hs0 hx3 hfx hfb hbW hb2
  go_wp2_with (with_reducible refine wpList_store_row rfl 33 (.tmp 4) (.tmp 8) rfl _ _ rfl rfl 33 _ HX3.out HI.out HZ.out HO.out ?_)
  exact bodyPost_ret (v := .agg da) (results_cell_row rfl _ _ _ 33 _ (0, 0) _ rfl HFX.out Tryz.underlying33 rfl HI.out) rfl ⟨rfl, HFB.out⟩
end Go.Proofs.YtoclelpmampikaaGreat
