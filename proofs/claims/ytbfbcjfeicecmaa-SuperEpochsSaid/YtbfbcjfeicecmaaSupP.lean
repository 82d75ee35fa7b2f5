/-
  Package super: what Block answers; the document's Block.
-/
import Derived.Test.YtbfbcjfeicecmaaSupO
namespace Go.Proofs.Ytbfbcjfeicecmaa
open Go.RowKit Go
set_option linter.unusedVariables false
set_option linter.unusedSimpArgs false
theorem UR.sub {w : World} {g o : Nat} {l : List Nat} (h : UR w g o l) (k : Nat) : UR w g (o + 32 * k) ((l.drop (32 * k)).take 32) := by
  obtain ⟨cs, h1, h2⟩ := h
  refine ⟨cs, h1, fun i hi => ?_⟩
  rw [List.length_take, List.length_drop] at hi
  rw [sub_at, if_pos (by omega), Nat.add_assoc]
  exact h2 _ (by omega)
def BlkOk (w : World) (l : List Nat) (e : Ending) (w' : World) : Prop := ∃ v, e = .returned (.tuple #[v, .int .i64 0]) ∧ Below w.heap.size w w' ∧ BkI w' l v
set_option maxHeartbeats 1000000 in
theorem block_geo (p t k : Int) (v : Value) (h : ¬ Geo.May p t) (w : World) : Calls Try.prog 16 #[.agg #[.int .i64 p, .int .i64 t], .int .i64 k, v] w (NoEps w) := by
  have hb : Below w.heap.size w (w.alloc (.cells #[.int .i64 p, .int .i64 t] 23)) := (Below.refl _ _).alloc (Nat.le_refl _) _
  have ht := Two.new w 23 p t
  have HB := Lib.hid hb
  have HT := Lib.hid ht
  have HM := Lib.hid h
  have HI : Hid ((Try.prog.info? 23).map (·.size) = some (#[Value.int .i64 p, Value.int .i64 t] : Array Value).size) := Lib.hid (info_geo2 p t)
  clear hb ht h
  go_enter Try.func16, Try.ntmps16
  go_wp2_with fail
  generalize w.alloc (.cells #[.int .i64 p, .int .i64 t] 23) = W0 at *
  refine (check_no p t HM.out _).mono ?_
  rintro e w1 ⟨rfl, hb1⟩
  have HB1 := Lib.hid (HB.out.trans (hb1.mono HB.out.size))
  clear hb1
  go_wp2
  exact bodyPost_ret (v := .tuple #[.slice none 0 0, .int .i64 1]) (by simp [results, Try.results16, go_sem]) rfl ⟨rfl, HB1.out⟩
set_option maxHeartbeats 1000000 in
theorem block_len (p t : Nat) (k : Int) (A : Option Addr) (n c : Nat) (h : Geo.May p t) (hn : n ≠ Geo.se p) (w : World) : Calls Try.prog 16 #[.agg #[.int .i64 (p : Int), .int .i64 (t : Int)], .int .i64 k, .slice A n c] w (NoEps w) := by
  have hp : p ≤ 64 := by unfold Geo.May at h; omega
  have ht24 : t ≤ 24 := by unfold Geo.May at h; omega
  have hb : Below w.heap.size w (w.alloc (.cells #[.int .i64 (p : Int), .int .i64 (t : Int)] 23)) := (Below.refl _ _).alloc (Nat.le_refl _) _
  have ht := Two.new w 23 (p : Int) (t : Int)
  have HB := Lib.hid hb
  have HT := Lib.hid ht
  have HM := Lib.hid h
  have HI : Hid ((Try.prog.info? 23).map (·.size) = some (#[Value.int .i64 (p : Int), Value.int .i64 (t : Int)] : Array Value).size) := Lib.hid (info_geo2 p t)
  have HE := Lib.hid (fun W => geo_Sealed_yes p t hp ht24 h W)
  have hne : ((n : Int) != ((Geo.se p : Nat) : Int)) = true := by rw [bne_iff_ne]; omega
  generalize Geo.se p = ee at *
  clear hb ht h hn
  go_enter Try.func16, Try.ntmps16
  go_wp2_with fail
  generalize w.alloc (.cells #[.int .i64 (p : Int), .int .i64 (t : Int)] 23) = W0 at *
  refine (check_yes p t HM.out _).mono ?_
  rintro e w1 ⟨rfl, hb1⟩
  have HB1 := Lib.hid (HB.out.trans (hb1.mono HB.out.size))
  have HT1 := Lib.hid (HT.out.after hb1)
  have c0 := HT1.out.fst
  have c1 := HT1.out.snd
  clear hb1
  go_wp2_with fail
  refine (HE.out _).mono ?_
  rintro e w2 ⟨rfl, hb2⟩
  have HB2 := Lib.hid (HB1.out.trans (hb2.mono HB1.out.size))
  clear hb2 c0 c1
  go_wp2
  exact bodyPost_ret (v := .tuple #[.slice none 0 0, .int .i64 1]) (by simp [results, Try.results16, go_sem]) rfl ⟨rfl, HB2.out⟩
set_option maxHeartbeats 2000000 in
theorem block_at (p t : Nat) (k : Int) (A : Option Addr) (c : Nat) (h : Geo.May p t) (hk : k < 0 ∨ (Geo.ep p : Int) ≤ k) (w : World) : Calls Try.prog 16 #[.agg #[.int .i64 (p : Int), .int .i64 (t : Int)], .int .i64 k, .slice A (Geo.se p) c] w (NoEps w) := by
  have hp : p ≤ 64 := by unfold Geo.May at h; omega
  have ht24 : t ≤ 24 := by unfold Geo.May at h; omega
  have hb : Below w.heap.size w (w.alloc (.cells #[.int .i64 (p : Int), .int .i64 (t : Int)] 23)) := (Below.refl _ _).alloc (Nat.le_refl _) _
  have ht := Two.new w 23 (p : Int) (t : Int)
  have HB := Lib.hid hb
  have HT := Lib.hid ht
  have HM := Lib.hid h
  have HI : Hid ((Try.prog.info? 23).map (·.size) = some (#[Value.int .i64 (p : Int), Value.int .i64 (t : Int)] : Array Value).size) := Lib.hid (info_geo2 p t)
  have HE := Lib.hid (fun W => geo_Sealed_yes p t hp ht24 h W)
  have HEE := Lib.hid (fun W => geo_Epochs_yes p t hp ht24 h W)
  generalize Geo.se p = se at *
  generalize Geo.ep p = ee at *
  clear hb ht h
  rcases hk with hk | hk
  · go_enter Try.func16, Try.ntmps16
    go_wp2_with fail
    generalize w.alloc (.cells #[.int .i64 (p : Int), .int .i64 (t : Int)] 23) = W0 at *
    refine (check_yes p t HM.out _).mono ?_
    rintro e w1 ⟨rfl, hb1⟩
    have HB1 := Lib.hid (HB.out.trans (hb1.mono HB.out.size))
    have HT1 := Lib.hid (HT.out.after hb1)
    have c0 := HT1.out.fst
    have c1 := HT1.out.snd
    clear hb1
    go_wp2_with fail
    refine (HE.out _).mono ?_
    rintro e w2 ⟨rfl, hb2⟩
    have HB2 := Lib.hid (HB1.out.trans (hb2.mono HB1.out.size))
    clear hb2 c0 c1
    go_wp2
    exact bodyPost_ret (v := .tuple #[.slice none 0 0, .int .i64 1]) (by simp [results, Try.results16, go_sem]) rfl ⟨rfl, HB2.out⟩
  · have hk0 : 0 ≤ k := by omega
    go_enter Try.func16, Try.ntmps16
    go_wp2_with fail
    generalize w.alloc (.cells #[.int .i64 (p : Int), .int .i64 (t : Int)] 23) = W0 at *
    refine (check_yes p t HM.out _).mono ?_
    rintro e w1 ⟨rfl, hb1⟩
    have HB1 := Lib.hid (HB.out.trans (hb1.mono HB.out.size))
    have HT1 := Lib.hid (HT.out.after hb1)
    have c0 := HT1.out.fst
    have c1 := HT1.out.snd
    clear hb1
    go_wp2_with fail
    refine (HE.out _).mono ?_
    rintro e w2 ⟨rfl, hb2⟩
    have HB2 := Lib.hid (HB1.out.trans (hb2.mono HB1.out.size))
    have HT2 := Lib.hid (HT1.out.after hb2)
    clear hb2 c0 c1
    have c0 := HT2.out.fst
    have c1 := HT2.out.snd
    go_wp2_with fail
    refine (HEE.out _).mono ?_
    rintro e w3 ⟨rfl, hb3⟩
    have HB3 := Lib.hid (HB2.out.trans (hb3.mono HB2.out.size))
    clear hb3 c0 c1
    go_wp2
    exact bodyPost_ret (v := .tuple #[.slice none 0 0, .int .i64 1]) (by simp [results, Try.results16, go_sem]) rfl ⟨rfl, HB3.out⟩
set_option maxRecDepth 100000 in
set_option maxHeartbeats 2000000 in
theorem block_ok (p t k g o c : Nat) (l : List Nat) (h : Geo.May p t) (hl : l.length = Geo.se p) (hlc : l.length ≤ c) (hk : k < Geo.ep p) (h64 : ∀ i, l.getD i 0 < 2 ^ 64) (w : World) (hu : UR w g o l) :
    Calls Try.prog 16 #[.agg #[.int .i64 (p : Int), .int .i64 (t : Int)], .int .i64 (k : Int), .slice (some ⟨g, o, none⟩) (Geo.se p) c] w (BlkOk w (epL l k)) := by
  have hp : p ≤ 64 := by unfold Geo.May at h; omega
  have ht24 : t ≤ 24 := by unfold Geo.May at h; omega
  have hb : Below w.heap.size w (w.alloc (.cells #[.int .i64 (p : Int), .int .i64 (t : Int)] 23)) := (Below.refl _ _).alloc (Nat.le_refl _) _
  have ht := Two.new w 23 (p : Int) (t : Int)
  have HB := Lib.hid hb
  have HT := Lib.hid ht
  have HM := Lib.hid h
  have HU := Lib.hid hu
  have HI : Hid ((Try.prog.info? 23).map (·.size) = some (#[Value.int .i64 (p : Int), Value.int .i64 (t : Int)] : Array Value).size) := Lib.hid (info_geo2 p t)
  have HE := Lib.hid (fun W => geo_Sealed_yes p t hp ht24 h W)
  have HEE := Lib.hid (fun W => geo_Epochs_yes p t hp ht24 h W)
  have hfirst : 32 * k < l.length := by rw [hl]; unfold Geo.ep at hk; omega
  have hsl : ((l.drop (32 * k)).take 32).length = min 32 (l.length - 32 * k) := by rw [List.length_take, List.length_drop]
  have hse9 : Geo.se p ≤ 69 := by unfold Geo.se Geo.mp; omega
  have hcap : 32 * k < c := by omega
  have HW := Lib.hid (fun c9 W (hW : UR W g o l) => blockW W.heap.size 8 g (o + 32 * k) c9 (by omega) (by omega) (.slice none 0 0) [] ((l.drop (32 * k)).take 32) (by
    intro i
    rw [sub_at]
    split
    · exact h64 _
    · decide) W (Nat.le_refl _) (.inl (Own.nil _ _)) (by simp) (hW.sub k) (by rw [hsl]; simp; omega))
  rw [hsl] at HW
  have q1 : (32 : Int) * (k : Int) = ((32 * k : Nat) : Int) := by omega
  have hkk : k ≤ 3 := by unfold Geo.ep at hk; omega
  have HEL : Hid (padL (blkL 8 ((l.drop (32 * k)).take 32)) 256 = epL l k) := Lib.hid rfl
  rw [hl] at HW hfirst hlc
  generalize Geo.se p = se at *
  generalize Geo.ep p = ee at *
  generalize 32 * k = f at *
  clear hb ht h hu hl hsl h64
  go_enter Try.func16, Try.ntmps16
  go_wp2_with fail
  generalize w.alloc (.cells #[.int .i64 (p : Int), .int .i64 (t : Int)] 23) = W0 at *
  refine (check_yes p t HM.out _).mono ?_
  rintro e w1 ⟨rfl, hb1⟩
  have HB1 := Lib.hid (HB.out.trans (hb1.mono HB.out.size))
  have HT1 := Lib.hid (HT.out.after hb1)
  have c0 := HT1.out.fst
  have c1 := HT1.out.snd
  clear hb1
  go_wp2_with fail
  refine (HE.out _).mono ?_
  rintro e w2 ⟨rfl, hb2⟩
  have HB2 := Lib.hid (HB1.out.trans (hb2.mono HB1.out.size))
  have HT2 := Lib.hid (HT1.out.after hb2)
  clear hb2 c0 c1
  have c0 := HT2.out.fst
  have c1 := HT2.out.snd
  go_wp2_with fail
  refine (HEE.out _).mono ?_
  rintro e w3 ⟨rfl, hb3⟩
  have HB3 := Lib.hid (HB2.out.trans (hb3.mono HB2.out.size))
  have HU3 := Lib.hid (HU.out.below HB3.out)
  clear hb3 c0 c1
  have HMIN : Hid ((min ((f : Int) + 32) (se : Int)).toNat - f = min 32 (se - f)) := Lib.hid (by omega)
  go_wp2_with fail
  rw [HMIN.out]
  refine (HW.out (c - f) _ HU3.out).mono ?_
  rintro e w4 ⟨v, rfl, hb4, hit⟩
  rw [List.nil_append] at hit
  have HF : Hid (BlkOk w (epL l k) (.returned (.tuple #[v, .int .i64 0])) w4) := Lib.hid ⟨v, rfl, HB3.out.trans (hb4.mono HB3.out.size), HEL.out ▸ hit⟩
  clear hb4 hit
  go_wp2
  exact bodyPost_ret (v := .tuple #[v, .int .i64 0]) (by simp [results, Try.results16, go_sem]) rfl HF.out
/-! the document's Block -/
theorem refPut8 (v : Nat) (hv : v < 2 ^ 64) (w : World) : Calls Try.prog 50 #[.int .i64 8, .int .u64 (v : Int)] w (Gives w (putL 8 v)) := refPut_any 8 v hv w
def RbR (w : World) (l : List Nat) (k gk : Nat) (bv iv : Value) (wr : World) : Prop :=
  ∃ j : Nat, iv = .int .i64 ((32 * k + j : Nat) : Int) ∧ j + gk = 32 ∧ Own wr w.heap.size bv (blkL 8 ((List.range j).map fun j => l.getD (32 * k + j) 0)) ∧ Below w.heap.size w wr
theorem rb_step (l : List Nat) (k j : Nat) : blkL 8 ((List.range (j + 1)).map fun j => l.getD (32 * k + j) 0) = blkL 8 ((List.range j).map fun j => l.getD (32 * k + j) 0) ++ putL 8 (l.getD (32 * k + j) 0) := by
  rw [map_range_succ]; unfold blkL; rw [List.flatMap_append]; simp
set_option maxRecDepth 100000 in
set_option maxHeartbeats 2000000 in
theorem rblock_any (k g o n c : Nat) (l : List Nat) (hk : k ≤ 100) (hn : l.length = n) (hn9 : n ≤ 1000) (h64 : ∀ i, l.getD i 0 < 2 ^ 64) (w : World) (hu : UR w g o l) :
    Calls Try.prog 20 #[.int .i64 (k : Int), .slice (some ⟨g, o, none⟩) n c] w (Gives w (epL l k)) := by
  have HU := Lib.hid hu
  have HL := Lib.hid hn
  have H64 := Lib.hid h64
  have HREF := Lib.hid (ep_ref l k)
  have HS := Lib.hid (fun j => rb_step l k j)
  have q1 : (32 : Int) * (k : Int) = ((32 * k : Nat) : Int) := by omega
  have HR : Hid (RbR w l k 32 (.slice none 0 0) (.int .i64 ((32 * k : Nat) : Int)) w) := Lib.hid ⟨0, rfl, rfl, Own.nil _ _, Below.refl _ _⟩
  have HBY := Lib.hid (fun j i => blkL_byte 8 ((List.range j).map fun j => l.getD (32 * k + j) 0) i)
  have hf9 : 32 * k ≤ 3200 := by omega
  generalize hf : 32 * k = f at *
  have HF0 := Lib.hid hf
  clear hf hu h64 hn
  go_enter Try.func20, Try.ntmps20
  go_wp2
  go_loopg [5, 6] 32 (fun gk bv iv wr => RbR w l k gk bv iv wr)
  case atStart => exact HR.out
  case round =>
    clear HR
    obtain ⟨j, rfl, hj, hown, hb⟩ := hrel
    rw [HF0.out] at hown ⊢
    have HO := Lib.hid hown
    have HB := Lib.hid hb
    clear hown hb
    by_cases hlt : j < 32
    · have q2 : ((f + j : Nat) : Int) < (f : Int) + 32 := by omega
      have hy := H64.out (f + j)
      have HSJ := Lib.hid (HS.out j)
      have hlen : (blkL 8 ((List.range j).map fun j => l.getD (f + j) 0)).length ≤ 256 := by rw [blkL_len, List.length_map, List.length_range]; omega
      by_cases hin : f + j < n
      · have hcell := (HU.out.below HB.out).cell (i := f + j) (by rw [HL.out]; exact hin)
        generalize l.getD (f + j) 0 = x at *
        go_wp2_with fail
        refine (refPut8 x hy _).mono ?_
        rintro e w1 ⟨A1, c1, rfl, hb1, hx1⟩
        have hown1 := HO.out.below hb1
        have hB1 : w.heap.size ≤ w1.heap.size := Nat.le_trans HB.out.size hb1.size
        have HBB := Lib.hid (HB.out.trans (hb1.mono HB.out.size))
        rw [putL_len] at hx1
        have HLP := Lib.hid (putL_len 8 x)
        go_wp2_with (refine wp_appsF _ rfl _ _ rfl w.heap.size _ _ rfl (.inl hown1) _ _ _ _ _ (by rw [HLP.out]; rfl) hx1 (by omega) (by omega) hB1 ?_; intro v' w2 hown2 hb2 hg2)
        have HF : Hid (RbR w l k (31 - j) v' (.int .i64 ((f : Int) + (j : Int) + 1)) w2) := Lib.hid ⟨j + 1, by rw [HF0.out]; exact congrArg (Value.int IntKind.i64) (by omega), by omega, by rw [HF0.out, HSJ.out]; exact hown2, HBB.out.trans hb2⟩
        clear hown1 hx1 hb1 hown2 hb2 hg2
        go_wp2
        go_roundg (31 - j)
        case measure => omega
        case rel => exact HF.out
      · have h0 : l.getD (f + j) 0 = 0 := by
          rw [List.getD_eq_getElem?_getD, List.getElem?_eq_none (by rw [HL.out]; omega)]; rfl
        have hin2 : (n : Int) ≤ ((f + j : Nat) : Int) := by omega
        rw [h0] at HSJ hy
        clear h0
        go_wp2_with fail
        refine (refPut8 0 hy _).mono ?_
        rintro e w1 ⟨A1, c1, rfl, hb1, hx1⟩
        have hown1 := HO.out.below hb1
        have hB1 : w.heap.size ≤ w1.heap.size := Nat.le_trans HB.out.size hb1.size
        have HBB := Lib.hid (HB.out.trans (hb1.mono HB.out.size))
        rw [putL_len] at hx1
        have HLP := Lib.hid (putL_len 8 0)
        go_wp2_with (refine wp_appsF _ rfl _ _ rfl w.heap.size _ _ rfl (.inl hown1) _ _ _ _ _ (by rw [HLP.out]; rfl) hx1 (by omega) (by omega) hB1 ?_; intro v' w2 hown2 hb2 hg2)
        have HF : Hid (RbR w l k (31 - j) v' (.int .i64 ((f : Int) + (j : Int) + 1)) w2) := Lib.hid ⟨j + 1, by rw [HF0.out]; exact congrArg (Value.int IntKind.i64) (by omega), by omega, by rw [HF0.out, HSJ.out]; exact hown2, HBB.out.trans hb2⟩
        clear hown1 hx1 hb1 hown2 hb2 hg2
        go_wp2
        go_roundg (31 - j)
        case measure => omega
        case rel => exact HF.out
    · obtain rfl : j = 32 := by omega
      have q2 : (f : Int) + 32 ≤ ((f + 32 : Nat) : Int) := by omega
      rw [HREF.out] at HO
      have HF : Hid (Gives w (epL l k) (.returned u5) wr) := Lib.hid (Own.gives HO.out (by rw [← HREF.out]; exact blkL_byte 8 _) HB.out)
      go_wp2
      go_ret
      exact HF.out
end Go.Proofs.Ytbfbcjfeicecmaa
