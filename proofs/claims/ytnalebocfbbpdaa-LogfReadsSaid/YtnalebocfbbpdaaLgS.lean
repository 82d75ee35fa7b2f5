/-
  Package garderobelaw14: Plain.
-/
import Derived.Test.YtnalebocfbbpdaaLgI
namespace Go.Proofs.Ytnalebocfbbpdaa
open Go.RowKit Go
set_option linter.unusedVariables false
set_option linter.unusedSimpArgs false
set_option maxRecDepth 100000
def PlR (w : World) (cnt : Nat) (es : List (Int × List Nat)) (iv : Value) (wr : World) : Prop :=
  ∃ (k : Nat) (v : Value), iv = .int .i64 (k : Int) ∧ k ≤ es.length ∧ LgB wr (w.heap.size + 1) 27 0 (.slice none 0 0) ∧ LgB wr (w.heap.size + 2) 27 cnt v ∧ EnO 55 wr w.heap.size (w.heap.size + 3) v (es.take k) ∧ Below w.heap.size w wr ∧ w.heap.size + 3 ≤ wr.heap.size
set_option maxHeartbeats 4000000 in
theorem plain14_any (cnt : Nat) (A : Option Addr) (n c : Nat) (es : List (Int × List Nat)) (w : World) (hE : EsV w A n es) (hZ : EsZ w A n) (hn9 : n ≤ 999) :
    Calls Try.prog 16 #[.agg #[.int .u64 (cnt : Int), .slice A n c]] w (CutTo w cnt es) := by
  have hl := hE.1
  have HE := Lib.hid hE
  have HZ := Lib.hid hZ
  have HL := Lib.hid hl
  obtain ⟨W0, hW⟩ : ∃ W0, W0 = (((w.alloc (.cells #[.int .u64 (cnt : Int), .slice A n c] 35)).alloc (.cells #[.int .u64 (0 : Nat), .slice none 0 0] 27)).alloc (.cells #[.int .u64 (cnt : Int), .slice none 0 0] 27)) := ⟨_, rfl⟩
  have HR : Hid (PlR w cnt es (.int .i64 0) W0) := Lib.hid (by
    have hb : Below w.heap.size w W0 := by
      rw [hW]
      exact (((Below.refl _ _).alloc (Nat.le_refl _) _).alloc (by simp) _).alloc (by simp; omega) _
    have h2 := heap_alloc_new ((w.alloc (.cells #[.int .u64 (cnt : Int), .slice A n c] 35)).alloc (.cells #[.int .u64 (0 : Nat), .slice none 0 0] 27)) (.cells #[.int .u64 (cnt : Int), .slice none 0 0] 27)
    have h1 := blk_alloc (heap_alloc_new (w.alloc (.cells #[.int .u64 (cnt : Int), .slice A n c] 35)) (.cells #[.int .u64 (0 : Nat), .slice none 0 0] 27)) (.cells #[.int .u64 (cnt : Int), .slice none 0 0] 27)
    rw [show (w.alloc (.cells #[.int .u64 (cnt : Int), .slice A n c] 35)).heap.size = w.heap.size + 1 by simp] at h1
    rw [show ((w.alloc (.cells #[.int .u64 (cnt : Int), .slice A n c] 35)).alloc (.cells #[.int .u64 (0 : Nat), .slice none 0 0] 27)).heap.size = w.heap.size + 2 by simp] at h2
    rw [← hW] at h1 h2
    exact ⟨0, .slice none 0 0, rfl, by omega, h1, h2, EnO.nil _ _ _ _, hb, by rw [hW]; simp⟩)
  have HW := Lib.hid hW
  clear hE hZ hl hW
  go_enter Try.func16, Try.ntmps16
  go_wp2_with fail
  go_loopw [12] (fun iv wr => PlR w cnt es iv wr) (fun iv _ => (n - intOf iv).toNat)
  case atStart => rw [HW.out] at HR; exact HR.out
  case round =>
    clear HR HW
    obtain ⟨k, v, rfl, hk, hr1, hr2, hO, hb, hsz⟩ := hrel
    have HR1 := Lib.hid hr1
    have HR2 := Lib.hid hr2
    have HO := Lib.hid hO
    have HB := Lib.hid hb
    clear hr1 hr2 hO hb
    by_cases hlt : k < n
    · obtain ⟨b, o, rfl, hEs⟩ := HE.out.2 (by omega)
      obtain ⟨A1, c1, q1, q2, q3⟩ := hEs.2 k (by rw [HL.out]; exact hlt)
      have p1 : wr.cell? ⟨b, o + k * 2, none⟩ = some (.int .i64 (kAt es k)) := (HB.out.cell (p := ⟨b, o + k * 2, none⟩) hEs.1).trans q1
      have p2 : wr.cell? ⟨b, o + k * 2 + 1, none⟩ = some (.slice A1 (dAt es k).length c1) := (HB.out.cell (p := ⟨b, o + k * 2 + 1, none⟩) hEs.1).trans q2
      have HA1 : Hid (A1 = none → c1 = 0) := Lib.hid fun e => HZ.out b o rfl k hlt _ _ (by rw [← e]; exact q2)
      have HS1 : Hid (BS w w.heap.size A1 (dAt es k).length c1 (dAt es k)) := Lib.hid q3
      have HTK : Hid (es.take (k + 1) = es.take k ++ [(kAt es k, dAt es k)]) := Lib.hid (by
        have hke : k < es.length := by rw [HL.out]; exact hlt
        have e1 : (kAt es k, dAt es k) = es[k] := by unfold kAt dAt; simp [List.getD, List.getElem?_eq_getElem hke]
        rw [List.take_succ_eq_append_getElem hke, e1])
      have HTL : Hid ((es.take k).length < 1000) := Lib.hid (by rw [List.length_take]; omega)
      have hlt1 : b < wr.heap.size := Nat.lt_of_lt_of_le hEs.1 HB.out.size
      have HNX : Hid (∀ (v' : Value) (w' : World), LgB w' (w.heap.size + 1) 27 0 (.slice none 0 0) → LgB w' (w.heap.size + 2) 27 cnt v' → EnO 55 w' w.heap.size (w.heap.size + 3) v' (es.take k ++ [(kAt es k, dAt es k)]) → Below w.heap.size w w' → w.heap.size + 3 ≤ w'.heap.size → PlR w cnt es (.int .i64 ((k : Int) + 1)) w') := Lib.hid fun v' w' h1 h2 h3 h4 h5 => ⟨k + 1, v', rfl, by rw [HL.out]; omega, h1, h2, by rw [HTK.out]; exact h3, h4, h5⟩
      obtain ⟨nl, hnl⟩ : ∃ nl, (dAt es k).length = nl := ⟨_, rfl⟩
      have HNL := Lib.hid hnl
      rw [hnl] at p2 HS1
      clear q1 q2 q3 hEs hnl HTK
      generalize es.take k = pre at *
      generalize kAt es k = X at *
      generalize dAt es k = l2 at *
      have HB5 : Hid (Below wr.heap.size wr (wr.alloc (.cells #[.int .i64 X, .slice A1 nl c1] 58))) := Lib.hid ((Below.refl _ _).alloc (Nat.le_refl _) _)
      have HX5 := Lib.hid (heap_alloc_new wr (.cells #[.int .i64 X, .slice A1 nl c1] 58))
      have hs5 : (wr.alloc (.cells #[.int .i64 X, .slice A1 nl c1] 58)).heap.size = wr.heap.size + 1 := by simp
      have k5 : (wr.alloc (.cells #[.int .i64 X, .slice A1 nl c1] 58)).cell? ⟨w.heap.size + 1 + 1, 1, none⟩ = some v := (LgB.snd (HB5.out.block _ (by omega) |>.trans HR2.out))
      have HO5 : Hid (EnO 55 (wr.alloc (.cells #[.int .i64 X, .slice A1 nl c1] 58)) w.heap.size (w.heap.size + 3) v pre) := Lib.hid (HO.out.below (by omega) hsz HB5.out)
      have HI5 : Hid (EnI (wr.alloc (.cells #[.int .i64 X, .slice A1 nl c1] 58)) w.heap.size (w.heap.size + 3) A1 c1 l2) := Lib.hid ⟨.inl (by rw [HNL.out]; exact HS1.out.below (HB.out.trans (HB5.out.mono HB.out.size))), HA1.out⟩
      have HB5w : Hid (w.heap.size + 3 ≤ (wr.alloc (.cells #[.int .i64 X, .slice A1 nl c1] 58)).heap.size) := Lib.hid (by rw [hs5]; omega)
      have HS5 := Lib.hid hs5
      clear hs5
      go_wp2_with (at_builtin; refine wp_appE 55 25 Try.underlying25 (by kernel_rfl) (by decide) _ rfl (.tmp 17) (.tmp 23) rfl w.heap.size (w.heap.size + 3) (by omega) v pre X A1 c1 nl l2 HNL.out rfl HO5.out HTL.out (by rw [← HS5.out]; rfl) HI5.out HB5w.out ?_; intro v10 w10 hO10 hb10 hfar10; obtain ⟨nn, A10, cc, rfl⟩ : ∃ nn A cc, v10 = .slice A nn cc := by { obtain ⟨A, c, e, _⟩ := hO10.esV (by omega) (Nat.le_trans HB5w.out hb10.size); exact ⟨_, A, c, e⟩ }; have HG3 : Hid (LgB w10 (w.heap.size + 2) 27 cnt v) := Lib.hid ((hb10.block _ (by omega)).trans ((HB5.out.block _ (by omega)).trans HR2.out)); have f10 : w10.frozen? ⟨w.heap.size + 1 + 1, 1, none⟩ = false := blk_free HG3.out 1; have c10 : w10.cell? ⟨w.heap.size + 1 + 1, 1, none⟩ = some v := HG3.out.snd; have HO10 := Lib.hid hO10; have HBX := Lib.hid hb10; clear hO10 hb10 hfar10)
      have HOU : Hid (PlR w cnt es (.int .i64 ((k : Int) + 1)) (w10.setCell ⟨w.heap.size + 1 + 1, 1, none⟩ (.slice A10 nn cc))) := Lib.hid (by
        have g1 : w10.heap[w.heap.size + 1]? = wr.heap[w.heap.size + 1]? := (HBX.out.block _ (by omega)).trans (HB5.out.block _ (by omega))
        have g5 : Below w.heap.size w w10 := HB.out.trans ((HB5.out.mono HB.out.size).trans (HBX.out.mono (by omega)))
        refine HNX.out (.slice A10 nn cc) _ ?_ (HG3.out.setc _) (HO10.out.set _ (by show w.heap.size ≤ w.heap.size + 1 + 1; omega) (by show w.heap.size + 1 + 1 < w.heap.size + 3; omega) (.slice A10 nn cc)) ?_ ?_
        · exact LgB.far (g1.trans HR1.out) _ (by show w.heap.size + 1 + 1 ≠ w.heap.size + 1; omega) _
        · exact g5.setCell (by show w.heap.size ≤ w.heap.size + 1 + 1; omega) (.slice A10 nn cc)
        · rw [size_set]; exact Nat.le_trans HB5w.out HBX.out.size)
      go_roundw
      case rel => exact HOU.out
      case measure => simp [intOf]; omega
    · have hkn : k = n := by have := HL.out; omega
      subst hkn
      have hfull : es.take k = es := List.take_of_length_le (by rw [HL.out]; exact Nat.le_refl _)
      rw [hfull] at HO
      clear hfull
      obtain ⟨A9, c9, rfl, _⟩ := HO.out.esV (by omega) hsz
      have HFX : Hid (((wr.setCell ⟨w.heap.size + 1, 0, none⟩ (.int .u64 (cnt : Int))).setCell ⟨w.heap.size + 1, 1, none⟩ (.slice A9 es.length c9)).heap[w.heap.size + 1]? = some (.cells #[.int .u64 (cnt : Int), .slice A9 es.length c9] 27 (0, 0))) := Lib.hid (by
        have h := blk_set (blk_set HR1.out 0 (.int .u64 (cnt : Int))) 1 (.slice A9 es.length c9)
        simpa using h)
      have HIL : Hid ((Try.prog.info? 27).map (·.size) = some (#[.int .u64 (cnt : Int), .slice A9 es.length c9] : Array Value).size) := Lib.hid (by rw [show (#[.int .u64 (cnt : Int), .slice A9 es.length c9] : Array Value).size = 2 from rfl]; kernel_rfl)
      have HF : Hid (CutTo w cnt es (.returned (.agg #[.int .u64 (cnt : Int), .slice A9 es.length c9])) ((wr.setCell ⟨w.heap.size + 1, 0, none⟩ (.int .u64 (cnt : Int))).setCell ⟨w.heap.size + 1, 1, none⟩ (.slice A9 es.length c9))) := Lib.hid (by
        have hS := (HO.out.set ⟨w.heap.size + 1, 0, none⟩ (by show w.heap.size ≤ w.heap.size + 1; omega) (by show w.heap.size + 1 < w.heap.size + 3; omega) (.int .u64 (cnt : Int))).set ⟨w.heap.size + 1, 1, none⟩ (by show w.heap.size ≤ w.heap.size + 1; omega) (by show w.heap.size + 1 < w.heap.size + 3; omega) (.slice A9 es.length c9)
        refine ⟨A9, c9, rfl, (HB.out.setCell (by show w.heap.size ≤ w.heap.size + 1; omega) _).setCell (by show w.heap.size ≤ w.heap.size + 1; omega) _, ?_, hS.esZ⟩
        obtain ⟨A, c, e, h⟩ := hS.esV (by omega) (by rw [size_set, size_set]; exact hsz)
        injection e with e1 _ _
        subst e1
        exact h)
      clear HO
      generalize es.length = cl at *
      have g0 := HR1.out.fst
      have g1 := HR1.out.snd
      have d0 := HR2.out.fst
      have d1 := HR2.out.snd
      have f0 : wr.frozen? ⟨w.heap.size + 1, 0, none⟩ = false := blk_free HR1.out 0
      have f1 : wr.frozen? ⟨w.heap.size + 1, 1, none⟩ = false := blk_free HR1.out 1
      go_wp2
      exact bodyPost_ret (v := .agg #[.int .u64 (cnt : Int), .slice A9 cl c9]) (results_cell_row rfl _ _ _ 27 _ (0, 0) _ rfl HFX.out Try.underlying27 rfl HIL.out) rfl HF.out
end Go.Proofs.Ytnalebocfbbpdaa
