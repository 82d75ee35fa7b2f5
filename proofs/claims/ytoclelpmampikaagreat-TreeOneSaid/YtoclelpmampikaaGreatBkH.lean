/-
  Package book: Sum.
-/
import Derived.Test.YtoclelpmampikaaGreatBkG
namespace Go.Proofs.YtoclelpmampikaaGreat
open Go.RowKit Go
set_option linter.unusedVariables false
set_option linter.unusedSimpArgs false
def SumTo (w : World) (b g : Nat) (S : Nat → Prop) (T sh : List (List Nat)) (t : List Nat) (e : Ending) (w' : World) : Prop :=
  e = .returned (.agg (digA t)) ∧ Turns S w w' ∧ IsBook w' b g (fun k => S k ∨ (w.heap.size ≤ k ∧ k < w'.heap.size)) (bkT T t) (bkS T sh t)
/-- the text of a kind and parts -/
def txt (k : Nat) (Ls : List (List Nat)) : List Nat := k :: Ls.flatten
theorem sum_some (g : Nat) (W : World) : (binOp .eql 73 (.func (Fn.func 38) #[.pointer (some ⟨g, 0, none⟩)] #[]) .nilFunc).run Tryz.prog W = .ok (.bool false) W := by kernel_rfl
/-- what has turned when a text was made, summed, kept, and its sum laid in the result's block -/
theorem sum_end {u w8 w9 : World} {b g r : Nat} {S S1 : Nat → Prop} {T sh : List (List Nat)} {t : List Nat} {cs : Array Value} (h0 : Below u.heap.size u w8) (hS1 : ∀ k, S1 k → S k ∨ (u.heap.size ≤ k ∧ k ≠ r)) (hr : r = u.heap.size) (hr8 : r < w8.heap.size)
    (hm : MeetTo w8 b g S1 T sh t (.returned (.tuple #[])) w9) (hsub : ∀ k, S k → k < u.heap.size) :
    Turns S u (w9.setRow r cs) ∧ IsBook (w9.setRow r cs) b g (fun k => S k ∨ (u.heap.size ≤ k ∧ k < (w9.setRow r cs).heap.size)) (bkT T t) (bkS T sh t) := by
  obtain ⟨_, ht, hb⟩ := hm
  have hsz : (w9.setRow r cs).heap.size = w9.heap.size := by simp [World.setRow]
  have ho : ∀ j, j ≠ r → (w9.setRow r cs).heap[j]? = w9.heap[j]? := fun j hj => setRow_other w9 r j cs (fun e => hj e)
  have hz := ht.size
  have hz0 := h0.size
  refine ⟨⟨?_, ?_, ?_, by omega, fun j hj hn => ?_⟩, ?_⟩
  · exact ht.os.trans h0.os
  · exact ht.tape.trans h0.tape
  · exact ht.output.trans h0.output
  · refine (ho j (by omega)).trans ((ht.block j (by omega) (fun q => ?_)).trans (h0.block j hj))
    rcases hS1 j q with q2 | q2
    · exact hn q2
    · omega
  · refine hb.keep (fun j hj => ho j (fun e => ?_)) (fun j hj => ?_) (fun k hk => ?_)
    · subst e
      rcases hj with hj | hj
      · rcases hS1 _ hj with q | q
        · have := hsub _ q; omega
        · exact q.2 rfl
      · omega
    · rcases hj with hj | hj
      · rcases hS1 _ hj with q | q
        · exact .inl q
        · exact .inr ⟨q.1, by rw [hsz]; exact hb.sub (.inl hj)⟩
      · exact .inr ⟨by omega, by rw [hsz]; exact hj.2⟩
    · rcases hk with hk | hk
      · have := hsub k hk; omega
      · exact hk.2
set_option maxHeartbeats 4000000 in
set_option maxRecDepth 100000 in
theorem bk_sum (b g k : Nat) (S : Nat → Prop) (T sh : List (List Nat)) (V : Value) (Ls : List (List Nat)) (u : World) (h : IsBook u b g S T sh) (hk : k < 256) (hP : Pts u V Ls) (hn : Ls.length ≤ 1000) (hl : Ls.flatten.length ≤ 800000) :
    Calls Tryz.prog 43 #[.pointer (some ⟨b, 0, none⟩), .int .u8 (k : Int), V] u (SumTo u b g S T sh (txt k Ls)) := by
  have hby := bk_flat_byte hP.byte
  have hbt : ∀ i, (txt k Ls).getD i 0 < 256 := fun i => by
    unfold txt
    cases i with
    | zero => exact hk
    | succ i => exact hby i
  have htl : (txt k Ls).length = Ls.flatten.length + 1 := by unfold txt; simp
  have hsub : ∀ j, S j → j < u.heap.size := fun j hj => h.sub hj
  have hbl := h.lt
  have hbS := h.sb
  have hcells : u.cell? ⟨b, 0, none⟩ = some (.func (Fn.func 38) #[.pointer (some ⟨g, 0, none⟩)] #[]) := by obtain ⟨bm, f, vs, q⟩ := h; exact q.cells.1
  have htab : IsTab u g := by obtain ⟨bm, f, vs, q⟩ := h; exact q.tab
  have hz := zero_dig
  have hx1 := heap_alloc_new u (.cells (zeros 32) 34)
  have hb1 : Below u.heap.size u (u.alloc (.cells (zeros 32) 34)) := (Below.refl _ _).alloc (Nat.le_refl _) _
  have hs1 : (u.alloc (.cells (zeros 32) 34)).heap.size = u.heap.size + 1 := by simp
  have HX1 := Lib.hid hx1
  have HB1 := Lib.hid hb1
  have HS1 := Lib.hid hs1
  have HBK := Lib.hid h
  have HP := Lib.hid hP
  have HBT := Lib.hid hbt
  have HTL := Lib.hid htl
  have HSUB := Lib.hid hsub
  have HTAB := Lib.hid htab
  have HC : Hid (∀ W, Below u.heap.size u W → W.cell? ⟨b, 0, none⟩ = some (.func (Fn.func 38) #[.pointer (some ⟨g, 0, none⟩)] #[])) := Lib.hid fun W hW => (hW.cell (p := ⟨b, 0, none⟩) hbl).trans hcells
  have hsome := sum_some g
  have hc1 := HC.out _ HB1.out
  clear h hP hbt htl hsub htab hx1 hb1 hs1 hcells hby
  go_enter Tryz.func43, Tryz.ntmps43
  go_wp2_with fail
  have HS2 : Hid (((u.alloc (.cells (zeros 32) 34)).alloc (.cells #[.int .u8 (k : Int)] 5)).heap.size = u.heap.size + 2) := Lib.hid (by simp)
  have HB2 : Hid (Below (u.heap.size + 1) (u.alloc (.cells (zeros 32) 34)) ((u.alloc (.cells (zeros 32) 34)).alloc (.cells #[.int .u8 (k : Int)] 5))) := Lib.hid ((Below.refl _ _).alloc (by rw [HS1.out]; omega) _)
  have HO2 : Hid (Own ((u.alloc (.cells (zeros 32) 34)).alloc (.cells #[.int .u8 (k : Int)] 5)) (u.heap.size + 1) (.slice (some ⟨u.heap.size + 1, 0, none⟩) 1 1) [k]) := Lib.hid (Own.blk (Nat.le_refl _) (by have := heap_alloc_new (u.alloc (.cells (zeros 32) 34)) (.cells #[.int .u8 (k : Int)] 5); rw [HS1.out] at this; exact this) rfl (by omega) (by unfold maxLen; omega) rfl rfl)
  generalize u.alloc (.cells (zeros 32) 34) = W1 at *
  generalize W1.alloc (.cells #[.int .u8 (k : Int)] 5) = W2 at *
  obtain ⟨m, hm⟩ : ∃ m, m = Ls.flatten.length := ⟨_, rfl⟩
  have HM := Lib.hid hm
  have HB12 : Hid (Below u.heap.size u W2) := Lib.hid (HB1.out.trans (HB2.out.mono (by omega)))
  refine (bk_join V Ls W2 (HP.out.below HB12.out) (by omega) (by omega)).mono ?_
  rintro e w3 ⟨A3, c3, rfl, hb3, hs3, hz3⟩
  rw [← HM.out] at hs3 hl
  rw [← HM.out]
  have HTL2 : Hid ((txt k Ls).length = m + 1) := Lib.hid (by rw [HTL.out, ← HM.out])
  have HB13 : Hid (Below (u.heap.size + 1) W1 w3) := Lib.hid (HB2.out.trans (hb3.mono (by rw [HS2.out]; omega)))
  have HO3 : Hid (Own w3 (u.heap.size + 1) (.slice (some ⟨u.heap.size + 1, 0, none⟩) 1 1) [k]) := Lib.hid (HO2.out.below hb3)
  have HS3 := Lib.hid hs3
  have HZ3 := Lib.hid hz3
  have HN3 : Hid (([k] : List Nat).length + m < 1000000000) := Lib.hid (by simp; omega)
  have HL3 : Hid (u.heap.size + 1 ≤ w3.heap.size) := Lib.hid (by have := HB13.out.size; rw [HS1.out] at this; exact this)
  clear hm hb3 hs3 hz3 HP HO2 HB2 HS2 HB12 HTL hc1
  go_wp2_with (
    at_builtin
    refine wp_apps w3 rfl _ _ rfl (u.heap.size + 1) (.slice (some ⟨u.heap.size + 1, 0, none⟩) 1 1) [k] rfl HO3.out w3.heap.size A3 m c3 Ls.flatten rfl HS3.out HZ3.out HN3.out HL3.out ?_
    intro v4 w4 hown4 hb4
    have HB14 : Hid (Below (u.heap.size + 1) W1 w4) := Lib.hid (HB13.out.trans hb4)
    have HB4 : Hid (Below u.heap.size u w4) := Lib.hid (HB1.out.trans (HB14.out.mono (by omega)))
    have c4 := HC.out _ HB4.out
    have hown5 : Own w4 (u.heap.size + 1) v4 (txt k Ls) := hown4
    obtain ⟨A4, c4', rfl, hbs4⟩ := hown5.bs HBT.out
    have HO4 := Lib.hid hown5
    have HS4 := Lib.hid hbs4
    obtain ⟨n, hn⟩ : ∃ n, n = (txt k Ls).length := ⟨_, rfl⟩
    have HNN := Lib.hid hn
    rw [← hn] at HO4 HS4 ⊢
    clear hn hown4 hown5 hbs4 hb4)
  have hw5 := heap_alloc_new w4 (.cells #[.slice A4 n c4'] 89)
  have hz5 : (w4.alloc (.cells #[.slice A4 n c4'] 89)).heap.size = w4.heap.size + 1 := by simp
  have hb5 : Below w4.heap.size w4 (w4.alloc (.cells #[.slice A4 n c4'] 89)) := (Below.refl _ _).alloc (Nat.le_refl _) _
  have HW5 := Lib.hid hw5
  have HZ5 := Lib.hid hz5
  have HB5 := Lib.hid hb5
  clear hw5 hz5 hb5
  generalize w4.alloc (.cells #[.slice A4 n c4'] 89) = W5 at *
  have hfl : ([txt k Ls] : List (List Nat)).flatten = txt k Ls := by simp
  have HB45 : Hid (Below u.heap.size u W5) := Lib.hid (HB4.out.trans (HB5.out.mono HB4.out.size))
  have hts := tsum_any g [txt k Ls] (.slice (some ⟨w4.heap.size, 0, none⟩) 1 1) W5 (Row.below HTAB.out HB45.out (Row.lt HTAB.out)) (fun X hX => parts_one HW5.out (by have := HZ5.out; omega) ((HS4.out.below HB5.out).more HB5.out.size) (fun h0 ad e => by
    obtain ⟨bb, oo, e2, hlt, _⟩ := HS4.out.at_ h0
    rw [e] at e2
    obtain rfl := Option.some.inj e2
    have := HZ5.out
    show bb ≠ X
    omega)) (by rw [hfl]; exact HBT.out) (by rw [hfl, HTL2.out]; omega) (by simp)
  rw [hfl] at hts
  refine hts.mono ?_
  rintro e w6 ⟨rfl, hb6⟩
  clear hts hfl
  have HB6 : Hid (Below w4.heap.size w4 w6) := Lib.hid (HB5.out.trans (hb6.mono HB5.out.size))
  have HB16 : Hid (Below (u.heap.size + 1) W1 w6) := Lib.hid (HB14.out.trans (HB6.out.mono (by have := HB14.out.size; rw [HS1.out] at this; exact this)))
  obtain ⟨da, hda⟩ : ∃ da, da = digA (txt k Ls) := ⟨_, rfl⟩
  have hda2 : da.size = 32 := by rw [hda]; unfold digA; rw [rowV_size]
  have HI := Lib.hid (info_dig hda2)
  have HO : Hid (da.all (·.oneCell') = true) := Lib.hid (by rw [hda]; exact one_dig _)
  have HZ : Hid ((zeros 32).size = da.size) := Lib.hid (by rw [hda2]; simp [zeros])
  have HDA := Lib.hid hda
  rw [← hda]
  have hx7 := heap_alloc_new w6 (.cells (zeros 32) 34)
  obtain ⟨W7, hW7⟩ : ∃ W7, W7 = w6.alloc (.cells (zeros 32) 34) := ⟨_, rfl⟩
  have HX7 := Lib.hid hx7
  have HX8 : Hid (((w6.alloc (.cells (zeros 32) 34)).setRow w6.heap.size da).heap[w6.heap.size]? = some (.cells da 34 (0, 0))) := Lib.hid (setRow_heap _ _ _ da _ _ hx7)
  have HB8 : Hid (Below w6.heap.size w6 ((w6.alloc (.cells (zeros 32) 34)).setRow w6.heap.size da)) := Lib.hid (below_setRow (g := w6.heap.size) ((Below.refl _ _).alloc (Nat.le_refl _) _) (Nat.le_refl _) da)
  have HZ8 : Hid (((w6.alloc (.cells (zeros 32) 34)).setRow w6.heap.size da).heap.size = w6.heap.size + 1) := Lib.hid (by simp [World.setRow])
  clear hb6 hda hda2 hx7 hW7
  go_wp2_with (first
    | (with_reducible refine wpList_store_row rfl 34 (.tmp 8) (.tmp 30) rfl _ _ rfl rfl 34 _ HX7.out HI.out HZ.out HO.out ?_)
    | (with_reducible refine wpList_load_row rfl 34 (.tmp 8) rfl _ rfl 34 _ _ _ HX8.out Tryz.underlying34 rfl HI.out ?_))
  generalize (w6.alloc (.cells (zeros 32) 34)).setRow w6.heap.size da = W8 at *
  have HB48 : Hid (Below w4.heap.size w4 W8) := Lib.hid (HB6.out.trans (HB8.out.mono HB6.out.size))
  have HB08 : Hid (Below u.heap.size u W8) := Lib.hid (HB4.out.trans (HB48.out.mono HB4.out.size))
  have HR8 : Hid (W8.heap[u.heap.size]? = some (.cells (zeros 32) 34 (0, 0))) := Lib.hid (((HB16.out.trans (HB8.out.mono (by have := HB16.out.size; rw [HS1.out] at this; exact this))).block u.heap.size (by omega)).trans HX1.out)
  have hlt4 : ∀ q, (Value.slice A4 n c4').ownBlock = some q → u.heap.size + 1 ≤ q ∧ q < w4.heap.size := fun q hq => by
    have h9 := HO4.out
    obtain ⟨h91, h92⟩ := h9
    rcases h92 with ⟨e, _⟩ | ⟨gg, cap, cur, e, hg, hh, _⟩
    · rw [e] at hq; cases hq
    · rw [e] at hq
      obtain rfl : gg = q := Option.some.inj hq
      exact ⟨hg, blk_lt hh⟩
  have hsz48 : w4.heap.size ≤ w6.heap.size := HB6.out.size
  have hz8 := HZ8.out
  have hS1 : ∀ q, (S q ∨ (Value.slice A4 n c4').ownBlock = some q) → S q ∨ (u.heap.size ≤ q ∧ q ≠ u.heap.size) := fun q hq => hq.imp id fun e => by have := (hlt4 q e).1; omega
  have hTI : TI W8 (fun q => S q ∨ (Value.slice A4 n c4').ownBlock = some q) (txt k Ls) (.slice A4 n c4') := ⟨by
    have h9 := HO4.out.keep (w' := W8) (fun q hq => HB48.out.block q (hlt4 q hq).2)
    exact ⟨h9.1, h9.2.imp id fun ⟨gg, cap, cur, e1, e2, e3⟩ => ⟨gg, cap, cur, e1, Nat.zero_le _, e3⟩⟩, HBT.out, fun q hq => .inr hq⟩
  have hBK : IsBook W8 b g (fun q => S q ∨ (Value.slice A4 n c4').ownBlock = some q) T sh := HBK.out.keep (fun j hj => HB08.out.block j (HSUB.out j hj)) (fun j hj => .inl hj) (fun q hq => by
    rcases hq with hq | hq
    · have := HSUB.out q hq; have := HB08.out.size; omega
    · have := (hlt4 q hq).2; omega)
  have HMT : Hid (Calls Tryz.prog 62 #[.pointer (some ⟨b, 0, none⟩), .agg da, .slice A4 n c4'] W8 (MeetTo W8 b g (fun q => S q ∨ (Value.slice A4 n c4').ownBlock = some q) T sh (txt k Ls))) := Lib.hid (by
    rw [HDA.out]
    exact meet_any b g _ T sh (txt k Ls) _ W8 hBK hTI (by rw [HTL2.out]; omega))
  have HS1' := Lib.hid hS1
  have hnr : ¬ (S u.heap.size ∨ (Value.slice A4 n c4').ownBlock = some u.heap.size) := fun q => by
    rcases q with q | q
    · have := HSUB.out _ q; omega
    · have := (hlt4 _ q).1; omega
  have hn6 : ¬ (S w6.heap.size ∨ (Value.slice A4 n c4').ownBlock = some w6.heap.size) := fun q => by
    rcases q with q | q
    · have := HSUB.out _ q; have := HB4.out.size; omega
    · have := (hlt4 _ q).2; omega
  have HNR := Lib.hid hnr
  have HN6 := Lib.hid hn6
  have hl6 : w6.heap.size < W8.heap.size := by omega
  have hlu : u.heap.size < W8.heap.size := by have := HB4.out.size; omega
  have HL6 := Lib.hid hl6
  have HLU := Lib.hid hlu
  clear hlt4 hsz48 hz8 hS1 hTI hBK hnr hn6 hl6 hlu c4
  refine HMT.out.mono ?_
  rintro e w9 ⟨rfl, ht9, hb9⟩
  have HX9 : Hid (w9.heap[w6.heap.size]? = some (.cells da 34 (0, 0))) := Lib.hid ((ht9.block _ HL6.out HN6.out).trans HX8.out)
  have HR9 : Hid (w9.heap[u.heap.size]? = some (.cells (zeros 32) 34 (0, 0))) := Lib.hid ((ht9.block _ HLU.out HNR.out).trans HR8.out)
  have HE : Hid (Turns S u (w9.setRow u.heap.size da) ∧ IsBook (w9.setRow u.heap.size da) b g (fun q => S q ∨ (u.heap.size ≤ q ∧ q < (w9.setRow u.heap.size da).heap.size)) (bkT T (txt k Ls)) (bkS T sh (txt k Ls))) := Lib.hid (sum_end (cs := da) HB08.out HS1'.out rfl HLU.out ⟨rfl, ht9, hb9⟩ HSUB.out)
  have HFX : Hid ((w9.setRow u.heap.size da).heap[u.heap.size]? = some (.cells da 34 (0, 0))) := Lib.hid (setRow_heap _ _ _ da _ _ HR9.out)
  clear ht9 hb9
  go_wp2_with (first
    | (with_reducible refine wpList_load_row rfl 34 (.tmp 8) rfl _ rfl 34 _ _ _ HX9.out Tryz.underlying34 rfl HI.out ?_)
    | (with_reducible refine wpList_store_row rfl 34 (.tmp 6) (.tmp 35) rfl _ _ rfl rfl 34 _ HR9.out HI.out HZ.out HO.out ?_))
  exact bodyPost_ret (v := .agg da) (results_cell_row rfl _ _ _ 34 _ (0, 0) _ rfl HFX.out Tryz.underlying34 rfl HI.out) rfl ⟨by rw [HDA.out], HE.out.1, HE.out.2⟩
end Go.Proofs.YtoclelpmampikaaGreat
