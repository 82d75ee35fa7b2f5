/-
  Package garderobelaw14: Cut.
-/
import Derived.Test.YtnalebocfbbpdaaLgH
import Derived.Deep.Cut
namespace Go.Proofs.Ytnalebocfbbpdaa
open Go.RowKit Go
set_option linter.unusedVariables false
set_option linter.unusedSimpArgs false
set_option maxRecDepth 100000
def cutE (f : Bool) (e : Int × List Nat) : Int × List Nat := (e.1, if f then fullL (e.2.take 260) else e.2.take 260)
def cutL (f : Bool) (es : List (Int × List Nat)) : List (Int × List Nat) := (es.take 30).map (cutE f)
def CutTo (w : World) (cnt : Nat) (es : List (Int × List Nat)) (e : Ending) (w' : World) : Prop :=
  ∃ A c, e = .returned (.agg #[.int .u64 (cnt : Int), .slice A es.length c]) ∧ Below w.heap.size w w' ∧ EsV w' A es.length es ∧ EsZ w' A es.length
def CuR (w : World) (cnt : Nat) (f : Bool) (es : List (Int × List Nat)) (iv : Value) (wr : World) : Prop :=
  ∃ (k : Nat) (v : Value), iv = .int .i64 (k : Int) ∧ k ≤ es.length ∧ k ≤ 30 ∧ LgB wr (w.heap.size + 1) 27 0 (.slice none 0 0) ∧ LgB wr (w.heap.size + 2) 27 cnt v ∧ EnO 55 wr w.heap.size (w.heap.size + 3) v ((es.take k).map (cutE f)) ∧ Below w.heap.size w wr ∧ w.heap.size + 3 ≤ wr.heap.size
theorem take_ne (l : List Nat) (n : Nat) : (l.take n).length = min n l.length := List.length_take
theorem LgB.setc {w : World} {g : Nat} {t : TypeId} {cnt : Nat} {v : Value} (h : LgB w g t cnt v) (x : Value) : LgB (w.setCell ⟨g, 1, none⟩ x) g t cnt x := by
  have := blk_set h 1 x
  simpa [LgB] using this
theorem LgB.far {w : World} {g : Nat} {t : TypeId} {cnt : Nat} {v : Value} (h : LgB w g t cnt v) (p : Addr) (hp : p.block ≠ g) (x : Value) : LgB (w.setCell p x) g t cnt v :=
  (show _ = w.heap[g]? by simp [World.setCell, Array.getElem?_modify, hp]).trans h
set_option maxHeartbeats 4000000 in
theorem cut_any (cnt : Nat) (f : Bool) (A : Option Addr) (n c : Nat) (es : List (Int × List Nat)) (w : World) (hE : EsV w A n es) (hZ : EsZ w A n) (hn9 : n ≤ 9223372036854775807) :
    Calls Try.prog 5 #[.agg #[.int .u64 (cnt : Int), .slice A n c], .bool f] w (CutTo w cnt (cutL f es)) := by
  have hl := hE.1
  have HE := Lib.hid hE
  have HZ := Lib.hid hZ
  have HL := Lib.hid hl
  obtain ⟨W0, hW⟩ : ∃ W0, W0 = (((w.alloc (.cells #[.int .u64 (cnt : Int), .slice A n c] 27)).alloc (.cells #[.int .u64 (0 : Nat), .slice none 0 0] 27)).alloc (.cells #[.int .u64 (cnt : Int), .slice none 0 0] 27)) := ⟨_, rfl⟩
  have HR : Hid (CuR w cnt f es (.int .i64 0) W0) := Lib.hid (by
    have hb : Below w.heap.size w W0 := by
      rw [hW]
      exact (((Below.refl _ _).alloc (Nat.le_refl _) _).alloc (by simp) _).alloc (by simp; omega) _
    have h2 := heap_alloc_new ((w.alloc (.cells #[.int .u64 (cnt : Int), .slice A n c] 27)).alloc (.cells #[.int .u64 (0 : Nat), .slice none 0 0] 27)) (.cells #[.int .u64 (cnt : Int), .slice none 0 0] 27)
    have h1 := blk_alloc (heap_alloc_new (w.alloc (.cells #[.int .u64 (cnt : Int), .slice A n c] 27)) (.cells #[.int .u64 (0 : Nat), .slice none 0 0] 27)) (.cells #[.int .u64 (cnt : Int), .slice none 0 0] 27)
    rw [show (w.alloc (.cells #[.int .u64 (cnt : Int), .slice A n c] 27)).heap.size = w.heap.size + 1 by simp] at h1
    rw [show ((w.alloc (.cells #[.int .u64 (cnt : Int), .slice A n c] 27)).alloc (.cells #[.int .u64 (0 : Nat), .slice none 0 0] 27)).heap.size = w.heap.size + 2 by simp] at h2
    rw [← hW] at h1 h2
    exact ⟨0, .slice none 0 0, rfl, by omega, by omega, h1, h2, EnO.nil _ _ _ _, hb, by rw [hW]; simp⟩)
  have HW := Lib.hid hW
  clear hE hZ hl hW
  go_enter Try.func5, Try.ntmps5
  go_wp2_with fail
  go_loopw [14] (fun iv wr => CuR w cnt f es iv wr) (fun iv _ => (n - intOf iv).toNat)
  case atStart => rw [HW.out] at HR; exact HR.out
  case round =>
    clear HR HW
    obtain ⟨k, v, rfl, hk, hk30, hr1, hr2, hO, hb, hsz⟩ := hrel
    have HR1 := Lib.hid hr1
    have HR2 := Lib.hid hr2
    have HO := Lib.hid hO
    have HB := Lib.hid hb
    clear hr1 hr2 hO hb
    by_cases hlt : k < n
    · obtain ⟨b, o, rfl, hEs⟩ := HE.out.2 (by omega)
      obtain ⟨A1, c1, q1, q2, q3⟩ := hEs.2 k (by rw [HL.out]; exact hlt)
      have p1 : wr.cell? ⟨b, o + k * 2, none⟩ = some (.int .i64 (kAt es k)) := (HB.out.cell (p := ⟨b, o + k * 2, none⟩) hEs.1).trans q1
      have p2 : wr.cell? ⟨b, o + k * 2 + 1, none⟩ = some (.slice A1 (dAt es k).length c1) := (HB.out.cell (p := ⟨b, o + k * 2 + 1, none⟩) hEs.1).trans q2
      have HA1 : Hid (A1 = none → c1 = 0) := Lib.hid fun e => HZ.out b o rfl k hlt _ _ (by rw [← e]; exact q2)
      have HS1 : Hid (BS w w.heap.size A1 (dAt es k).length c1 (dAt es k)) := Lib.hid q3
      have hcap : (dAt es k).length ≤ c1 ∧ c1 ≤ 9223372036854775807 := q3.cap
      have HTK : Hid ((es.take (k + 1)).map (cutE f) = (es.take k).map (cutE f) ++ [(kAt es k, (cutE f (kAt es k, dAt es k)).2)]) := Lib.hid (by
        have hke : k < es.length := by rw [HL.out]; exact hlt
        have e1 : (kAt es k, dAt es k) = es[k] := by unfold kAt dAt; simp [List.getD, List.getElem?_eq_getElem hke]
        rw [List.take_succ_eq_append_getElem hke, List.map_append, e1]
        have e2 : kAt es k = (es[k]).1 := by rw [← e1]
        rw [e2]; rfl)
      have HTL : Hid (((es.take k).map (cutE f)).length < 1000) := Lib.hid (by rw [List.length_map, List.length_take]; omega)
      have hlt1 : b < wr.heap.size := Nat.lt_of_lt_of_le hEs.1 HB.out.size
      obtain ⟨nl, hnl⟩ : ∃ nl, (dAt es k).length = nl := ⟨_, rfl⟩
      have HNL := Lib.hid hnl
      rw [hnl] at p2 HS1 hcap
      clear q1 q2 q3 hEs hnl
      have HNX : Hid (∀ (v' : Value) (w' : World), k < 30 → LgB w' (w.heap.size + 1) 27 0 (.slice none 0 0) → LgB w' (w.heap.size + 2) 27 cnt v' → EnO 55 w' w.heap.size (w.heap.size + 3) v' ((es.take k).map (cutE f) ++ [(kAt es k, (cutE f (kAt es k, dAt es k)).2)]) → Below w.heap.size w w' → w.heap.size + 3 ≤ w'.heap.size → CuR w cnt f es (.int .i64 ((k : Int) + 1)) w') := Lib.hid fun v' w' h0 h1 h2 h3 h4 h5 => ⟨k + 1, v', rfl, by rw [HL.out]; omega, by omega, h1, h2, by rw [HTK.out]; exact h3, h4, h5⟩
      clear HTK
      by_cases h30 : k < 30
      · have h30i : ¬ (30 : Int) ≤ (k : Int) := by omega
        have h30j : decide ((30 : Int) ≤ (k : Int)) = false := decide_eq_false h30i
        generalize (es.take k).map (cutE f) = pre at *
        unfold cutE at HNX
        dsimp only at HNX
        generalize kAt es k = X at *
        generalize dAt es k = l at *
        by_cases h260 : nl ≤ 260
        · have h260i : ¬ (260 : Int) < (nl : Int) := by omega
          have h260j : decide ((260 : Int) < (nl : Int)) = false := decide_eq_false h260i
          have HS2 : Hid (BS w w.heap.size A1 nl c1 (l.take 260)) := Lib.hid (by rw [List.take_of_length_le (by rw [HNL.out]; exact h260)]; exact HS1.out)
          have HLN2 : Hid ((l.take 260).length = nl) := Lib.hid (by rw [List.length_take, HNL.out]; omega)
          generalize l.take 260 = l2 at *
          cases f
          · have HB5 : Hid (Below wr.heap.size wr (wr.alloc (.cells #[.int .i64 X, .slice A1 nl c1] 55))) := Lib.hid ((Below.refl _ _).alloc (Nat.le_refl _) _)
            have HX5 := Lib.hid (heap_alloc_new wr (.cells #[.int .i64 X, .slice A1 nl c1] 55))
            have hs5 : (wr.alloc (.cells #[.int .i64 X, .slice A1 nl c1] 55)).heap.size = wr.heap.size + 1 := by simp
            have k5 : (wr.alloc (.cells #[.int .i64 X, .slice A1 nl c1] 55)).cell? ⟨w.heap.size + 1 + 1, 1, none⟩ = some v := (LgB.snd (HB5.out.block _ (by omega) |>.trans HR2.out))
            have HO5 : Hid (EnO 55 (wr.alloc (.cells #[.int .i64 X, .slice A1 nl c1] 55)) w.heap.size (w.heap.size + 3) v pre) := Lib.hid (HO.out.below (by omega) hsz HB5.out)
            have HI5 : Hid (EnI (wr.alloc (.cells #[.int .i64 X, .slice A1 nl c1] 55)) w.heap.size (w.heap.size + 3) A1 c1 l2) := Lib.hid ⟨.inl (by rw [HLN2.out]; exact HS2.out.below (HB.out.trans (HB5.out.mono HB.out.size))), HA1.out⟩
            have HB5w : Hid (w.heap.size + 3 ≤ (wr.alloc (.cells #[.int .i64 X, .slice A1 nl c1] 55)).heap.size) := Lib.hid (by rw [hs5]; omega)
            have HV : Hid (∀ g, v.ownBlock = some g → w.heap.size + 3 ≤ g ∧ g < wr.heap.size) := Lib.hid (by obtain ⟨vs, h, _⟩ := HO.out; exact fun g e => World.ownsRow.lt h g e)
            have HS5 := Lib.hid hs5
            clear hs5
            go_wp2_with (at_builtin; refine wp_appE 55 25 Try.underlying25 (by kernel_rfl) (by decide) _ rfl (.tmp 35) (.tmp 37) rfl w.heap.size (w.heap.size + 3) (by omega) v pre X A1 c1 nl l2 HLN2.out rfl HO5.out HTL.out (by rw [← HS5.out]; rfl) HI5.out HB5w.out ?_; intro v10 w10 hO10 hb10 hfar10; obtain ⟨nn, A10, cc, rfl⟩ : ∃ nn A cc, v10 = .slice A nn cc := by { obtain ⟨A, c, e, _⟩ := hO10.esV (by omega) (Nat.le_trans HB5w.out hb10.size); exact ⟨_, A, c, e⟩ }; have HG3 : Hid (LgB w10 (w.heap.size + 2) 27 cnt v) := Lib.hid ((hb10.block _ (by omega)).trans ((HB5.out.block _ (by omega)).trans HR2.out)); have f10 : w10.frozen? ⟨w.heap.size + 1 + 1, 1, none⟩ = false := blk_free HG3.out 1; have c10 : w10.cell? ⟨w.heap.size + 1 + 1, 1, none⟩ = some v := HG3.out.snd; have HO10 := Lib.hid hO10; have HBX := Lib.hid hb10; clear hO10 hb10 hfar10)
            have HOU : Hid (CuR w cnt false es (.int .i64 ((k : Int) + 1)) (w10.setCell ⟨w.heap.size + 1 + 1, 1, none⟩ (.slice A10 nn cc))) := Lib.hid (by
              have g1 : w10.heap[w.heap.size + 1]? = wr.heap[w.heap.size + 1]? := (HBX.out.block _ (by omega)).trans (HB5.out.block _ (by omega))
              have g5 : Below w.heap.size w w10 := HB.out.trans ((HB5.out.mono HB.out.size).trans (HBX.out.mono (by omega)))
              refine HNX.out (.slice A10 nn cc) _ h30 ?_ (HG3.out.setc _) (HO10.out.set _ (by show w.heap.size ≤ w.heap.size + 1 + 1; omega) (by show w.heap.size + 1 + 1 < w.heap.size + 3; omega) (.slice A10 nn cc)) ?_ ?_
              · exact LgB.far (g1.trans HR1.out) _ (by show w.heap.size + 1 + 1 ≠ w.heap.size + 1; omega) _
              · exact g5.setCell (by show w.heap.size ≤ w.heap.size + 1 + 1; omega) (.slice A10 nn cc)
              · rw [size_set]; exact Nat.le_trans HB5w.out HBX.out.size)
            go_roundw
            case rel => exact HOU.out
            case measure => simp [intOf]; omega
          · have HB5 : Hid (Below wr.heap.size wr (wr.alloc (.cells #[.int .i64 X, .slice A1 nl c1] 55))) := Lib.hid ((Below.refl _ _).alloc (Nat.le_refl _) _)
            have HX5 := Lib.hid (heap_alloc_new wr (.cells #[.int .i64 X, .slice A1 nl c1] 55))
            have hs5 : (wr.alloc (.cells #[.int .i64 X, .slice A1 nl c1] 55)).heap.size = wr.heap.size + 1 := by simp
            have HFU := Lib.hid (full_any A1 nl c1 l2 HA1.out (wr.alloc (.cells #[.int .i64 X, .slice A1 nl c1] 55)) ((HS2.out.below (HB.out.trans (HB5.out.mono HB.out.size))).more (by rw [hs5]; have := HB.out.size; omega)))
            have HFL := Lib.hid (full_len l2)
            have HFB := Lib.hid (fullL_byte (HS2.out.byte))
            have HV : Hid (∀ g, v.ownBlock = some g → w.heap.size + 3 ≤ g ∧ g < wr.heap.size) := Lib.hid (by obtain ⟨vs, h, _⟩ := HO.out; exact fun g e => World.ownsRow.lt h g e)
            have HS5 := Lib.hid hs5
            clear hs5
            generalize fullL l2 = l3 at *
            go_wp2_with fail
            generalize (wr.alloc (.cells #[.int .i64 X, .slice A1 nl c1] 55)) = W5 at *
            refine HFU.out.mono ?_
            rintro e w7 ⟨v7, rfl, hown7, hb7⟩
            obtain ⟨A7, c7, rfl, _⟩ := hown7.bs HFB.out
            rw [HFL.out] at hown7 ⊢
            have HX7 : Hid (w7.heap[wr.heap.size]? = some (.cells #[.int .i64 X, .slice A1 nl c1] 55 (0, 0))) := Lib.hid ((hb7.block _ (by rw [HS5.out]; omega)).trans HX5.out)
            have HX8 : Hid ((w7.setCell ⟨wr.heap.size, 1, none⟩ (.slice A7 256 c7)).heap[wr.heap.size]? = some (.cells #[.int .i64 X, .slice A7 256 c7] 55 (0, 0))) := Lib.hid (by have := blk_set HX7.out 1 (.slice A7 256 c7); simpa using this)
            have x0 := blk_cell HX8.out 0
            have x1 := blk_cell HX8.out 1
            have y1 : w7.cell? ⟨wr.heap.size, 1, none⟩ = some (.slice A1 nl c1) := blk_cell HX7.out 1
            have y2 := blk_free HX7.out 1
            have HB7 : Hid (Below wr.heap.size wr (w7.setCell ⟨wr.heap.size, 1, none⟩ (.slice A7 256 c7))) := Lib.hid ((HB5.out.trans (hb7.mono HB5.out.size)).setCell (Nat.le_refl _) _)
            have HW7 : Hid (wr.heap.size + 1 ≤ (w7.setCell ⟨wr.heap.size, 1, none⟩ (.slice A7 256 c7)).heap.size) := Lib.hid (by rw [size_set, ← HS5.out]; exact hb7.size)
            have k5 : (w7.setCell ⟨wr.heap.size, 1, none⟩ (.slice A7 256 c7)).cell? ⟨w.heap.size + 1 + 1, 1, none⟩ = some v := (LgB.snd (HB7.out.block _ (by omega) |>.trans HR2.out))
            have HO5 : Hid (EnO 55 (w7.setCell ⟨wr.heap.size, 1, none⟩ (.slice A7 256 c7)) w.heap.size (w.heap.size + 3) v pre) := Lib.hid (HO.out.below (by omega) hsz HB7.out)
            have HI5 : Hid (EnI (w7.setCell ⟨wr.heap.size, 1, none⟩ (.slice A7 256 c7)) w.heap.size (w.heap.size + 3) A7 c7 l3) := Lib.hid ⟨.inr ⟨by
              rw [HFL.out]
              exact ((hown7.keep fun g hg => Below.heap_setCell w7 ⟨wr.heap.size, 1, none⟩ _ g (by have := (hown7.lt hg).1; rw [HS5.out] at this; show g ≠ wr.heap.size; omega)).base (by rw [HS5.out]; omega)), HFB.out⟩, own_zero hown7⟩
            have HB5w : Hid (w.heap.size + 3 ≤ (w7.setCell ⟨wr.heap.size, 1, none⟩ (.slice A7 256 c7)).heap.size) := Lib.hid (Nat.le_trans hsz (by have := HW7.out; omega))
            clear hown7 hb7
            obtain ⟨W8, hW8⟩ : ∃ W8, W8 = w7.setCell ⟨wr.heap.size, 1, none⟩ (.slice A7 256 c7) := ⟨_, rfl⟩
            have HW8 := Lib.hid hW8.symm
            rw [← hW8] at HX8 HB7 HW7 k5 HO5 HI5 HB5w x0 x1
            clear hW8
            go_upto_region 10 with (fail)
            rw [HW8.out]
            clear HW8 y1 y2
            go_wp2_with (first
              | (at_builtin; refine wp_appE 55 25 Try.underlying25 (by kernel_rfl) (by decide) _ rfl (.tmp 35) (.tmp 37) rfl w.heap.size (w.heap.size + 3) (by omega) v pre X A7 c7 256 l3 HFL.out rfl HO5.out HTL.out rfl HI5.out HB5w.out ?_; intro v10 w10 hO10 hb10 hfar10; obtain ⟨nn, A10, cc, rfl⟩ : ∃ nn A cc, v10 = .slice A nn cc := by { obtain ⟨A, c, e, _⟩ := hO10.esV (by omega) (Nat.le_trans HB5w.out hb10.size); exact ⟨_, A, c, e⟩ }; have HG3 : Hid (LgB w10 (w.heap.size + 2) 27 cnt v) := Lib.hid ((hb10.block _ (by omega)).trans ((HB7.out.block _ (by omega)).trans HR2.out)); have f10 : w10.frozen? ⟨w.heap.size + 1 + 1, 1, none⟩ = false := blk_free HG3.out 1; have c10 : w10.cell? ⟨w.heap.size + 1 + 1, 1, none⟩ = some v := HG3.out.snd; have HO10 := Lib.hid hO10; have HBX := Lib.hid hb10; clear hO10 hb10 hfar10))
            have HOU : Hid (CuR w cnt true es (.int .i64 ((k : Int) + 1)) (w10.setCell ⟨w.heap.size + 1 + 1, 1, none⟩ (.slice A10 nn cc))) := Lib.hid (by
              have g1 : w10.heap[w.heap.size + 1]? = wr.heap[w.heap.size + 1]? := (HBX.out.block _ (by omega)).trans (HB7.out.block _ (by omega))
              have g5 : Below w.heap.size w w10 := HB.out.trans ((HB7.out.mono HB.out.size).trans (HBX.out.mono (by omega)))
              refine HNX.out (.slice A10 nn cc) _ h30 ?_ (HG3.out.setc _) (HO10.out.set _ (by show w.heap.size ≤ w.heap.size + 1 + 1; omega) (by show w.heap.size + 1 + 1 < w.heap.size + 3; omega) (.slice A10 nn cc)) ?_ ?_
              · exact LgB.far (g1.trans HR1.out) _ (by show w.heap.size + 1 + 1 ≠ w.heap.size + 1; omega) _
              · exact g5.setCell (by show w.heap.size ≤ w.heap.size + 1 + 1; omega) (.slice A10 nn cc)
              · rw [size_set]; exact Nat.le_trans HB5w.out HBX.out.size)
            go_roundw
            case rel => exact HOU.out
            case measure => simp [intOf]; omega
        · have h260i : (260 : Int) < (nl : Int) := by omega
          have h260j : decide ((260 : Int) < (nl : Int)) = true := decide_eq_true h260i
          have hc260 : (260 : Int) ≤ (c1 : Int) := by omega
          have hc260' : 260 ≤ c1 := by omega
          have HS2 : Hid (BS w w.heap.size A1 260 c1 (l.take 260)) := Lib.hid (HS1.out.take (by omega))
          have HLN2 : Hid ((l.take 260).length = 260) := Lib.hid (by rw [List.length_take, HNL.out]; omega)
          generalize l.take 260 = l2 at *
          cases f
          · have HB5 : Hid (Below wr.heap.size wr (wr.alloc (.cells #[.int .i64 X, .slice A1 260 c1] 55))) := Lib.hid ((Below.refl _ _).alloc (Nat.le_refl _) _)
            have HX5 := Lib.hid (heap_alloc_new wr (.cells #[.int .i64 X, .slice A1 260 c1] 55))
            have hs5 : (wr.alloc (.cells #[.int .i64 X, .slice A1 260 c1] 55)).heap.size = wr.heap.size + 1 := by simp
            have k5 : (wr.alloc (.cells #[.int .i64 X, .slice A1 260 c1] 55)).cell? ⟨w.heap.size + 1 + 1, 1, none⟩ = some v := (LgB.snd (HB5.out.block _ (by omega) |>.trans HR2.out))
            have HO5 : Hid (EnO 55 (wr.alloc (.cells #[.int .i64 X, .slice A1 260 c1] 55)) w.heap.size (w.heap.size + 3) v pre) := Lib.hid (HO.out.below (by omega) hsz HB5.out)
            have HI5 : Hid (EnI (wr.alloc (.cells #[.int .i64 X, .slice A1 260 c1] 55)) w.heap.size (w.heap.size + 3) A1 c1 l2) := Lib.hid ⟨.inl (by rw [HLN2.out]; exact HS2.out.below (HB.out.trans (HB5.out.mono HB.out.size))), HA1.out⟩
            have HB5w : Hid (w.heap.size + 3 ≤ (wr.alloc (.cells #[.int .i64 X, .slice A1 260 c1] 55)).heap.size) := Lib.hid (by rw [hs5]; omega)
            have HV : Hid (∀ g, v.ownBlock = some g → w.heap.size + 3 ≤ g ∧ g < wr.heap.size) := Lib.hid (by obtain ⟨vs, h, _⟩ := HO.out; exact fun g e => World.ownsRow.lt h g e)
            have HS5 := Lib.hid hs5
            clear hs5
            go_wp2_with (at_builtin; refine wp_appE 55 25 Try.underlying25 (by kernel_rfl) (by decide) _ rfl (.tmp 35) (.tmp 37) rfl w.heap.size (w.heap.size + 3) (by omega) v pre X A1 c1 260 l2 HLN2.out rfl HO5.out HTL.out (by rw [← HS5.out]; rfl) HI5.out HB5w.out ?_; intro v10 w10 hO10 hb10 hfar10; obtain ⟨nn, A10, cc, rfl⟩ : ∃ nn A cc, v10 = .slice A nn cc := by { obtain ⟨A, c, e, _⟩ := hO10.esV (by omega) (Nat.le_trans HB5w.out hb10.size); exact ⟨_, A, c, e⟩ }; have HG3 : Hid (LgB w10 (w.heap.size + 2) 27 cnt v) := Lib.hid ((hb10.block _ (by omega)).trans ((HB5.out.block _ (by omega)).trans HR2.out)); have f10 : w10.frozen? ⟨w.heap.size + 1 + 1, 1, none⟩ = false := blk_free HG3.out 1; have c10 : w10.cell? ⟨w.heap.size + 1 + 1, 1, none⟩ = some v := HG3.out.snd; have HO10 := Lib.hid hO10; have HBX := Lib.hid hb10; clear hO10 hb10 hfar10)
            have HOU : Hid (CuR w cnt false es (.int .i64 ((k : Int) + 1)) (w10.setCell ⟨w.heap.size + 1 + 1, 1, none⟩ (.slice A10 nn cc))) := Lib.hid (by
              have g1 : w10.heap[w.heap.size + 1]? = wr.heap[w.heap.size + 1]? := (HBX.out.block _ (by omega)).trans (HB5.out.block _ (by omega))
              have g5 : Below w.heap.size w w10 := HB.out.trans ((HB5.out.mono HB.out.size).trans (HBX.out.mono (by omega)))
              refine HNX.out (.slice A10 nn cc) _ h30 ?_ (HG3.out.setc _) (HO10.out.set _ (by show w.heap.size ≤ w.heap.size + 1 + 1; omega) (by show w.heap.size + 1 + 1 < w.heap.size + 3; omega) (.slice A10 nn cc)) ?_ ?_
              · exact LgB.far (g1.trans HR1.out) _ (by show w.heap.size + 1 + 1 ≠ w.heap.size + 1; omega) _
              · exact g5.setCell (by show w.heap.size ≤ w.heap.size + 1 + 1; omega) (.slice A10 nn cc)
              · rw [size_set]; exact Nat.le_trans HB5w.out HBX.out.size)
            go_roundw
            case rel => exact HOU.out
            case measure => simp [intOf]; omega
          · have HB5 : Hid (Below wr.heap.size wr (wr.alloc (.cells #[.int .i64 X, .slice A1 260 c1] 55))) := Lib.hid ((Below.refl _ _).alloc (Nat.le_refl _) _)
            have HX5 := Lib.hid (heap_alloc_new wr (.cells #[.int .i64 X, .slice A1 260 c1] 55))
            have hs5 : (wr.alloc (.cells #[.int .i64 X, .slice A1 260 c1] 55)).heap.size = wr.heap.size + 1 := by simp
            have HFU := Lib.hid (full_any A1 260 c1 l2 HA1.out (wr.alloc (.cells #[.int .i64 X, .slice A1 260 c1] 55)) ((HS2.out.below (HB.out.trans (HB5.out.mono HB.out.size))).more (by rw [hs5]; have := HB.out.size; omega)))
            have HFL := Lib.hid (full_len l2)
            have HFB := Lib.hid (fullL_byte (HS2.out.byte))
            have HV : Hid (∀ g, v.ownBlock = some g → w.heap.size + 3 ≤ g ∧ g < wr.heap.size) := Lib.hid (by obtain ⟨vs, h, _⟩ := HO.out; exact fun g e => World.ownsRow.lt h g e)
            have HS5 := Lib.hid hs5
            clear hs5
            generalize fullL l2 = l3 at *
            go_wp2_with fail
            generalize (wr.alloc (.cells #[.int .i64 X, .slice A1 260 c1] 55)) = W5 at *
            refine HFU.out.mono ?_
            rintro e w7 ⟨v7, rfl, hown7, hb7⟩
            obtain ⟨A7, c7, rfl, _⟩ := hown7.bs HFB.out
            rw [HFL.out] at hown7 ⊢
            have HX7 : Hid (w7.heap[wr.heap.size]? = some (.cells #[.int .i64 X, .slice A1 260 c1] 55 (0, 0))) := Lib.hid ((hb7.block _ (by rw [HS5.out]; omega)).trans HX5.out)
            have HX8 : Hid ((w7.setCell ⟨wr.heap.size, 1, none⟩ (.slice A7 256 c7)).heap[wr.heap.size]? = some (.cells #[.int .i64 X, .slice A7 256 c7] 55 (0, 0))) := Lib.hid (by have := blk_set HX7.out 1 (.slice A7 256 c7); simpa using this)
            have x0 := blk_cell HX8.out 0
            have x1 := blk_cell HX8.out 1
            have y1 : w7.cell? ⟨wr.heap.size, 1, none⟩ = some (.slice A1 260 c1) := blk_cell HX7.out 1
            have y2 := blk_free HX7.out 1
            have HB7 : Hid (Below wr.heap.size wr (w7.setCell ⟨wr.heap.size, 1, none⟩ (.slice A7 256 c7))) := Lib.hid ((HB5.out.trans (hb7.mono HB5.out.size)).setCell (Nat.le_refl _) _)
            have HW7 : Hid (wr.heap.size + 1 ≤ (w7.setCell ⟨wr.heap.size, 1, none⟩ (.slice A7 256 c7)).heap.size) := Lib.hid (by rw [size_set, ← HS5.out]; exact hb7.size)
            have k5 : (w7.setCell ⟨wr.heap.size, 1, none⟩ (.slice A7 256 c7)).cell? ⟨w.heap.size + 1 + 1, 1, none⟩ = some v := (LgB.snd (HB7.out.block _ (by omega) |>.trans HR2.out))
            have HO5 : Hid (EnO 55 (w7.setCell ⟨wr.heap.size, 1, none⟩ (.slice A7 256 c7)) w.heap.size (w.heap.size + 3) v pre) := Lib.hid (HO.out.below (by omega) hsz HB7.out)
            have HI5 : Hid (EnI (w7.setCell ⟨wr.heap.size, 1, none⟩ (.slice A7 256 c7)) w.heap.size (w.heap.size + 3) A7 c7 l3) := Lib.hid ⟨.inr ⟨by
              rw [HFL.out]
              exact ((hown7.keep fun g hg => Below.heap_setCell w7 ⟨wr.heap.size, 1, none⟩ _ g (by have := (hown7.lt hg).1; rw [HS5.out] at this; show g ≠ wr.heap.size; omega)).base (by rw [HS5.out]; omega)), HFB.out⟩, own_zero hown7⟩
            have HB5w : Hid (w.heap.size + 3 ≤ (w7.setCell ⟨wr.heap.size, 1, none⟩ (.slice A7 256 c7)).heap.size) := Lib.hid (Nat.le_trans hsz (by have := HW7.out; omega))
            clear hown7 hb7
            obtain ⟨W8, hW8⟩ : ∃ W8, W8 = w7.setCell ⟨wr.heap.size, 1, none⟩ (.slice A7 256 c7) := ⟨_, rfl⟩
            have HW8 := Lib.hid hW8.symm
            rw [← hW8] at HX8 HB7 HW7 k5 HO5 HI5 HB5w x0 x1
            clear hW8
            go_upto_region 10 with (fail)
            rw [HW8.out]
            clear HW8 y1 y2
            go_wp2_with (first
              | (at_builtin; refine wp_appE 55 25 Try.underlying25 (by kernel_rfl) (by decide) _ rfl (.tmp 35) (.tmp 37) rfl w.heap.size (w.heap.size + 3) (by omega) v pre X A7 c7 256 l3 HFL.out rfl HO5.out HTL.out rfl HI5.out HB5w.out ?_; intro v10 w10 hO10 hb10 hfar10; obtain ⟨nn, A10, cc, rfl⟩ : ∃ nn A cc, v10 = .slice A nn cc := by { obtain ⟨A, c, e, _⟩ := hO10.esV (by omega) (Nat.le_trans HB5w.out hb10.size); exact ⟨_, A, c, e⟩ }; have HG3 : Hid (LgB w10 (w.heap.size + 2) 27 cnt v) := Lib.hid ((hb10.block _ (by omega)).trans ((HB7.out.block _ (by omega)).trans HR2.out)); have f10 : w10.frozen? ⟨w.heap.size + 1 + 1, 1, none⟩ = false := blk_free HG3.out 1; have c10 : w10.cell? ⟨w.heap.size + 1 + 1, 1, none⟩ = some v := HG3.out.snd; have HO10 := Lib.hid hO10; have HBX := Lib.hid hb10; clear hO10 hb10 hfar10))
            have HOU : Hid (CuR w cnt true es (.int .i64 ((k : Int) + 1)) (w10.setCell ⟨w.heap.size + 1 + 1, 1, none⟩ (.slice A10 nn cc))) := Lib.hid (by
              have g1 : w10.heap[w.heap.size + 1]? = wr.heap[w.heap.size + 1]? := (HBX.out.block _ (by omega)).trans (HB7.out.block _ (by omega))
              have g5 : Below w.heap.size w w10 := HB.out.trans ((HB7.out.mono HB.out.size).trans (HBX.out.mono (by omega)))
              refine HNX.out (.slice A10 nn cc) _ h30 ?_ (HG3.out.setc _) (HO10.out.set _ (by show w.heap.size ≤ w.heap.size + 1 + 1; omega) (by show w.heap.size + 1 + 1 < w.heap.size + 3; omega) (.slice A10 nn cc)) ?_ ?_
              · exact LgB.far (g1.trans HR1.out) _ (by show w.heap.size + 1 + 1 ≠ w.heap.size + 1; omega) _
              · exact g5.setCell (by show w.heap.size ≤ w.heap.size + 1 + 1; omega) (.slice A10 nn cc)
              · rw [size_set]; exact Nat.le_trans HB5w.out HBX.out.size)
            go_roundw
            case rel => exact HOU.out
            case measure => simp [intOf]; omega
      · obtain rfl : k = 30 := by omega
        have hfull : (es.take 30).map (cutE f) = cutL f es := rfl
        rw [hfull] at HO
        clear hfull HNX
        have hbq : Below wr.heap.size wr (wr.alloc (.cells #[.int .i64 (kAt es 30), .slice A1 nl c1] 55)) := (Below.refl _ _).alloc (Nat.le_refl _) _
        replace HO := Lib.hid (HO.out.below (by omega) hsz hbq)
        replace HR1 : Hid (LgB (wr.alloc (.cells #[.int .i64 (kAt es 30), .slice A1 nl c1] 55)) (w.heap.size + 1) 27 0 (.slice none 0 0)) := Lib.hid ((hbq.block _ (by omega)).trans HR1.out)
        replace HR2 : Hid (LgB (wr.alloc (.cells #[.int .i64 (kAt es 30), .slice A1 nl c1] 55)) (w.heap.size + 2) 27 cnt v) := Lib.hid ((hbq.block _ (by omega)).trans HR2.out)
        replace HB := Lib.hid (HB.out.trans (hbq.mono HB.out.size))
        have hszq : w.heap.size + 3 ≤ (wr.alloc (.cells #[.int .i64 (kAt es 30), .slice A1 nl c1] 55)).heap.size := Nat.le_trans hsz hbq.size
        clear hsz hbq
        have hsz := hszq
        clear hszq
        have h30i : (30 : Int) ≤ ((30 : Nat) : Int) := by omega
        obtain ⟨A9, c9, rfl, _⟩ := HO.out.esV (by omega) hsz
        have HFX : Hid ((((wr.alloc (.cells #[.int .i64 (kAt es 30), .slice A1 nl c1] 55)).setCell ⟨w.heap.size + 1, 0, none⟩ (.int .u64 (cnt : Int))).setCell ⟨w.heap.size + 1, 1, none⟩ (.slice A9 (cutL f es).length c9)).heap[w.heap.size + 1]? = some (.cells #[.int .u64 (cnt : Int), .slice A9 (cutL f es).length c9] 27 (0, 0))) := Lib.hid (by
          have h := blk_set (blk_set HR1.out 0 (.int .u64 (cnt : Int))) 1 (.slice A9 (cutL f es).length c9)
          simpa using h)
        have HIL : Hid ((Try.prog.info? 27).map (·.size) = some (#[.int .u64 (cnt : Int), .slice A9 (cutL f es).length c9] : Array Value).size) := Lib.hid (by rw [show (#[.int .u64 (cnt : Int), .slice A9 (cutL f es).length c9] : Array Value).size = 2 from rfl]; kernel_rfl)
        have HF : Hid (CutTo w cnt (cutL f es) (.returned (.agg #[.int .u64 (cnt : Int), .slice A9 (cutL f es).length c9])) (((wr.alloc (.cells #[.int .i64 (kAt es 30), .slice A1 nl c1] 55)).setCell ⟨w.heap.size + 1, 0, none⟩ (.int .u64 (cnt : Int))).setCell ⟨w.heap.size + 1, 1, none⟩ (.slice A9 (cutL f es).length c9))) := Lib.hid (by
          have hS := (HO.out.set ⟨w.heap.size + 1, 0, none⟩ (by show w.heap.size ≤ w.heap.size + 1; omega) (by show w.heap.size + 1 < w.heap.size + 3; omega) (.int .u64 (cnt : Int))).set ⟨w.heap.size + 1, 1, none⟩ (by show w.heap.size ≤ w.heap.size + 1; omega) (by show w.heap.size + 1 < w.heap.size + 3; omega) (.slice A9 (cutL f es).length c9)
          refine ⟨A9, c9, rfl, (HB.out.setCell (by show w.heap.size ≤ w.heap.size + 1; omega) _).setCell (by show w.heap.size ≤ w.heap.size + 1; omega) _, ?_, hS.esZ⟩
          obtain ⟨A, c, e, h⟩ := hS.esV (by omega) (by rw [size_set, size_set]; exact hsz)
          injection e with e1 _ _
          subst e1
          exact h)
        clear HO
        generalize (cutL f es).length = cl at *
        have g0 := HR1.out.fst
        have g1 := HR1.out.snd
        have d0 := HR2.out.fst
        have d1 := HR2.out.snd
        have f0 : (wr.alloc (.cells #[.int .i64 (kAt es 30), .slice A1 nl c1] 55)).frozen? ⟨w.heap.size + 1, 0, none⟩ = false := blk_free HR1.out 0
        have f1 : (wr.alloc (.cells #[.int .i64 (kAt es 30), .slice A1 nl c1] 55)).frozen? ⟨w.heap.size + 1, 1, none⟩ = false := blk_free HR1.out 1
        go_wp2
        exact bodyPost_ret (v := .agg #[.int .u64 (cnt : Int), .slice A9 cl c9]) (results_cell_row rfl _ _ _ 27 _ (0, 0) _ rfl HFX.out Try.underlying27 rfl HIL.out) rfl HF.out
    · have hkn : k = n := by have := HL.out; omega
      subst hkn
      have hfull : (es.take k).map (cutE f) = cutL f es := by unfold cutL; rw [List.take_of_length_le (l := es) (i := k) (by rw [HL.out]; exact Nat.le_refl _), List.take_of_length_le (by rw [HL.out]; exact hk30)]
      rw [hfull] at HO
      clear hfull
      obtain ⟨A9, c9, rfl, _⟩ := HO.out.esV (by omega) hsz
      have HFX : Hid (((wr.setCell ⟨w.heap.size + 1, 0, none⟩ (.int .u64 (cnt : Int))).setCell ⟨w.heap.size + 1, 1, none⟩ (.slice A9 (cutL f es).length c9)).heap[w.heap.size + 1]? = some (.cells #[.int .u64 (cnt : Int), .slice A9 (cutL f es).length c9] 27 (0, 0))) := Lib.hid (by
        have h := blk_set (blk_set HR1.out 0 (.int .u64 (cnt : Int))) 1 (.slice A9 (cutL f es).length c9)
        simpa using h)
      have HIL : Hid ((Try.prog.info? 27).map (·.size) = some (#[.int .u64 (cnt : Int), .slice A9 (cutL f es).length c9] : Array Value).size) := Lib.hid (by rw [show (#[.int .u64 (cnt : Int), .slice A9 (cutL f es).length c9] : Array Value).size = 2 from rfl]; kernel_rfl)
      have HF : Hid (CutTo w cnt (cutL f es) (.returned (.agg #[.int .u64 (cnt : Int), .slice A9 (cutL f es).length c9])) ((wr.setCell ⟨w.heap.size + 1, 0, none⟩ (.int .u64 (cnt : Int))).setCell ⟨w.heap.size + 1, 1, none⟩ (.slice A9 (cutL f es).length c9))) := Lib.hid (by
        have hS := (HO.out.set ⟨w.heap.size + 1, 0, none⟩ (by show w.heap.size ≤ w.heap.size + 1; omega) (by show w.heap.size + 1 < w.heap.size + 3; omega) (.int .u64 (cnt : Int))).set ⟨w.heap.size + 1, 1, none⟩ (by show w.heap.size ≤ w.heap.size + 1; omega) (by show w.heap.size + 1 < w.heap.size + 3; omega) (.slice A9 (cutL f es).length c9)
        refine ⟨A9, c9, rfl, (HB.out.setCell (by show w.heap.size ≤ w.heap.size + 1; omega) _).setCell (by show w.heap.size ≤ w.heap.size + 1; omega) _, ?_, hS.esZ⟩
        obtain ⟨A, c, e, h⟩ := hS.esV (by omega) (by rw [size_set, size_set]; exact hsz)
        injection e with e1 _ _
        subst e1
        exact h)
      clear HO
      generalize (cutL f es).length = cl at *
      have g0 := HR1.out.fst
      have g1 := HR1.out.snd
      have d0 := HR2.out.fst
      have d1 := HR2.out.snd
      have f0 : wr.frozen? ⟨w.heap.size + 1, 0, none⟩ = false := blk_free HR1.out 0
      have f1 : wr.frozen? ⟨w.heap.size + 1, 1, none⟩ = false := blk_free HR1.out 1
      go_wp2
      exact bodyPost_ret (v := .agg #[.int .u64 (cnt : Int), .slice A9 cl c9]) (results_cell_row rfl _ _ _ 27 _ (0, 0) _ rfl HFX.out Try.underlying27 rfl HIL.out) rfl HF.out
end Go.Proofs.Ytnalebocfbbpdaa
