/-
  Package logf: two logs are held against one another.
-/
import Derived.Test.YtnalebocfbbpdaaLgB
import Derived.BigRegion
namespace Go.Proofs.Ytnalebocfbbpdaa
open Go.RowKit Go
set_option linter.unusedVariables false
set_option linter.unusedSimpArgs false
/-- a slice of entries, nil or not -/
def EsV (w : World) (A : Option Addr) (n : Nat) (es : List (Int × List Nat)) : Prop := es.length = n ∧ (0 < n → ∃ b o, A = some ⟨b, o, none⟩ ∧ EsB w b o es)
theorem EsV.below {w w' : World} {A : Option Addr} {n : Nat} {es : List (Int × List Nat)} (h : EsV w A n es) (hb : Below w.heap.size w w') : EsV w' A n es :=
  ⟨h.1, fun hn => by obtain ⟨b, o, e, h1⟩ := h.2 hn; exact ⟨b, o, e, h1.below hb⟩⟩
theorem EsB.byte {w : World} {b o : Nat} {es : List (Int × List Nat)} (h : EsB w b o es) (i j : Nat) : (dAt es i).getD j 0 < 256 := by
  by_cases hi : i < es.length
  · obtain ⟨A, c, _, _, h3⟩ := h.2 i hi
    exact h3.byte j
  · unfold dAt
    have e : es[i]? = none := List.getElem?_eq_none (by omega)
    have e2 : es.getD i (0, []) = (0, []) := by rw [List.getD_eq_getElem?_getD, e]; rfl
    rw [e2]; simp
def EqTo (w : World) (p : Prop) [Decidable p] (e : Ending) (w' : World) : Prop := e = .returned (.bool (decide p)) ∧ Below w.heap.size w w'
theorem es_ext {es es' : List (Int × List Nat)} (hl : es.length = es'.length) (h : ∀ i, i < es.length → kAt es i = kAt es' i ∧ dAt es i = dAt es' i) : es = es' := by
  apply List.ext_getElem hl
  intro i h1 h2
  have h3 := h i h1
  unfold kAt dAt at h3
  simp only [List.getD, List.getElem?_eq_getElem h1, List.getElem?_eq_getElem h2, Option.getD_some] at h3
  exact Prod.ext h3.1 h3.2
def EqR (w : World) (es es' : List (Int × List Nat)) (iv : Value) (wr : World) : Prop := ∃ k : Nat, iv = .int .i64 (k : Int) ∧ k ≤ es.length ∧ (∀ i, i < k → kAt es i = kAt es' i ∧ dAt es i = dAt es' i) ∧ Below w.heap.size w wr
def RqR (W0 : World) (es es' : List (Int × List Nat)) (iv : Value) (wr : World) : Prop := ∃ k : Nat, iv = .int .i64 (k : Int) ∧ k ≤ es.length ∧ (∀ i, i < k → kAt es i = kAt es' i ∧ dAt es i = dAt es' i) ∧ After W0 wr
theorem two_below (w : World) (o o' : Obj) : Below w.heap.size w ((w.alloc o).alloc o') := ((Below.refl _ _).alloc (Nat.le_refl _) _).alloc (by simp) _
def EqLg (w : World) (cnt cnt' : Nat) (es es' : List (Int × List Nat)) (e : Ending) (w' : World) : Prop := e = .returned (.bool (decide (cnt = cnt' ∧ es = es'))) ∧ Below w.heap.size w w'
set_option maxRecDepth 100000 in
set_option maxHeartbeats 4000000 in
theorem rsame_any (cnt cnt' : Nat) (A A' : Option Addr) (n c n' c' : Nat) (es es' : List (Int × List Nat)) (w : World) (hE : EsV w A n es) (hE' : EsV w A' n' es') (hn9 : n ≤ 1000) (hn9' : n' ≤ 1000) :
    Calls Try.prog 15 #[.agg #[.int .u64 (cnt : Int), .slice A n c], .agg #[.int .u64 (cnt' : Int), .slice A' n' c']] w (EqLg w cnt cnt' es es') := by
  have hl := hE.1
  have hl' := hE'.1
  have HB := Lib.hid (two_below w (.cells #[.int .u64 (cnt : Int), .slice A n c] 27) (.cells #[.int .u64 (cnt' : Int), .slice A' n' c'] 27))
  by_cases hc : cnt = cnt'
  · subst hc
    by_cases hne : n = n'
    · subst hne
      have HE := Lib.hid hE
      have HE' := Lib.hid hE'
      have HL := Lib.hid hl
      have HL' := Lib.hid hl'
      have e1 : (w.alloc (.cells #[.int .u64 (cnt : Int), .slice A n c] 27)).heap.size = w.heap.size + 1 := by simp
      have h1 : LgB ((w.alloc (.cells #[.int .u64 (cnt : Int), .slice A n c] 27)).alloc (.cells #[.int .u64 (cnt : Int), .slice A' n c'] 27)) w.heap.size 27 cnt (.slice A n c) := blk_alloc (heap_alloc_new w _) _
      have h2 : LgB ((w.alloc (.cells #[.int .u64 (cnt : Int), .slice A n c] 27)).alloc (.cells #[.int .u64 (cnt : Int), .slice A' n c'] 27)) (w.heap.size + 1) 27 cnt (.slice A' n c') := by
        have h9 := heap_alloc_new (w.alloc (.cells #[.int .u64 (cnt : Int), .slice A n c] 27)) (.cells #[.int .u64 (cnt : Int), .slice A' n c'] 27)
        rw [e1] at h9
        exact h9
      have H1 := Lib.hid h1
      have H2 := Lib.hid h2
      clear hl hl' hE hE' h1 h2 e1
      go_enter Try.func15, Try.ntmps15
      go_wp2
      generalize (w.alloc (.cells #[.int .u64 (cnt : Int), .slice A n c] 27)).alloc (.cells #[.int .u64 (cnt : Int), .slice A' n c'] 27) = W0 at *
      have HR : Hid (RqR W0 es es' (.int .i64 0) W0) := Lib.hid ⟨0, rfl, by omega, fun i hi => absurd hi (by omega), After.refl _⟩
      go_loopw [23] (fun iv wr => RqR W0 es es' iv wr) (fun iv _ => (n - intOf iv).toNat)
      case atStart => exact HR.out
      case round =>
        clear HR
        obtain ⟨k, rfl, hk, hall, hb⟩ := hrel
        have HALL := Lib.hid hall
        have HA := Lib.hid hb
        have HB0 := Lib.hid (HB.out.trans (Below.mono hb HB.out.size))
        clear hall hb
        by_cases hlt : k < n
        · obtain ⟨b, o, rfl, hEs⟩ := HE.out.2 (by omega)
          obtain ⟨b', o', rfl, hEs'⟩ := HE'.out.2 (by omega)
          obtain ⟨A1, c1, q1, q2, q3⟩ := hEs.2 k (by rw [HL.out]; exact hlt)
          obtain ⟨A2, c2, r1, r2, r3⟩ := hEs'.2 k (by rw [HL'.out]; exact hlt)
          have p1 : wr.drew.cell? ⟨b, o + k * 2, none⟩ = some (.int .i64 (kAt es k)) := (HB0.out.cell (p := ⟨b, o + k * 2, none⟩) hEs.1).trans q1
          have p2 : wr.drew.cell? ⟨b, o + k * 2 + 1, none⟩ = some (.slice A1 (dAt es k).length c1) := (HB0.out.cell (p := ⟨b, o + k * 2 + 1, none⟩) hEs.1).trans q2
          have p3 : wr.drew.cell? ⟨b', o' + k * 2, none⟩ = some (.int .i64 (kAt es' k)) := (HB0.out.cell (p := ⟨b', o' + k * 2, none⟩) hEs'.1).trans r1
          have p4 : wr.drew.cell? ⟨b', o' + k * 2 + 1, none⟩ = some (.slice A2 (dAt es' k).length c2) := (HB0.out.cell (p := ⟨b', o' + k * 2 + 1, none⟩) hEs'.1).trans r2
          have d1 : wr.drew.cell? ⟨w.heap.size, 1, none⟩ = some (.slice (some ⟨b, o, none⟩) n c) := (H1.out.after HA.out).snd
          have d2 : wr.drew.cell? ⟨w.heap.size + 1, 1, none⟩ = some (.slice (some ⟨b', o', none⟩) n c') := (H2.out.after HA.out).snd
          have hc1 := conv_at (show BS wr.drew w.heap.size A1 (dAt es k).length c1 (dAt es k) from q3.below HB0.out.drew)
          have hc2 := conv_at (show BS wr.drew w.heap.size A2 (dAt es' k).length c2 (dAt es' k) from r3.below HB0.out.drew)
          have HSB := Lib.hid (sameB_iff q3.byte r3.byte)
          have HST := Lib.hid (fun (h : kAt es k = kAt es' k ∧ dAt es k = dAt es' k) (i : Nat) (hi : i < k + 1) => (by
            by_cases e : i = k
            · rw [e]; exact h
            · exact HALL.out i (by omega) : kAt es i = kAt es' i ∧ dAt es i = dAt es' i))
          have HNO : Hid (¬ (kAt es k = kAt es' k ∧ dAt es k = dAt es' k) → ¬ es = es') := Lib.hid fun h e => h (by rw [e]; exact ⟨rfl, rfl⟩)
          have HAD := Lib.hid (HA.out.next (After.drew wr))
          have HBD := Lib.hid HB0.out.drew
          clear q1 q2 q3 r1 r2 r3 hEs hEs'
          by_cases hKK : kAt es k = kAt es' k
          · obtain ⟨sb, hsb⟩ : ∃ sb, sameB (dAt es k) (dAt es' k) = sb := ⟨_, rfl⟩
            have hsb2 : ((str (dAt es k)).toList == (str (dAt es' k)).toList) = sb := hsb
            have HSB2 : Hid (sb = true ↔ dAt es k = dAt es' k) := Lib.hid (by rw [← hsb]; exact HSB.out)
            have HKK := Lib.hid hKK
            rw [← hKK] at p3
            generalize kAt es k = K at *
            generalize (dAt es k).length = nl at *
            generalize (dAt es' k).length = nl' at *
            generalize str (dAt es k) = s1 at *
            generalize str (dAt es' k) = s2 at *
            clear hsb hKK
            go_wp2_with fail
            go_big_region
            cases sb
            · have HF : Hid (EqLg w cnt cnt es es' (.returned (.bool false)) wr.drew) := Lib.hid ⟨by rw [decide_eq_false (fun h => HNO.out (fun g => Bool.false_ne_true (HSB2.out.mpr g.2)) h.2)], HBD.out⟩
              go_wp2
              go_ret
              exact HF.out
            · have HF : Hid (RqR W0 es es' (.int .i64 ((k : Int) + 1)) wr.drew) := Lib.hid ⟨k + 1, rfl, by rw [HL.out]; omega, HST.out ⟨HKK.out, HSB2.out.mp rfl⟩, HAD.out⟩
              go_wp2
              go_roundw
              case rel => exact HF.out
              case measure => simp [intOf]; omega
          · have hq : (kAt es k != kAt es' k) = true := by rw [bne_iff_ne]; exact hKK
            have HF : Hid (EqLg w cnt cnt es es' (.returned (.bool false)) wr.drew) := Lib.hid ⟨by rw [decide_eq_false (fun h => HNO.out (fun g => hKK g.1) h.2)], HBD.out⟩
            generalize kAt es k = K at *
            generalize kAt es' k = K' at *
            generalize (dAt es k).length = nl at *
            generalize (dAt es' k).length = nl' at *
            clear hKK hc1 hc2
            go_wp2_with fail
            go_big_region
            go_wp2
            go_ret
            exact HF.out
        · have hk2 : k ≤ n := by rw [← HL.out]; exact hk
          obtain rfl : k = n := by omega
          have HF : Hid (EqLg w cnt cnt es es' (.returned (.bool true)) wr.drew) := Lib.hid ⟨by rw [decide_eq_true (show cnt = cnt ∧ es = es' from ⟨rfl, es_ext (HL.out.trans HL'.out.symm) (fun i hi => HALL.out i (by rw [HL.out] at hi; exact hi))⟩)], HB0.out.drew⟩
          have HF2 : Hid (EqLg w cnt cnt es es' (.returned (.bool true)) wr) := Lib.hid ⟨HF.out.1, HB0.out⟩
          go_wp2
          go_ret
          first | exact HF2.out | exact HF.out
    · have hq : ((n : Int) != (n' : Int)) = true := by rw [bne_iff_ne]; omega
      have HF : Hid (∀ w1, Below w.heap.size w w1 → EqLg w cnt cnt es es' (.returned (.bool false)) w1) := Lib.hid fun w1 h1 => ⟨by rw [decide_eq_false (fun h => hne (by rw [← hl, ← hl', h.2]))], h1⟩
      clear hE hE' hl hl' hne
      go_enter Try.func15, Try.ntmps15
      go_wp2
      go_ret
      exact HF.out _ HB.out
  · have hq : ((cnt : Int) != (cnt' : Int)) = true := by rw [bne_iff_ne]; omega
    have HF : Hid (∀ w1, Below w.heap.size w w1 → EqLg w cnt cnt' es es' (.returned (.bool false)) w1) := Lib.hid fun w1 h1 => ⟨by rw [decide_eq_false (fun h => hc h.1)], h1⟩
    clear hE hE' hl hl' hc
    go_enter Try.func15, Try.ntmps15
    go_wp2
    go_ret
    exact HF.out _ HB.out
end Go.Proofs.Ytnalebocfbbpdaa
