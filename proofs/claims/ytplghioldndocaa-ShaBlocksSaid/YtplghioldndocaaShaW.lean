/-
  ShaBlocks' walk.
-/
import Derived.Test.YtplghioldndocaaShaU
namespace Go.Proofs.Ytplghioldndocaa
open Go.RowKit Go
set_option linter.unusedVariables false
/-- .. and only the block that it lies in may turn -/
theorem wp_apps2 {ops : Array Oper} {rest : List Oper} {o : Oper} {a : Act} {Q : Exit → Act → World → Prop} (W : World) (hgd : o.guard = none) (s x : Operand)
    (ho : o.op = .call { callee := .builtin .append, args := #[s, x], argTypes := #[22, 22] })
    (B : Nat) (v : Value) (l : List Nat) (hs : a.eval s = v) (hown : Own W B v l)
    (B' : Nat) (A : Option Addr) (m c : Nat) (l' : List Nat) (hx : a.eval x = .slice A m c) (hr : BS W B' A m c l') (hA : A = none → c = 0) (hn : l.length + m < 1000000000) (hB : B ≤ W.heap.size)
    (h : ∀ v' w', Own w' B v' (l ++ l') → W.grownBy w' v.ownBlock → wpList Try.prog ops Q rest (a.put o.dst v') w') :
    wpList Try.prog ops Q (o :: rest) a W := by
  obtain ⟨i0, hi, hz0, hz1, hz2⟩ := info_parts info_u8
  have hm := hr.len
  rcases A with _ | ad
  · have h0 := hA rfl
    have h1 := hr.cap
    have hm0 : m = 0 := by omega
    subst hm0 h0
    obtain rfl := List.length_eq_zero_iff.mp hm
    refine wpList_append_own_none hgd s x 22 ho B 5 i0 1 Try.underlying22 hi v l.length (bvals l) hs hown hx ?_
    exact h v W (by rw [List.append_nil]; exact hown) (World.grownBy.refl W _)
  · refine wpList_append_own _ hgd s x 22 ho B 5 i0 (.int .u8 0) 1 1 Try.underlying22 hi hz0 hz1 hz2 rfl (by decide) v l.length (bvals l) hs hown ad m c
      (bvals l') hx (by rw [bvals_len, hm, Nat.mul_one]) ?_ (bvals_one l') (by unfold maxLen; omega) (by omega) hB ?_
    · intro j u hj
      have hjl : j < l'.length := by
        rcases Nat.lt_or_ge j l'.length with h | h
        · exact h
        · rw [List.getElem?_eq_none (by rw [bvals_len]; exact h)] at hj; cases hj
      obtain ⟨b, o, e, _, hc⟩ := hr.at_ (by omega)
      obtain rfl : ad = ⟨b, o, none⟩ := Option.some.inj e
      have h2 := hc j (by omega)
      rw [Go.WideShapes.add_plain, h2, ← hj]
      simp [bvals, List.getElem?_eq_getElem hjl, List.getD]
    · intro v' w1 hown' hg _
      refine h v' w1 ?_ hg
      have e : bvals (l ++ l') = bvals l ++ bvals l' := by simp [bvals]
      unfold Own
      rw [e, List.length_append, hm]
      exact hown'
theorem parts_two {w : World} {X b : Nat} {A A2 : Option Addr} {n c n2 c2 : Nat} {l l2 : List Nat} {t : TypeId} (hb : w.heap[b]? = some (.cells #[.slice A n c, .slice A2 n2 c2] t (0, 0))) (hne : b ≠ X)
    (hbs : BS w w.heap.size A n c l) (hoff : Off A X) (hbs2 : BS w w.heap.size A2 n2 c2 l2) (hoff2 : Off A2 X) : Parts w X (.slice (some ⟨b, 0, none⟩) 2 2) [l, l2] := by
  refine ⟨_, 2, rfl, Nat.le_refl _, by omega, fun _ => ⟨b, 0, rfl, hne, blk_lt hb, fun i l' hl => ?_⟩⟩
  rcases (by omega : i = 0 ∨ i = 1 ∨ 2 ≤ i) with rfl | rfl | h
  · injection hl with hl
    subst hl
    exact ⟨A, n, c, blk_cell hb 0, hbs, hoff⟩
  · injection hl with hl
    subst hl
    exact ⟨A2, n2, c2, blk_cell hb 1, hbs2, hoff2⟩
  · rw [List.getElem?_eq_none (by simpa using h)] at hl; cases hl
def BkRel (w : World) (c N : Nat) (v : Value) (wr : World) : Prop :=
  ∃ k : Nat, v = .int .i64 (k : Int) ∧ k ≤ N ∧ Below w.heap.size w wr ∧ wr.heap[w.heap.size]? = some (.cells (rowOf (fun _ => c) N k) 5 (0, 0))
theorem rowOf_own {w : World} {B g c N : Nat} (hg : B ≤ g) (hN : N ≤ 10000) (h : w.heap[g]? = some (.cells (rowOf (fun _ => c) N N) 5 (0, 0))) : Own w B (.slice (some ⟨g, 0, none⟩) N N) (List.replicate N c) := by
  refine Own.blk hg h (by simp) (Nat.le_refl _) (by unfold maxLen; omega) (rowOf_size _ _ _) ?_
  apply List.ext_getElem?
  intro i
  by_cases hi : i < N
  · rw [List.getElem?_take_of_lt hi]
    have := rowOf_at (fun _ => c) N N (Nat.le_refl _) i hi
    rw [Array.getElem?_toList, this]
    simp [bvals, hi]
  · rw [List.getElem?_eq_none (by rw [List.length_take, Array.length_toList, rowOf_size]; omega), List.getElem?_eq_none (by rw [bvals_len]; simp; omega)]
theorem rep_byte {N c : Nat} (hc : c < 256) : ∀ i, (List.replicate N c).getD i 0 < 256 := fun i => by
  rw [List.getD_eq_getElem?_getD, List.getElem?_replicate]
  split
  · exact hc
  · simp
set_option maxHeartbeats 1000000 in
set_option maxRecDepth 100000 in
theorem shaBlocks_any (ch n : Nat) (hc : ch < 256) (hn : n < 65536) (A : Option Addr) (k c : Nat) (l : List Nat) (w : World) (hs : BS w w.heap.size A k c l) (ho : ∀ ad, A = some ad → ad.block < w.heap.size) (hA : A = none → c = 0) :
    Calls Try.prog 7 #[.int .u8 (ch : Int), .int .u16 (n : Int), .slice A k c] w fun e w' => e = .returned (.bool true) ∧ Below w.heap.size w w' := by
  have HS := Lib.hid hs
  have HO := Lib.hid ho
  have HA := Lib.hid hA
  obtain ⟨N, hN⟩ : ∃ N, N = n % 1500 := ⟨_, rfl⟩
  have hNl : N < 1500 := by omega
  have hNi : (n : Int) % 1500 = (N : Int) := by omega
  have hm := fun W => make_bytes N (by omega) W
  have H0 : Hid (BkRel w ch N (.int .i64 0) (w.alloc (.cells (zeros N) 5))) := Lib.hid ⟨0, rfl, by omega, (Below.refl _ _).alloc (Nat.le_refl _) _, heap_alloc_new w _⟩
  clear hs ho hA hN
  go_enter Try.func7, Try.ntmps7
  go_wp2_with fail
  have HNI := Lib.hid hNi
  clear hNi hm
  generalize w.alloc (.cells (zeros N) 5) = W0 at *
  go_loopw [16] (fun v wr => BkRel w ch N v wr) (fun v _ => (N - intOf v).toNat)
  case atStart => exact H0.out
  case round =>
    obtain ⟨j, rfl, hj, hb, hr⟩ := hrel
    have HB := Lib.hid hb
    have HR := Lib.hid hr
    clear hb hr H0
    by_cases hlt : j < N
    · have kc : wr.cell? ⟨w.heap.size, j, none⟩ = some _ := (blk_cell HR.out j).trans (Array.getElem?_eq_getElem (by rw [rowOf_size]; omega))
      have kf := blk_free HR.out j
      have HN : Hid (BkRel w ch N (.int .i64 ((j : Int) + 1)) (wr.setCell ⟨w.heap.size, j, none⟩ (.int .u8 (ch : Int)))) := Lib.hid ⟨j + 1, rfl, by omega, HB.out.setCell (Nat.le_refl _) _, blk_set HR.out j _⟩
      generalize (rowOf (fun _ => ch) N j)[j]'_ = old at kc
      clear HB HR
      go_wp2
      go_roundw
      case rel => exact HN.out
      case measure => simp [intOf]; omega
    · obtain rfl : j = N := by omega
      have hown := rowOf_own (Nat.le_refl _) (by omega) HR.out
      have HOW := Lib.hid hown
      have HBS := Lib.hid ((HS.out.below HB.out).more HB.out.size)
      have hsz : w.heap.size < wr.heap.size := blk_lt HR.out
      clear hown HR
      go_wp2_with fail
      refine (short3_any A k c l wr HBS.out).mono ?_
      rintro e w' ⟨m, rfl, hm, hbs, hw⟩
      subst hw
      have hlen := hbs.len
      have hby := take_byte' HS.out.byte 300
      generalize l.take 300 = q at *
      have HQ := Lib.hid hbs
      have HLEN := Lib.hid hlen
      have HBY := Lib.hid hby
      clear hbs hlen hby HBS HS
      go_wp2_with fail
      refine (make_any _).mono ?_
      rintro e w1 ⟨rfl, hb1, ht1⟩
      have HB1 := Lib.hid (HB.out.trans (hb1.mono (Nat.le_of_lt hsz)))
      have HT1 := Lib.hid ht1
      have HQ1 := Lib.hid ((HQ.out.below hb1).more hb1.size)
      have HOW1 := Lib.hid (HOW.out.below hb1)
      have hsz1 := hb1.size
      clear hb1 ht1 HOW HB HQ
      go_wp2_with fail
      refine (new_any wr.heap.size _ HT1.out).mono ?_
      rintro e w2 ⟨rfl, hb2, hs2⟩
      have hsz2 := hb2.size
      have HB2 := Lib.hid (HB1.out.trans (hb2.mono (by omega)))
      have HS2 := Lib.hid hs2
      have HQ2 := Lib.hid ((HQ1.out.below hb2).more hb2.size)
      have HOW2 := Lib.hid (HOW1.out.below hb2)
      clear hb2 hs2 HT1 HB1 HQ1 HOW1
      obtain ⟨W3, hW3⟩ : ∃ W3, W3 = w2.alloc (.cells #[.slice (some ⟨w.heap.size, 0, none⟩) j j, .slice A m c] 22) := ⟨_, rfl⟩
      have hb3 : Below w2.heap.size w2 W3 := by rw [hW3]; exact (Below.refl _ _).alloc (Nat.le_refl _) _
      have hg3 : W3.heap[w2.heap.size]? = some (.cells #[.slice (some ⟨w.heap.size, 0, none⟩) j j, .slice A m c] 22 (0, 0)) := by rw [hW3]; exact heap_alloc_new w2 _
      have hlt2 := HS2.out.lt
      have HS3 := Lib.hid (HS2.out.below hb3 hlt2.1 hlt2.2)
      have HB3 := Lib.hid (HB2.out.trans (hb3.mono (by omega)))
      have HQ3 := Lib.hid ((HQ2.out.below hb3).more hb3.size)
      have HOW3 := Lib.hid (HOW2.out.below hb3)
      have hrb := rep_byte (N := j) hc
      have hrs : BS W3 W3.heap.size (some ⟨w.heap.size, 0, none⟩) j j (List.replicate j ch) := by
        obtain ⟨A', c', e, h⟩ := HOW3.out.bs hrb
        rw [List.length_replicate] at e h
        injection e with e1 _ e2
        subst e1 e2
        exact h
      have HRS := Lib.hid hrs
      have hP : Parts W3 w1.heap.size (.slice (some ⟨w2.heap.size, 0, none⟩) 2 2) [List.replicate j ch, q] :=
        parts_two hg3 (by omega) hrs (fun ad e => by
          obtain rfl : (⟨w.heap.size, 0, none⟩ : Addr) = ad := Option.some.inj e
          show w.heap.size ≠ w1.heap.size
          omega) HQ3.out (fun ad e => by have := HO.out ad e; omega)
      have HP := Lib.hid hP
      have HRB := Lib.hid hrb
      clear hb3 hg3 hrs hP hrb HB2 HQ2 HOW2 HS2
      go_wp2_with fail
      rw [← hW3]
      clear hW3
      refine (writes_any w1.heap.size wr.heap.size [] [List.replicate j ch, q] _ _ HS3.out HP.out (by have := HLEN.out; simp; omega) (by simp)).mono ?_
      rintro e w4 ⟨rfl, hg4, hs4⟩
      have hfl : ([] : List Nat) ++ [List.replicate j ch, q].flatten = List.replicate j ch ++ q := by simp
      rw [hfl] at hs4
      have hg4' := hg4.size
      have hB4 : Below w.heap.size w w4 := HB3.out.trans ⟨hg4.os, hg4.tape, hg4.output, hg4.size, fun i hi => hg4.block i (Nat.lt_of_lt_of_le hi HB3.out.size) (fun e => by injection e with e; omega)⟩
      have HB4 := Lib.hid hB4
      have HS4 := Lib.hid hs4
      have HQ4 := Lib.hid (HQ3.out.only (X := w1.heap.size) (fun ad e => by have := HO.out ad e; omega) hg4)
      have HOW4 : Hid (Own w4 w.heap.size (.slice (some ⟨w.heap.size, 0, none⟩) j j) (List.replicate j ch)) := Lib.hid (HOW3.out.keep fun g hg => by
        have hgw : w.heap.size = g := Option.some.inj hg
        exact hg4.block g (by have := HB3.out.size; have := HS3.out.lt; omega) (fun e => by injection e with e; omega))
      have hlt4 := HS4.out.lt
      clear hB4 hs4 hg4 hfl HS3 HP HQ3 HOW3 HRS HB3
      have hall : ∀ i, (List.replicate j ch ++ q).getD i 0 < 256 := byte_app HRB.out HBY.out
      have HALL := Lib.hid hall
      clear hall
      have hlq : q.length ≤ 300 := by have := HLEN.out; omega
      go_wp2_with fail
      refine (sum_any w1.heap.size wr.heap.size _ _ HS4.out HALL.out (by simp; omega)).mono ?_
      rintro e w5 ⟨rfl, hb5⟩
      have HB5 := Lib.hid (HB4.out.trans (hb5.mono HB4.out.size))
      have HS5 := Lib.hid (HS4.out.below hb5 hlt4.1 hlt4.2)
      have HQ5 := Lib.hid ((HQ4.out.below hb5).more hb5.size)
      have HOW5 := Lib.hid (HOW4.out.below hb5)
      have hsz5 := HB5.out.size
      have hq := fun W => equal_same (List.replicate j ch ++ q) W
      have hln : (List.replicate j ch).length + m < 1000000000 := by simp; omega
      have HLN := Lib.hid hln
      clear hb5 HB4 HS4 HQ4 HOW4 hln
      go_wp2_with (at_builtin; refine wp_apps2 _ rfl (.tmp 35) (.tmp 36) rfl w.heap.size _ _ rfl HOW5.out _ A m c q rfl HQ5.out HA.out HLN.out hsz5 ?_; intro v6 w6 hown6 hg6)
      have hg6 : w5.grownBy w6 (some w.heap.size) := hg6
      have hll : (List.replicate j ch ++ q).length = j + q.length := by simp
      obtain ⟨A6, c6, rfl, hbs6⟩ := Own.bs hown6 HALL.out
      rw [hll] at hbs6 ⊢
      have hA6 : A6 = none → c6 = 0 := fun h => by
        subst h
        rcases hown6 with ⟨_, h2 | ⟨g, cap, cur, h2, _⟩⟩
        · injection h2.1 with _ _ h3
        · injection h2 with h3; cases h3
      have hb6 : Below w.heap.size w5 w6 := ⟨hg6.os, hg6.tape, hg6.output, hg6.size, fun i hi => hg6.block i (by omega) (fun e => by have := Option.some.inj e; omega)⟩
      have HB6 := Lib.hid (HB5.out.trans hb6)
      have hlt5 := HS5.out.lt
      have hs6 : IsSum w6 w1.heap.size wr.heap.size (List.replicate j ch ++ q) := by
        obtain ⟨tail, ht, hh, hta⟩ := HS5.out
        exact ⟨tail, ht, Row.only hh hg6 (fun e => by have := Option.some.inj e; omega), Row.only hta hg6 (fun e => by have := Option.some.inj e; omega)⟩
      have HS6 := Lib.hid hs6
      clear hown6 hg6 hb6 hs6 HB5 HS5 HQ5 HOW5
      refine (refSum_any A6 _ c6 _ _ hbs6 hA6 (by omega)).mono ?_
      rintro e w7 ⟨rfl, hb7⟩
      have hlt6 := HS6.out.lt
      have HB7 := Lib.hid (HB6.out.trans (hb7.mono HB6.out.size))
      have HS7 := Lib.hid (HS6.out.below hb7 hlt6.1 hlt6.2)
      have HL7 : Hid (∀ W, IsSum W w1.heap.size wr.heap.size (List.replicate j ch ++ q) → Calls Try.prog 21 #[.pointer (some ⟨w1.heap.size, 0, none⟩)] W fun e w' => e = .returned (.int .i64 ((j : Int) + (q.length : Int))) ∧ W = w') := Lib.hid (fun W h => by
        have := len_any w1.heap.size wr.heap.size (List.replicate j ch ++ q) W h
        rw [hll, Int.natCast_add] at this
        exact this)
      obtain rfl : m = q.length := HLEN.out.symm
      have hNi := HNI.out
      clear hb7 hbs6 hA6 HB6 HS6 hll HNI HLEN
      generalize digA (List.replicate j ch ++ q) = d at *
      go_wp2_with fail
      refine (HL7.out _ HS7.out).mono ?_
      rintro e w8 ⟨rfl, rfl⟩
      go_wp2_with fail
      refine (awake_any _).mono ?_
      rintro e w9 ⟨rfl, hb9⟩
      have HB9 := Lib.hid (HB7.out.trans (hb9.mono HB7.out.size))
      clear hb9
      go_wp2
      go_ret
      exact ⟨rfl, HB9.out⟩
end Go.Proofs.Ytplghioldndocaa
