/-
  Joined: SeD, SeF, SeR, SeS, SeT.
-/
import Derived.Test.YthjpaligpojlnaaOwn
import Derived.Test.YthjpaligpojlnaaByt
import Derived.Laws.CopyOwn
import Derived.Test.YthjpaligpojlnaaCut
import Derived.Test.YthjpaligpojlnaaSzA
import Derived.Test.YthjpaligpojlnaaStr
import Derived.Test.YthjpaligpojlnaaAesP
import Derived.Test.YthjpaligpojlnaaGfD
import Derived.Lib.Hide
import Derived.Lib.SlBytesConst
namespace Go.Proofs.Ythjpaligpojlnaa
set_option maxRecDepth 100000
section
open Go.RowKit Go
set_option linter.unusedVariables false
set_option linter.unusedSimpArgs false
theorem pad_cells {l : List Nat} {n m : Nat} (hl : l.length = m) (i : Nat) (hi : i < n) :
    (splice (zeros n).toList 0 (bvals (l.take (min m n)))).toArray[i]? = some (.int .u8 (((padL l n).getD i 0 : Nat) : Int)) := by
  rw [padL_at, if_pos hi]
  have hk : (bvals (l.take (min m n))).length = min m n := by simp [bvals]; omega
  by_cases h : i < min m n
  · simp only [splice, List.take_zero, List.nil_append, Nat.zero_add, List.getElem?_toArray]
    rw [List.getElem?_append_left (by omega)]
    simp [bvals, List.getElem?_map, List.getElem?_take_of_lt h, List.getElem?_eq_getElem (show i < l.length by omega), List.getD]
  · have e : l.getD i 0 = 0 := by
      have : l[i]? = none := by rw [List.getElem?_eq_none]; omega
      rw [List.getD_eq_getElem?_getD, this]; rfl
    rw [e]
    simp only [splice, List.take_zero, List.nil_append, Nat.zero_add, List.getElem?_toArray]
    rw [List.getElem?_append_right (by omega), hk, List.getElem?_drop, zeros, Array.toList_replicate, List.getElem?_replicate, if_pos (by omega)]
    rfl
theorem pad_end {w w' : World} {l : List Nat} {n m : Nat} (hn : n ≤ 65536) (hl : l.length = m) (h : ∀ i, l.getD i 0 < 256) (hb : Below w.heap.size w w')
    (hx : w'.heap[w.heap.size]? = some (.cells (splice (zeros n).toList 0 (bvals (l.take (min m n)))).toArray 5 (0, 0))) : Gives w (padL l n) (.returned (.slice (some ⟨w.heap.size, 0, none⟩) n n)) w' := by
  have e := padL_len l n
  refine ⟨_, n, by rw [e], hb, ?_⟩
  rw [e]
  exact BS.of_blk hx (blk_lt hx) e (Nat.le_refl _) (by omega) (padL_byte h n) fun i hi => pad_cells hl i hi
set_option maxHeartbeats 400000 in
theorem pad_yes (A : Option Addr) (m c n : Nat) (l : List Nat) (w : World) (hs : BS w w.heap.size A m c l) (hm : m ≤ 1000) (h1 : 1 ≤ n) (hn : n ≤ 65536) :
    Calls Try.prog 29 #[.slice A m c, .int .i64 (n : Int)] w (Gives w (padL l n)) := by
  have hmk := make_bytes n (by omega)
  have hcap := hs.cap
  have HS := Lib.hid hs
  clear hs
  have hk : (bvals (l.take (min m n))).length = Nat.min m n := by
    unfold bvals
    rw [List.length_map, List.length_take, HS.out.len]
    show min (min m n) m = min m n
    omega
  have hz : ∀ W : World, (W.alloc (.cells (zeros n) 5)).heap[W.heap.size]? = some (.cells (zeros n).toList.toArray 5 (0, 0)) := fun W => by rw [heap_alloc_new]
  have hp : 0 < (bvals (l.take (min m n))).length → some (⟨w.heap.size, 0, none⟩ : Addr) = some ⟨w.heap.size, 0, none⟩ ∧ ∃ ad, A = some ad ∧ ∀ j v, (bvals (l.take (min m n)))[j]? = some v → (w.alloc (.cells (zeros n) 5)).cell? (ad.add j) = some v := by
    intro h0
    refine ⟨rfl, ?_⟩
    have hm0 : 0 < m := by
      rw [hk] at h0
      have : Nat.min m n ≤ m := Nat.min_le_left _ _
      omega
    obtain ⟨b, o, rfl, hb, hcell⟩ := HS.out.at_ hm0
    refine ⟨_, rfl, fun j v hj => ?_⟩
    have hj1 : j < (bvals (l.take (min m n))).length := by
      rcases Nat.lt_or_ge j (bvals (l.take (min m n))).length with h | h
      · exact h
      · rw [List.getElem?_eq_none h] at hj; cases hj
    rw [hk] at hj1
    have h2 : Nat.min m n ≤ m := Nat.min_le_left _ _
    have hlen := HS.out.len
    rw [Go.WideShapes.add_plain, ((Below.refl w.heap.size w).alloc (Nat.le_refl _) _).cell (p := ⟨b, o + j, none⟩) hb, hcell j (by omega)]
    rw [← hj]
    have h3 : j < min m n := hj1
    simp [bvals, List.getElem?_map, List.getElem?_take_of_lt h3, List.getElem?_eq_getElem (show j < l.length by omega), List.getD]
  have HK := Lib.hid hk
  have HP := Lib.hid hp
  have HZ := Lib.hid hz
  have H1 : ∀ v ∈ bvals (l.take (min m n)), v.oneCell' = true := by
    intro v hv
    obtain ⟨x, _, rfl⟩ := List.mem_map.mp hv
    rfl
  have hfit : 0 + (bvals (l.take (min m n))).length ≤ (zeros n).toList.length := by
    have : Nat.min m n ≤ n := Nat.min_le_right _ _
    rw [hk]
    simp [zeros]
    exact this
  have HO := Lib.hid H1
  have HFi := Lib.hid hfit
  clear hk hp hz H1 hfit
  go_enter Try.func29, Try.ntmps29
  go_wp2_with (with_reducible refine wpList_copy_splice rfl (.tmp 14) (.tmp 15) 29 29 rfl 5 Try.underlying29 (by kernel_rfl) _ A n n m c rfl rfl w.heap.size 0 (zeros n).toList 5 (HZ.out _) (bvals (l.take (min m n))) HK.out HP.out HFi.out HO.out w.heap.size w ((Below.refl _ _).alloc (Nat.le_refl _) _) (Nat.le_refl _) ?_)
  intro w2 hw2 hb2
  have H : Gives w (padL l n) (.returned (.slice (some ⟨w.heap.size, 0, none⟩) n n)) w2 := pad_end hn HS.out.len HS.out.byte hb2 hw2.out
  have HH := Lib.hid H
  clear H hw2 hb2
  go_wp2
  go_ret
  exact HH.out
end
section
open Go.RowKit Go
set_option linter.unusedVariables false
set_option linter.unusedSimpArgs false
def GivesO (w : World) (l : List Nat) (e : Ending) (w' : World) : Prop := ∃ v, e = .returned v ∧ Own w' w.heap.size v l ∧ Below w.heap.size w w'
def lastB (l : List Nat) : Nat := l.getD (l.length - 1) 0
def fillL (l : List Nat) (k : Nat) : List Nat := l ++ List.replicate k (lastB l)
def fullL (l : List Nat) : List Nat := fillL (l.take 256) (256 - (l.take 256).length)
theorem lastB_nil {l : List Nat} (h : l.length = 0) : lastB l = 0 := by rw [List.length_eq_zero_iff.mp h]; rfl
theorem fillL_succ (l : List Nat) (k : Nat) : fillL l k ++ [lastB l] = fillL l (k + 1) := by
  unfold fillL
  rw [List.append_assoc, ← List.replicate_succ']
theorem fillL_byte {l : List Nat} (h : ∀ i, l.getD i 0 < 256) (k i : Nat) : (fillL l k).getD i 0 < 256 := by
  unfold fillL
  rw [List.getD_eq_getElem?_getD, List.getElem?_append]
  split
  · rw [← List.getD_eq_getElem?_getD]; exact h i
  · rw [List.getElem?_replicate]
    split
    · exact h _
    · simp
theorem full_len (l : List Nat) : (fullL l).length = 256 := by
  unfold fullL fillL
  rw [List.length_append, List.length_replicate, List.length_take]; omega
def lenVal : Value → Int
  | .slice _ n _ => (n : Int)
  | _ => 0
def FullR (w : World) (l : List Nat) (v : Value) (wr : World) : Prop := ∃ k : Nat, Own wr w.heap.size v (fillL l k) ∧ l.length + k ≤ 256 ∧ Below w.heap.size w wr
theorem FullR.slice {w wr : World} {l : List Nat} {v : Value} (hb : ∀ i, l.getD i 0 < 256) (h : FullR w l v wr) : ∃ A n c, v = .slice A n c := by
  obtain ⟨k, h1, _⟩ := h
  obtain ⟨A, c, e, _⟩ := h1.bs (fillL_byte hb k)
  exact ⟨A, _, c, e⟩
set_option maxRecDepth 100000 in
set_option maxHeartbeats 2000000 in
theorem full_any (A : Option Addr) (n c : Nat) (L : List Nat) (hA : A = none → c = 0) (w : World) (hs : BS w w.heap.size A n c L) :
    Calls Try.prog 15 #[.slice A n c] w (GivesO w (fullL L)) := by
  have hcap := hs.cap
  have hL := hs.len
  have HB : Hid (Below w.heap.size w (w.alloc (.cells #[] 5))) := Lib.hid ((Below.refl _ _).alloc (Nat.le_refl _) _)
  have HA := Lib.hid hA
  by_cases hn : n ≤ 256
  · have HS := Lib.hid hs
    have e : L.take 256 = L := List.take_of_length_le (by omega)
    have HFU : Hid (fullL L = fillL L (256 - L.length)) := Lib.hid (by unfold fullL; rw [e])
    have HLE := Lib.hid hL
    have HLB := Lib.hid (fun i => hs.byte i)
    clear hs hL hA e
    have hbs0 := HB.out
    have hsz0 : w.heap.size ≤ (w.alloc (.cells #[] 5)).heap.size := hbs0.size
    have hx0 := heap_alloc_new w (.cells #[] 5)
    have HO0 : Hid (Own (w.alloc (.cells #[] 5)) w.heap.size (.slice (some ⟨w.heap.size, 0, none⟩) 0 0) []) := Lib.hid (Own.blk (Nat.le_refl _) hx0 rfl (by omega) (by unfold maxLen; omega) rfl rfl)
    have HBS := Lib.hid ((HS.out.below hbs0).more hbs0.size)
    have HLN : Hid (([] : List Nat).length + n < 1000000000) := Lib.hid (by simp <;> omega)
    clear hx0 hbs0
    go_enter Try.func15, Try.ntmps15
    go_wp2_with (at_builtin; refine wp_apps _ rfl (.tmp 10) (.tmp 11) rfl w.heap.size (.slice (some ⟨w.heap.size, 0, none⟩) 0 0) [] rfl HO0.out _ A n c L rfl HBS.out HA.out HLN.out hsz0 ?_; intro v1 w1 hown1 hb1)
    have HB1 := Lib.hid (HB.out.trans hb1)
    have HR : Hid (FullR w L v1 w1) := Lib.hid ⟨0, by simpa [fillL] using hown1, by rw [HLE.out]; omega, HB1.out⟩
    generalize w.alloc (.cells #[] 5) = W0 at *
    clear hown1 hb1 HO0 HB HBS HLN hsz0
    obtain ⟨A1, n1, c1, rfl⟩ := HR.out.slice HLB.out
    go_loopw [3] (fun v wr => FullR w L v wr) (fun v _ => 256 - (lenVal v).toNat)
    case atStart => exact HR.out
    case round =>
      clear HR
      obtain ⟨k, hown, hk, hb⟩ := hrel
      have hB := hb.size
      have HL : Hid ((fillL L k).length = L.length + k) := Lib.hid (by simp [fillL])
      have e2 : (fillL L k).length = n + k := by rw [HL.out, HLE.out]
      have hq := hown.bs (fillL_byte HLB.out k)
      rw [e2] at hq
      obtain ⟨A2, c2, rfl, _⟩ := hq
      have HHO := Lib.hid hown
      have HHB := Lib.hid hb
      have HST := Lib.hid (fillL_succ L k)
      by_cases hlt : n + k < 256
      · have hll : (fillL L k).length < 1000000000 := by rw [HL.out, HLE.out]; omega
        have HN : Hid (∀ v' w2, Own w2 w.heap.size v' (fillL L k ++ [lastB L]) → Below w.heap.size wr w2 → FullR w L v' w2 ∧ ∃ A c, v' = .slice A (n + k + 1) c) := Lib.hid (fun v' w2 h1 h2 => by
          rw [HST.out] at h1
          refine ⟨⟨k + 1, h1, by rw [HLE.out]; omega, HHB.out.trans h2⟩, ?_⟩
          obtain ⟨A, c, e, _⟩ := h1.bs (fillL_byte HLB.out (k + 1))
          exact ⟨A, c, by rw [e]; simp [fillL, HLE.out] <;> omega⟩)
        clear e2 hown hb HST
        generalize fillL L k = F at *
        by_cases hz : n = 0
        · have HZ : Hid (lastB L = 0) := Lib.hid (lastB_nil (by rw [HLE.out]; exact hz))
          rw [HZ.out] at HN
          subst hz
          go_wp2_with (at_builtin; refine wp_app _ rfl (.tmp 25) (.tmp 27) rfl w.heap.size (.slice A2 (0 + k) c2) F 0 0 rfl HHO.out rfl rfl hll hB ?_; intro v' w2 hown2 hb2)
          obtain ⟨h1, A3, c3, rfl⟩ := HN.out _ _ hown2 hb2
          have HR := Lib.hid h1
          clear hown2 hb2 HN h1
          go_roundw
          case rel => exact ⟨_, _, _, _, _, _, _, _, _, _, _, _, _, _, _, _, _, _, HR.out, rfl⟩
          case measure => simp [lenVal] <;> omega
        · obtain ⟨b, o, rfl, hbB, hcell⟩ := HS.out.at_ (by omega)
          have k1 : wr.cell? ⟨b, o + (n - 1), none⟩ = some (.int .u8 ((lastB L : Nat) : Int)) := by
            have h := (HHB.out.cell (p := ⟨b, o + (n - 1), none⟩) hbB).trans (hcell (n - 1) (by omega))
            rw [h]; unfold lastB; rw [HLE.out]
          clear hcell
          generalize lastB L = x at *
          go_wp2_with (at_builtin; refine wp_app _ rfl (.tmp 25) (.tmp 27) rfl w.heap.size (.slice A2 (n + k) c2) F x x rfl HHO.out rfl rfl hll hB ?_; intro v' w2 hown2 hb2)
          obtain ⟨h1, A3, c3, rfl⟩ := HN.out _ _ hown2 hb2
          have HR := Lib.hid h1
          clear hown2 hb2 HN h1
          go_roundw
          case rel => exact HR.out
          case measure => simp [lenVal] <;> omega
      · have H : Hid (GivesO w (fullL L) (.returned (.slice A2 (n + k) c2)) wr) := Lib.hid ⟨_, rfl, by rw [HFU.out]; have e3 : 256 - L.length = k := (by have := HLE.out; omega); rw [e3]; exact hown, hb⟩
        clear hown e2
        go_wp2
        go_ret
        exact H.out

  · have HS := Lib.hid (hs.take (k := 256) (by omega))
    have e : (L.take 256).length = 256 := by rw [List.length_take]; omega
    have HFU : Hid (fullL L = fillL (L.take 256) (256 - (L.take 256).length)) := Lib.hid rfl
    have HLE := Lib.hid e
    have HLB := Lib.hid (fun i => HS.out.byte i)
    clear hs hL hA e
    generalize L.take 256 = l at *
    have hbs0 := HB.out
    have hsz0 : w.heap.size ≤ (w.alloc (.cells #[] 5)).heap.size := hbs0.size
    have hx0 := heap_alloc_new w (.cells #[] 5)
    have HO0 : Hid (Own (w.alloc (.cells #[] 5)) w.heap.size (.slice (some ⟨w.heap.size, 0, none⟩) 0 0) []) := Lib.hid (Own.blk (Nat.le_refl _) hx0 rfl (by omega) (by unfold maxLen; omega) rfl rfl)
    have HBS := Lib.hid ((HS.out.below hbs0).more hbs0.size)
    have HLN : Hid (([] : List Nat).length + 256 < 1000000000) := Lib.hid (by simp <;> omega)
    clear hx0 hbs0
    go_enter Try.func15, Try.ntmps15
    go_wp2_with (at_builtin; refine wp_apps _ rfl (.tmp 10) (.tmp 11) rfl w.heap.size (.slice (some ⟨w.heap.size, 0, none⟩) 0 0) [] rfl HO0.out _ A 256 c l rfl HBS.out HA.out HLN.out hsz0 ?_; intro v1 w1 hown1 hb1)
    have HB1 := Lib.hid (HB.out.trans hb1)
    have HR : Hid (FullR w l v1 w1) := Lib.hid ⟨0, by simpa [fillL] using hown1, by rw [HLE.out]; omega, HB1.out⟩
    generalize w.alloc (.cells #[] 5) = W0 at *
    clear hown1 hb1 HO0 HB HBS HLN hsz0
    obtain ⟨A1, n1, c1, rfl⟩ := HR.out.slice HLB.out
    go_loopw [3] (fun v wr => FullR w l v wr) (fun v _ => 256 - (lenVal v).toNat)
    case atStart => exact HR.out
    case round =>
      clear HR
      obtain ⟨k, hown, hk, hb⟩ := hrel
      have hB := hb.size
      have HL : Hid ((fillL l k).length = l.length + k) := Lib.hid (by simp [fillL])
      have e2 : (fillL l k).length = 256 + k := by rw [HL.out, HLE.out]
      have hq := hown.bs (fillL_byte HLB.out k)
      rw [e2] at hq
      obtain ⟨A2, c2, rfl, _⟩ := hq
      have HHO := Lib.hid hown
      have HHB := Lib.hid hb
      have HST := Lib.hid (fillL_succ l k)
      by_cases hlt : 256 + k < 256
      · omega
      · have H : Hid (GivesO w (fullL L) (.returned (.slice A2 (256 + k) c2)) wr) := Lib.hid ⟨_, rfl, by rw [HFU.out]; have e3 : 256 - l.length = k := (by have := HLE.out; omega); rw [e3]; exact hown, hb⟩
        clear hown e2
        go_wp2
        go_ret
        exact H.out
end
section
open Go.RowKit Go
set_option linter.unusedVariables false
set_option linter.unusedSimpArgs false
set_option maxRecDepth 100000
attribute [local irreducible] Gf.inv Gf.tm Gf.pw Gf.spread Gf.sub Gf.boxAt Gf.bk Gf.rm Gf.bit
theorem newk (la : List Nat) (ha2 : ∀ i, la.getD i 0 < 256) : ∃ ks : List Nat, (∀ j, ks.getD j 0 < 256) ∧ ∀ gb b w, IsBox w gb → BS w w.heap.size (some ⟨b, 0, none⟩) 16 16 la →
    Calls Try.prog 19 #[.pointer (some ⟨gb, 0, none⟩), .slice (some ⟨b, 0, none⟩) 16 16] w fun e w' => e = .returned (.tuple #[.pointer (some ⟨w.heap.size, 0, none⟩), .int .i64 0]) ∧ CipR w' w.heap.size 10 ks ∧ Below w.heap.size w w' :=
  ⟨Aes.sch Gf.sub la 4 44, fun j => Aes.sch_byte (fun c h => Gf.sub_lt h) ha2 _ _, fun gb b w h1 h2 => new_16 gb b 0 16 _ w h1 h2⟩
/-- a new sealer -/
def MadeTo (ks : List Nat) (w : World) (r : Ending) (w' : World) : Prop := ∃ g bm, r = .returned (.pointer (some ⟨g, 0, none⟩)) ∧ w.heap.size ≤ g ∧ w.heap.size ≤ bm ∧ SlR w' g 10 ks bm 0 (fun _ _ => none) 0 0 false ∧ Below w.heap.size w w'
set_option maxHeartbeats 2000000 in
theorem made_any (la : List Nat) (ha : la.length = 16) (ha2 : ∀ i, la.getD i 0 < 256) : ∃ ks : List Nat, (∀ j, ks.getD j 0 < 256) ∧ ∀ w, Calls Try.prog 8 #[.agg (rowV (bF la) 16)] w (MadeTo ks w) := by
  obtain ⟨ks, hks, hnew⟩ := newk la ha2
  refine ⟨ks, hks, fun w => ?_⟩
  have HNEW := Lib.hid hnew
  have hb0 : Below w.heap.size w (w.alloc (.cells (rowV (bF la) 16) 22)) := al _ _
  have hra := heap_alloc_new w (.cells (rowV (bF la) 16) 22)
  have hka : BS (w.alloc (.cells (rowV (bF la) 16) 22)) (w.alloc (.cells (rowV (bF la) 16) 22)).heap.size (some ⟨w.heap.size, 0, none⟩) 16 16 la :=
    BS.of_blk hra (by simp) ha (Nat.le_refl 16) (by omega) ha2 (fun i hi => by rw [rowV_at _ hi]; rfl)
  have hwa : ∀ (W : World) (g : Nat), (Instr.sliceAt 22 (.pointer (some ⟨g, 0, none⟩)) none none none).run Try.prog W = .ok (.slice (some ⟨g, 0, none⟩) 16 16) W := fun W g =>
    run_whole_arr 22 5 16 Try.underlying22 (by kernel_rfl) g 0 W
  have HB0 := Lib.hid hb0
  have HKA := Lib.hid hka
  clear hks hnew hb0 hra hka ha ha2
  generalize rowV (bF la) 16 = xa at *
  go_enter Try.func8, Try.ntmps8
  go_wp2_with fail
  generalize w.alloc (.cells xa 22) = W0 at *
  have HK : Hid (∀ w1, Below W0.drew.heap.size W0.drew w1 → BS w1 w1.heap.size (some ⟨w.heap.size, 0, none⟩) 16 16 la) := Lib.hid (fun w1 h => (BS.below (B := W0.drew.heap.size) HKA.out.dr h).more h.size)
  refine wp_region_F (S := fun _ => True) [] (by kernel_rfl) (trivial) (fun hHeld => ?_)
  refine wpAnyF_take (i := 1) (oi := _) (v := ?_) rfl (by kernel_rfl) (by kernel_rfl) (by kernel_rfl) (by kernel_rfl) (fun _ _ _ h => h) (Or.inl ⟨by rfl, ?_⟩) (by assumption) ?_
  rotate_left 1
  · intro w hSw
    (try dsimp only at hSw)
    (first | (go_simp; done) | (go_simp; with_reducible rfl))
  (try simp only [Act.put, List.getElem_toArray, List.getElem_cons_succ, List.getElem_cons_zero, List.setIfInBounds_toArray, List.set_cons_zero, List.set_cons_succ])
  refine wpAnyF_ready (rs := [0]) (by kernel_rfl) (by simp) ?_
  refine AllReadyF.cons (o := _) rfl (fun K hK => ?_) AllReadyF.nil
  go_simp
  (go_at_call 20)
  refine (newBox_any _).mono ?_
  rintro e w1 ⟨rfl, hb1, hbx1⟩
  refine hK.out _ _ (trivial) (fun hHeld0 => ?_)
  clear hK K
  (try simp only [Act.put, List.getElem_toArray, List.getElem_cons_succ, List.getElem_cons_zero, List.setIfInBounds_toArray, List.set_cons_zero, List.set_cons_succ])
  refine wpAnyF_ready (rs := [2]) (by kernel_rfl) (by simp) ?_
  refine AllReadyF.cons (o := _) rfl (fun K hK => ?_) AllReadyF.nil
  go_simp
  (go_at_call 19)
  refine (HNEW.out _ _ _ hbx1 (HK.out w1 hb1)).mono ?_
  rintro e w3 ⟨rfl, hc3, hb3⟩
  refine hK.out _ _ (trivial) (fun hHeld2 => ?_)
  clear hK K
  (try simp only [Act.put, List.getElem_toArray, List.getElem_cons_succ, List.getElem_cons_zero, List.setIfInBounds_toArray, List.set_cons_zero, List.set_cons_succ])
  refine wpAnyF_take (i := 3) (oi := _) (v := ?_) rfl (by kernel_rfl) (by kernel_rfl) (by kernel_rfl) (by kernel_rfl) (fun _ _ _ h => h) (Or.inl ⟨by rfl, ?_⟩) (by assumption) ?_
  rotate_left 1
  · intro w hSw
    (try dsimp only at hSw)
    (first | (go_simp; done) | (go_simp; with_reducible rfl))
  (try simp only [Act.put, List.getElem_toArray, List.getElem_cons_succ, List.getElem_cons_zero, List.setIfInBounds_toArray, List.set_cons_zero, List.set_cons_succ])
  refine wpAnyF_take (i := 4) (oi := _) (v := ?_) rfl (by kernel_rfl) (by kernel_rfl) (by kernel_rfl) (by kernel_rfl) (fun _ _ _ h => h) (Or.inl ⟨by rfl, ?_⟩) (by assumption) ?_
  rotate_left 1
  · intro w hSw
    (try dsimp only at hSw)
    (first | (go_simp; done) | (go_simp; with_reducible rfl))
  (try simp only [Act.put, List.getElem_toArray, List.getElem_cons_succ, List.getElem_cons_zero, List.setIfInBounds_toArray, List.set_cons_zero, List.set_cons_succ])
  refine wpAnyF_take (i := 5) (oi := _) (v := ?_) rfl (by kernel_rfl) (by kernel_rfl) (by kernel_rfl) (by kernel_rfl) (fun _ _ _ h => h) (Or.inl ⟨by rfl, ?_⟩) (by assumption) ?_
  rotate_left 1
  · intro w hSw
    (try dsimp only at hSw)
    (first | (go_simp; done) | (go_simp; with_reducible rfl))
  (try simp only [Act.put, List.getElem_toArray, List.getElem_cons_succ, List.getElem_cons_zero, List.setIfInBounds_toArray, List.set_cons_zero, List.set_cons_succ])
  refine wpAnyF_take (i := 6) (oi := _) (v := ?_) rfl (by kernel_rfl) (by kernel_rfl) (by kernel_rfl) (by kernel_rfl) (fun _ _ _ h => h) (Or.inl ⟨by rfl, ?_⟩) (by assumption) ?_
  rotate_left 1
  · intro w hSw
    (try dsimp only at hSw)
    (first | (go_simp; done) | (go_simp; with_reducible rfl))
  (try simp only [Act.put, List.getElem_toArray, List.getElem_cons_succ, List.getElem_cons_zero, List.setIfInBounds_toArray, List.set_cons_zero, List.set_cons_succ])
  refine wpAnyF_take (i := 7) (oi := _) (v := ?_) rfl (by kernel_rfl) (by kernel_rfl) (by kernel_rfl) (by kernel_rfl) (fun _ _ _ h => h) (Or.inl ⟨by rfl, ?_⟩) (by assumption) ?_
  rotate_left 1
  · intro w hSw
    (try dsimp only at hSw)
    (first | (go_simp; done) | (go_simp; with_reducible rfl))
  (try simp only [Act.put, List.getElem_toArray, List.getElem_cons_succ, List.getElem_cons_zero, List.setIfInBounds_toArray, List.set_cons_zero, List.set_cons_succ])
  refine wpAnyF_done (by kernel_rfl) ?_ _
  have hafter : Below W0.heap.size W0 w3 := (After.drew W0).trans (hb1.trans (hb3.mono hb1.size))
  have hs1 : W0.heap.size ≤ w1.heap.size := hb1.size
  have HBW := Lib.hid (HB0.out.trans (hafter.mono HB0.out.size))
  have HC3 := Lib.hid hc3
  have HWS : Hid (w.heap.size ≤ w1.heap.size) := Lib.hid (Nat.le_trans HB0.out.size hs1)
  clear hafter hb1 hb3 hc3 hs1 hbx1
  generalize w1.heap.size = gc at *
  go_wp2_with fail
  refine (newS_any gc 10 ks w3 HC3.out).mono ?_
  rintro e w4 ⟨rfl, hs4, hb4⟩
  have hsz := HBW.out.size
  have HF : Hid (MadeTo ks w (.returned (.pointer (some ⟨w3.heap.size + 1, 0, none⟩))) w4) := Lib.hid ⟨_, _, rfl, by omega, hsz, hs4, HBW.out.trans (hb4.mono hsz)⟩
  clear hs4 hb4
  go_wp2
  go_ret
  exact HF.out
theorem blankNil (e b : Int) (w : World) :
    Calls Try.prog 17 #[.pointer none, .int .u64 e, .int .i64 b] w fun r w' => r = .returned (.tuple #[.slice none 0 0, .int .i64 2]) ∧ Below w.heap.size w w' := by
  have HP : Hid (Calls Try.prog 29 #[.slice none 0 0, .int .i64 256] w (Gives w (padL [] 256))) := Lib.hid (pad_yes none 0 0 256 [] w (BS.nil _ _) (by omega) (by omega) (by omega))
  go_enter Try.func17, Try.ntmps17
  go_wp2_with fail
  refine HP.out.mono ?_
  rintro r w1 ⟨A, c, rfl, hb1, _⟩
  have HB1 := Lib.hid hb1
  clear hb1
  generalize (padL [] 256).length = n at *
  go_wp2_with fail
  refine (sealNil e b A n c w1).mono ?_
  rintro r w2 ⟨rfl, hb2⟩
  have HB2 := Lib.hid (HB1.out.trans (hb2.mono HB1.out.size))
  clear hb2
  go_wp2
  go_ret2
  exact ⟨rfl, HB2.out⟩
end
section
open Go.RowKit Go
set_option linter.unusedVariables false
set_option linter.unusedSimpArgs false
set_option maxRecDepth 100000
attribute [local irreducible] Gf.inv Gf.tm Gf.pw Gf.spread Gf.sub Gf.boxAt Gf.bk Gf.rm Gf.bit
theorem conv_c (W : World) (cs : Array Value) (n : Nat) (hn : cs.size = n) : (convert 29 29 (.slice (some ⟨W.heap.size, 0, none⟩) n n)).run Try.prog (W.alloc (.cells cs 5)) = .ok (.slice (some ⟨W.heap.size, 0, none⟩) n n) (W.alloc (.cells cs 5 (n, n + 1))) := by
  subst hn
  exact Lib.run_convert_bytes_const W _ _ cs cs.size cs.size Try.underlying29 Try.underlying5
theorem const_one (W : World) (x : Nat) (hx : x < 256) (z : Nat × Nat) : BS (W.alloc (.cells #[.int .u8 (x : Int)] 5 z)) (W.alloc (.cells #[.int .u8 (x : Int)] 5 z)).heap.size (some ⟨W.heap.size, 0, none⟩) 1 1 [x] := by
  refine ⟨rfl, by omega, by omega, fun i => ?_, fun h0 => ⟨W.heap.size, 0, rfl, by simp, fun i hi => ?_⟩⟩
  · match i with
    | 0 => exact hx
    | i + 1 => simp
  · obtain rfl : i = 0 := by omega
    rw [World.cell?_alloc_mark]
    rfl
theorem BS.past {S : Nat → Prop} {w w' : World} {n c : Nat} {A : Option Addr} {l : List Nat} (h : BS w w.heap.size A n c l) (ht : Turns S w w') (hn : ∀ ad, A = some ad → ¬ S ad.block) : BS w' w'.heap.size A n c l :=
  (h.keepA fun b o e h0 => ht.block b (by obtain ⟨b', o', e', hb, _⟩ := h.at_ h0; rw [e] at e'; injection e' with e'; injection e' with e' _ _; omega) (hn _ e)).more ht.size
theorem full_two (A : Option Addr) (n c : Nat) (L : List Nat) (hA : A = none → c = 0) (w : World) (hs : BS w w.heap.size A n c L) :
    Calls Try.prog 15 #[.slice A n c] w fun e w' => ∃ A c, e = .returned (.slice A 256 c) ∧ BS w' w'.heap.size A 256 c (fullL L) ∧ (∀ ad, A = some ad → w.heap.size ≤ ad.block) ∧ Below w.heap.size w w' :=
  (full_any A n c L hA w hs).mono fun e w' ⟨v, he, hown, hb⟩ => by
    have hby : ∀ i, (fullL L).getD i 0 < 256 := fillL_byte (fun i => (hs.take (k := min n 256) (by omega)).byte i |> fun h => by
      have e : L.take (min n 256) = L.take 256 := by rw [← hs.len]; simp [List.take_eq_take_iff, Nat.min_comm]
      rw [e] at h; exact h) _
    obtain ⟨A', c', rfl, hbs⟩ := hown.bs hby
    rw [full_len] at he hbs
    exact ⟨A', c', he, hbs, fun ad q => (hown.lt (g := ad.block) (by rw [q]; rfl)).1, hb⟩
def none2 : Seen := fun _ _ => none
theorem FW_none : FW none2 := fun _ _ _ h => by cases h
theorem unl_none (e b : Nat) (x : List Nat) (u : Bool) : unlF none2 e b x u = false := rfl
theorem seen_some (e b : Nat) (x : List Nat) : seenF none2 e b x e b = some x := by unfold seenF none2; simp
theorem seen_again (e b : Nat) (x y : List Nat) : seenF (seenF none2 e b x) e b y = seenF none2 e b x := by
  have h := seen_some e b x
  generalize seenF none2 e b x = F at *
  unfold seenF
  rw [h]; rfl
theorem unl_again (e b : Nat) (x y : List Nat) : unlF (seenF none2 e b x) e b y false = !decide (x = y) := by
  unfold unlF
  rw [seen_some]; simp
theorem xor_inj {p q s : List Nat} (hp : p.length = 256) (hq : q.length = 256) (hs : s.length = 256) (h : xorL p s = xorL q s) : p = q := by
  have h1 := xorL_twice p s
  have h2 := xorL_twice q s
  rw [hp, hs, Nat.min_self, List.take_of_length_le (by omega)] at h1
  rw [hq, hs, Nat.min_self, List.take_of_length_le (by omega)] at h2
  rw [← h1, h, h2]
def k1L : List Nat := 1 :: List.replicate 15 0
theorem k1_row : rowV (bF k1L) 16 = #[.int .u8 1, .int .u8 0, .int .u8 0, .int .u8 0, .int .u8 0, .int .u8 0, .int .u8 0, .int .u8 0, .int .u8 0, .int .u8 0, .int .u8 0, .int .u8 0, .int .u8 0, .int .u8 0, .int .u8 0, .int .u8 0] := by kernel_rfl
theorem k1_byte (i : Nat) : k1L.getD i 0 < 256 := by
  rcases Nat.lt_or_ge i 16 with h | h
  · have : ∀ j : Fin 16, k1L.getD j 0 < 256 := by decide
    exact this ⟨i, h⟩
  · rw [List.getD_eq_getElem?_getD, List.getElem?_eq_none (by exact h)]; decide
theorem full_xy : fullL [120] ≠ fullL [121] := by decide +kernel
set_option maxHeartbeats 8000000 in
theorem awake10_any (w : World) : Calls Try.prog 13 #[] w fun e w' => e = .returned (.bool true) ∧ Below w.heap.size w w' := by
  obtain ⟨ks, hks, hmade⟩ := made_any k1L rfl k1_byte
  rw [k1_row] at hmade
  have HMADE := Lib.hid hmade
  obtain ⟨st, hst⟩ : ∃ st, st = stmL ks 10 1 5 256 := ⟨_, rfl⟩
  have hstl : st.length = 256 := by rw [hst, stmL_len]
  have HSTL := Lib.hid hstl
  have HSEAL : Hid (∀ g bm m te tb f u A c l W, SlR W g 10 ks bm m f te tb u → FW f → m < 1000000 → BS W W.heap.size A 256 c l → Calls Try.prog 14 #[.pointer (some ⟨g, 0, none⟩), .int .u64 1, .int .i64 5, .slice A 256 c] W (SealTo W g 10 ks bm m te tb f u 1 5 (xorL l st))) := Lib.hid (fun g bm m te tb f u A c l W h1 h2 h3 h4 => by
    rw [hst]; exact seal_ok g 10 ks bm m te tb f u 1 5 (by omega) (by omega) A c l W h1 hks (by omega) h2 h3 h4)
  have HSB : Hid (∀ i, st.getD i 0 < 256) := Lib.hid (by rw [hst]; exact stmL_byte hks)
  clear hks hmade hst hstl
  go_enter Try.func13, Try.ntmps13
  go_wp2_with fail
  refine (HMADE.out _).mono ?_
  rintro e w1 ⟨g, bm, rfl, hg, hbm, hs1, hb1⟩
  have HG : Hid (w.heap.size ≤ g ∧ w.heap.size ≤ bm) := Lib.hid ⟨hg, hbm⟩
  have HS1 := Lib.hid hs1
  have HB1 := Lib.hid hb1
  clear hs1 hb1 hg hbm
  have hcs := conv_c w1 #[.int .u8 120] 1 rfl
  have hbk : Below w1.heap.size w1 (w1.alloc (.cells #[.int .u8 120] 5 (1, 2))) := (Below.refl _ _).alloc (Nat.le_refl _) _
  have HKa := Lib.hid hbk
  have HCa := Lib.hid (const_one w1 120 (by omega) (1, 2))
  clear hbk
  go_wp2_with fail
  generalize (w1.alloc (.cells #[.int .u8 120] 5 (1, 2))) = va at *
  clear hcs
  refine (full_two _ 1 1 [120] (fun h => by cases h) va HCa.out).mono ?_
  rintro e ua ⟨Aa, ca, rfl, hfa, _, hfba⟩
  have HFBa := Lib.hid (HKa.out.trans (hfba.mono HKa.out.size))
  have HFa := Lib.hid hfa
  clear hfa hfba HCa
  have HSa := Lib.hid (HS1.out.next HFBa.out)
  have HBa := Lib.hid (HB1.out.trans (HFBa.out.mono HB1.out.size))
  go_wp2_with fail
  refine (HSEAL.out g bm 0 0 0 none2 false Aa ca (fullL [120]) ua HSa.out FW_none (by omega) HFa.out).mono ?_
  rintro e w2 ⟨Ax, cx, rfl, hxs, hxn, hxt, hs2⟩
  rw [unl_none, if_neg (by decide), if_neg (by decide), Bool.or_false] at hs2
  have HT2 := Lib.hid hxt
  have HXN : Hid (∀ ad, Ax = some ad → ¬ (ad.block = g ∨ ad.block = bm)) := Lib.hid (fun ad q => by have := hxn ad q; have := HSa.out.lt; have := HSa.out.ltm; omega)
  have HX2 := Lib.hid hxs
  have HS2 := Lib.hid hs2
  have HXL : Hid (xorL (fullL [120]) st ≠ xorL (fullL [121]) st) := Lib.hid (fun h => full_xy (xor_inj (full_len _) (full_len _) HSTL.out h))
  have HXLEN : Hid ((xorL (fullL [120]) st).length = 256) := Lib.hid (by rw [xorL_len, full_len, HSTL.out]; rfl)
  have HB2 : Hid (Below w.heap.size w w2) := Lib.hid (HBa.out.trans (hxt.below HBa.out.size (fun j hj => by rcases hj with rfl | rfl; exact HG.out.1; exact HG.out.2)))
  clear hxt hxn hxs hs2 HSa HFa HFBa HKa HBa HS1 HB1
  obtain ⟨x, hx⟩ : ∃ x, x = xorL (fullL [120]) st := ⟨_, rfl⟩
  have HXE : Hid (xorL (fullL [120]) st = x) := Lib.hid hx.symm
  replace HX2 := Lib.hid (by have := HX2.out; rw [← hx] at this; exact this)
  replace HS2 := Lib.hid (by have := HS2.out; rw [← hx] at this; exact this)
  replace HXL := Lib.hid (by have := HXL.out; rw [← hx] at this; exact this)
  replace HXLEN := Lib.hid (by have := HXLEN.out; rw [← hx] at this; exact this)
  clear hx
  have hcs := conv_c w2 #[.int .u8 120] 1 rfl
  have hbk : Below w2.heap.size w2 (w2.alloc (.cells #[.int .u8 120] 5 (1, 2))) := (Below.refl _ _).alloc (Nat.le_refl _) _
  have HKb := Lib.hid hbk
  have HCb := Lib.hid (const_one w2 120 (by omega) (1, 2))
  clear hbk
  go_wp2_with fail
  generalize (w2.alloc (.cells #[.int .u8 120] 5 (1, 2))) = vb at *
  clear hcs
  refine (full_two _ 1 1 [120] (fun h => by cases h) vb HCb.out).mono ?_
  rintro e ub ⟨Ab, cb, rfl, hfb, _, hfbb⟩
  have HFBb := Lib.hid (HKb.out.trans (hfbb.mono HKb.out.size))
  have HFb := Lib.hid hfb
  clear hfb hfbb HCb
  have HSb := Lib.hid (HS2.out.next HFBb.out)
  have HBb := Lib.hid (HB2.out.trans (HFBb.out.mono HB2.out.size))
  have HXb := Lib.hid ((HX2.out.below HFBb.out).more HFBb.out.size)
  go_wp2_with fail
  refine (HSEAL.out g bm 1 0 0 (seenF none2 1 5 x) false Ab cb (fullL [120]) ub HSb.out (FW_none.seen 1 5 HXLEN.out) (by omega) HFb.out).mono ?_
  rintro e w3 ⟨Ay, cy, rfl, hys, hyn, hyt, hs3⟩
  rw [HXE.out, unl_again, decide_eq_true rfl, Bool.not_true, if_neg (by decide), if_neg (by decide), Bool.or_false, seen_again] at hs3
  rw [HXE.out] at hys
  have HYN : Hid (∀ ad, Ay = some ad → ¬ (ad.block = g ∨ ad.block = bm)) := Lib.hid (fun ad q => by have := hyn ad q; have := HSb.out.lt; have := HSb.out.ltm; omega)
  have HY3 := Lib.hid hys
  have HX3 := Lib.hid (HXb.out.past hyt HXN.out)
  have HS3 := Lib.hid hs3
  have HB3 : Hid (Below w.heap.size w w3) := Lib.hid (HBb.out.trans (hyt.below HBb.out.size (fun j hj => by rcases hj with rfl | rfl; exact HG.out.1; exact HG.out.2)))
  clear hyt hyn hys hs3 HSb HFb HFBb HKb HBb HS2 HB2 HX2 HXb HT2
  have HTW : Hid (Calls Try.prog 12 #[.pointer (some ⟨g, 0, none⟩)] w3 fun r w' => r = .returned (.tuple #[.agg #[.int .u64 0, .int .i64 0], .bool false]) ∧ Below w3.heap.size w3 w') := Lib.hid (sTwice_any g 10 ks bm 2 0 0 _ false w3 HS3.out)
  go_wp2_with fail
  refine HTW.out.mono ?_
  rintro e w4 ⟨rfl, hb4⟩
  have e5 : (w4.alloc (.cells #[.int .u64 0, .int .i64 0] TN)).heap.size = w4.heap.size + 1 := by simp
  have e6 : ((w4.alloc (.cells #[.int .u64 0, .int .i64 0] TN)).alloc (.cells #[.int .u8 121] 5 (1, 2))).heap.size = w4.heap.size + 1 + 1 := by simp
  have hb5 : Below w3.heap.size w3 ((w4.alloc (.cells #[.int .u64 0, .int .i64 0] TN)).alloc (.cells #[.int .u8 121] 5 (1, 2))) := (hb4.alloc hb4.size _).alloc (by rw [e5]; have := hb4.size; omega) _
  have hcs := conv_c (w4.alloc (.cells #[.int .u64 0, .int .i64 0] TN)) #[.int .u8 121] 1 rfl
  rw [e5] at hcs
  have HK5 := Lib.hid hb5
  have HC5 : Hid (BS ((w4.alloc (.cells #[.int .u64 0, .int .i64 0] TN)).alloc (.cells #[.int .u8 121] 5 (1, 2))) ((w4.alloc (.cells #[.int .u64 0, .int .i64 0] TN)).alloc (.cells #[.int .u8 121] 5 (1, 2))).heap.size (some ⟨w4.heap.size + 1, 0, none⟩) 1 1 [121]) := Lib.hid (by have := const_one (w4.alloc (.cells #[.int .u64 0, .int .i64 0] TN)) 121 (by omega) (1, 2); rw [e5] at this; exact this)
  clear hb4 hb5 e5 e6 HTW
  go_wp2_with fail
  generalize (w4.alloc (.cells #[.int .u64 0, .int .i64 0] TN)).alloc (.cells #[.int .u8 121] 5 (1, 2)) = vc at *
  clear hcs
  refine (full_two _ 1 1 [121] (fun h => by cases h) vc HC5.out).mono ?_
  rintro e uc ⟨Ac, cc, rfl, hfc, _, hfbc⟩
  have HFBc := Lib.hid (HK5.out.trans (hfbc.mono HK5.out.size))
  have HFc := Lib.hid hfc
  have HSc := Lib.hid (HS3.out.next HFBc.out)
  have HBc := Lib.hid (HB3.out.trans (HFBc.out.mono HB3.out.size))
  have HXc := Lib.hid ((HX3.out.below HFBc.out).more HFBc.out.size)
  have HYc := Lib.hid ((HY3.out.below HFBc.out).more HFBc.out.size)
  clear hfc hfbc HC5 HK5 HX3 HY3 HS3 HB3
  go_wp2_with fail
  refine (HSEAL.out g bm 2 0 0 (seenF none2 1 5 x) false Ac cc (fullL [121]) uc HSc.out (FW_none.seen 1 5 HXLEN.out) (by omega) HFc.out).mono ?_
  rintro e w6 ⟨Az, cz, rfl, _, _, hzt, hs6⟩
  rw [unl_again, decide_eq_false HXL.out, Bool.not_false, if_pos rfl, if_pos rfl, Bool.false_or] at hs6
  have HX6 := Lib.hid (HXc.out.past hzt HXN.out)
  have HY6 := Lib.hid (HYc.out.past hzt HYN.out)
  have HB6 : Hid (Below w.heap.size w w6) := Lib.hid (HBc.out.trans (hzt.below HBc.out.size (fun j hj => by rcases hj with rfl | rfl; exact HG.out.1; exact HG.out.2)))
  have HTW : Hid (Calls Try.prog 12 #[.pointer (some ⟨g, 0, none⟩)] w6 fun r w' => r = .returned (.tuple #[.agg #[.int .u64 1, .int .i64 5], .bool true]) ∧ Below w6.heap.size w6 w') := Lib.hid (sTwice_any g 10 ks bm 3 1 5 _ true w6 hs6)
  clear hzt hs6 HSc HFc HFBc HBc HXc HYc
  go_wp2_with fail
  refine HTW.out.mono ?_
  rintro e w7 ⟨rfl, hb7⟩
  have hb8 : Below w6.heap.size w6 (w7.alloc (.cells #[.int .u64 1, .int .i64 5] TN)) := hb7.alloc hb7.size _
  obtain ⟨sx, hsx⟩ : ∃ sx, sx = str x := ⟨_, rfl⟩
  have hvx : (convert 29 9 (.slice Ax 256 cx)).run Try.prog (w7.alloc (.cells #[.int .u64 1, .int .i64 5] TN)) = .ok (.string sx) (w7.alloc (.cells #[.int .u64 1, .int .i64 5] TN)) := by rw [hsx]; exact (HX6.out.below hb8).conv 29 5 9 Try.underlying29 Try.underlying5 Try.underlying9
  have hvy : (convert 29 9 (.slice Ay 256 cy)).run Try.prog (w7.alloc (.cells #[.int .u64 1, .int .i64 5] TN)) = .ok (.string sx) (w7.alloc (.cells #[.int .u64 1, .int .i64 5] TN)) := by rw [hsx]; exact (HY6.out.below hb8).conv 29 5 9 Try.underlying29 Try.underlying5 Try.underlying9
  have HBF := Lib.hid (HB6.out.trans (hb8.mono HB6.out.size))
  clear hb7 hb8 hsx HX6 HY6 HB6 HTW
  go_wp2
  go_ret
  exact ⟨rfl, HBF.out⟩
end
section
open Go.RowKit Go
set_option linter.unusedVariables false
set_option linter.unusedSimpArgs false
set_option maxRecDepth 100000
attribute [local irreducible] Gf.inv Gf.tm Gf.pw Gf.spread Gf.sub Gf.boxAt Gf.bk Gf.rm Gf.bit
theorem exec_conv {P : Program} {o : Oper} {a : Act} {w : World} (s d : TypeId) (x : Operand) (ho : o.op = .convert s d x) (vx v : Value) (hx : a.eval x = vx) (hr : (convert s d vx).run P w = .ok v w) :
    (execOp a.eval o).run P w = .ok (.value v) w := by
  unfold execOp
  simp [ho, hx, hr, Result.andThen]
set_option maxHeartbeats 4000000 in
theorem sealNil_any (e b : Int) (A : Option Addr) (n c : Nat) (w : World) : Calls Try.prog 6 #[.int .u64 e, .int .i64 b, .slice A n c] w fun r w' => r = .returned (.bool true) ∧ Below w.heap.size w w' := by
  go_enter Try.func6, Try.ntmps6
  go_wp2_with fail
  refine (sealNil e b A n c _).mono ?_
  rintro r w1 ⟨rfl, hb1⟩
  have HB1 := Lib.hid hb1
  clear hb1
  go_wp2_with fail
  refine (openNil e b A n c w1).mono ?_
  rintro r w2 ⟨rfl, hb2⟩
  have HB2 := Lib.hid (HB1.out.trans (hb2.mono HB1.out.size))
  clear hb2
  go_wp2_with fail
  refine (blankNil e b w2).mono ?_
  rintro r w3 ⟨rfl, hb3⟩
  have HB3 := Lib.hid (HB2.out.trans (hb3.mono HB2.out.size))
  clear hb3
  go_wp2_with fail
  refine (twiceNil w3).mono ?_
  rintro r w4 ⟨rfl, hb4⟩
  have HB4 := Lib.hid (HB3.out.trans (hb4.mono HB3.out.size))
  have HB5 := Lib.hid (HB4.out.trans ((al w4 (.cells #[.int .u64 0, .int .i64 0] TN)).mono HB4.out.size))
  clear hb4
  go_wp2_with fail
  generalize w4.alloc (.cells #[.int .u64 0, .int .i64 0] TN) = w5 at *
  refine (usedNil w5).mono ?_
  rintro r w6 ⟨rfl, rfl⟩
  go_wp2_with fail
  refine (newS_nil w5).mono ?_
  rintro r w6 ⟨rfl, rfl⟩
  go_wp2_with fail
  refine (awake10_any w5).mono ?_
  rintro r w7 ⟨rfl, hb7⟩
  have HB7 := Lib.hid (HB5.out.trans (hb7.mono HB5.out.size))
  clear hb7
  go_wp2
  go_ret
  exact ⟨rfl, HB7.out⟩
theorem fullL_byte {l : List Nat} (h : ∀ i, l.getD i 0 < 256) (i : Nat) : (fullL l).getD i 0 < 256 := by
  refine fillL_byte (fun i => ?_) _ i
  rw [List.getD_eq_getElem?_getD, List.getElem?_take]
  split
  · rw [← List.getD_eq_getElem?_getD]; exact h i
  · decide
theorem info16n : (Try.prog.info? 22).map (·.size) = some 16 := by kernel_rfl
set_option maxHeartbeats 4000000 in
theorem sealBack_any (la : List Nat) (ha : la.length = 16) (ha2 : ∀ i, la.getD i 0 < 256) (e b : Nat) (he : e < 2 ^ 64) (hbr : b < 65536) (A : Option Addr) (n c : Nat) (l : List Nat) (hA : A = none → c = 0) (w : World) (hs : BS w w.heap.size A n c l) :
    Calls Try.prog 4 #[.agg (rowV (bF la) 16), .int .u64 (e : Int), .int .u16 (b : Int), .slice A n c] w fun r w' => r = .returned (.bool true) ∧ Below w.heap.size w w' := by
  obtain ⟨ks, hks, hmade⟩ := made_any la ha ha2
  have HMADE := Lib.hid hmade
  have hb0 := al w (.cells (rowV (bF la) 16) 22)
  have hx0 := heap_alloc_new w (.cells (rowV (bF la) 16) 22)
  obtain ⟨st, hst⟩ : ∃ st, st = stmL ks 10 e b 256 := ⟨_, rfl⟩
  have HSTL : Hid (st.length = 256) := Lib.hid (by rw [hst, stmL_len])
  have HSEAL : Hid (∀ g bm m te tb f u A c l W, SlR W g 10 ks bm m f te tb u → FW f → m < 1000000 → BS W W.heap.size A 256 c l → Calls Try.prog 14 #[.pointer (some ⟨g, 0, none⟩), .int .u64 (e : Int), .int .i64 (b : Int), .slice A 256 c] W (SealTo W g 10 ks bm m te tb f u e b (xorL l st))) := Lib.hid (fun g bm m te tb f u A c l W h1 h2 h3 h4 => by
    rw [hst]; exact seal_ok g 10 ks bm m te tb f u e b he (by omega) A c l W h1 hks (by omega) h2 h3 h4)
  have HOPEN : Hid (∀ g bm m te tb f u A c l W, SlR W g 10 ks bm m f te tb u → BS W W.heap.size A 256 c l → Calls Try.prog 16 #[.pointer (some ⟨g, 0, none⟩), .int .u64 (e : Int), .int .i64 (b : Int), .slice A 256 c] W (TurnTo W (xorL l st))) := Lib.hid (fun g bm m te tb f u A c l W h1 h4 => by
    rw [hst]; exact open_ok g 10 ks bm m te tb f u e b he (by omega) A c l W h1 hks (by omega) h4)
  have hw16 : IntKind.i64.wrap (b : Int) = (b : Int) := IntWalk.i64_in _ ⟨by omega, by omega⟩
  have HSB : Hid (∀ i, st.getD i 0 < 256) := Lib.hid (by rw [hst]; exact stmL_byte hks)
  have HB0 := Lib.hid hb0
  have HIA : Hid ((Try.prog.info? 22).map (·.size) = some (rowV (bF la) 16).size) := Lib.hid (by rw [rowV_size]; exact info16n)
  have HX0 := Lib.hid hx0
  have HS := Lib.hid hs
  have HFULL : Hid (∀ W, Below w.heap.size w W → Calls Try.prog 15 #[.slice A n c] W fun e w' => ∃ A c, e = .returned (.slice A 256 c) ∧ BS w' w'.heap.size A 256 c (fullL l) ∧ (∀ ad, A = some ad → W.heap.size ≤ ad.block) ∧ Below W.heap.size W w') := Lib.hid (fun W h => full_two A n c l hA W ((HS.out.below h).more h.size))
  have HLB := Lib.hid (fullL_byte (l := l) (fun i => hs.byte i))
  clear hks hmade hst hb0 hx0 ha ha2 hs hA he
  generalize rowV (bF la) 16 = xa at *
  go_enter Try.func4, Try.ntmps4
  go_wp2_with (with_reducible refine wpList_load_row rfl 22 (.tmp 4) rfl _ rfl 22 _ _ _ HX0.out Try.underlying22 rfl HIA.out ?_)
  generalize w.alloc (.cells xa 22) = w0 at *
  refine (HMADE.out _).mono ?_
  rintro r w1 ⟨g, bm, rfl, hg, hbm, hs1, hb1⟩
  have HG : Hid (w.heap.size ≤ g ∧ w.heap.size ≤ bm) := Lib.hid (by have := HB0.out.size; omega)
  have HS1 := Lib.hid hs1
  have HB1 := Lib.hid (HB0.out.trans (hb1.mono HB0.out.size))
  have HBW1 := Lib.hid hb1
  clear hs1 hb1 hg hbm
  go_wp2_with fail
  refine (HFULL.out w1 HB1.out).mono ?_
  rintro r w2 ⟨A2, c2, rfl, hf2, _, hb2⟩
  have HF2 := Lib.hid hf2
  have HB2 := Lib.hid (HB1.out.trans (hb2.mono HB1.out.size))
  have HS2 := Lib.hid (HS1.out.next hb2)
  clear hf2 hb2
  go_wp2_with fail
  refine (HSEAL.out g bm 0 0 0 none2 false A2 c2 (fullL l) w2 HS2.out FW_none (by omega) HF2.out).mono ?_
  rintro r w3 ⟨A3, c3, rfl, hx3, _, ht3, hs3⟩
  have HX3 := Lib.hid hx3
  have HS3 := Lib.hid hs3
  have HB3 : Hid (Below w.heap.size w w3) := Lib.hid (HB2.out.trans (ht3.below HB2.out.size (fun j hj => by rcases hj with rfl | rfl; exact HG.out.1; exact HG.out.2)))
  clear hx3 hs3 ht3
  go_wp2_with fail
  refine (HOPEN.out g bm _ _ _ _ _ A3 c3 _ w3 HS3.out HX3.out).mono ?_
  rintro r w4 ⟨A4, c4, rfl, hb4, hx4, _⟩
  rw [xorL_twice, full_len, HSTL.out, Nat.min_self, List.take_of_length_le (by rw [full_len]; exact Nat.le_refl _)] at hx4
  have HX4 := Lib.hid hx4
  have HB4 := Lib.hid (HB3.out.trans (hb4.mono HB3.out.size))
  obtain ⟨sx, hsx⟩ : ∃ sx, sx = str (fullL l) := ⟨_, rfl⟩
  have HSX := Lib.hid hsx
  clear hx4 hb4 hsx HX3 HS3 HB3 HF2 HS2
  have HK : Hid (∀ W, Below w4.heap.size w4 W → (convert 29 9 (.slice A4 256 c4)).run Try.prog W = .ok (.string sx) W) := Lib.hid (fun W h => by rw [HSX.out]; exact (HX4.out.below h).conv 29 5 9 Try.underlying29 Try.underlying5 Try.underlying9)
  go_wp2_with fail
  refine wp_region_F (S := fun (W : World) => Below w4.heap.size w4 W) [] (by kernel_rfl) ((Below.refl _ _).drew) (fun hHeld => ?_)
  refine wpAnyF_take (i := 0) (oi := _) (v := ?_) rfl (by kernel_rfl) (by kernel_rfl) (by kernel_rfl) (by kernel_rfl) (fun _ _ _ h => h) (Or.inl ⟨by rfl, ?_⟩) (by assumption) ?_
  rotate_left 1
  · intro w hSw
    (try dsimp only at hSw)
    (first | (go_simp; done) | (go_simp; with_reducible rfl))
  (try simp only [Act.put, List.getElem_toArray, List.getElem_cons_succ, List.getElem_cons_zero, List.setIfInBounds_toArray, List.set_cons_zero, List.set_cons_succ])
  refine wpAnyF_take (i := 1) (oi := _) (v := ?_) rfl (by kernel_rfl) (by kernel_rfl) (by kernel_rfl) (by kernel_rfl) (fun _ _ _ h => h) (Or.inl ⟨by rfl, ?_⟩) (by assumption) ?_
  rotate_left 1
  · intro w hSw
    (try dsimp only at hSw)
    (first | (go_simp; done) | (go_simp; with_reducible rfl))
  (try simp only [Act.put, List.getElem_toArray, List.getElem_cons_succ, List.getElem_cons_zero, List.setIfInBounds_toArray, List.set_cons_zero, List.set_cons_succ])
  refine wpAnyF_take (i := 2) (oi := _) (v := ?_) rfl (by kernel_rfl) (by kernel_rfl) (by kernel_rfl) (by kernel_rfl) (fun _ _ _ h => h) (Or.inl ⟨by rfl, ?_⟩) (by assumption) ?_
  rotate_left 1
  · intro w hSw
    (try dsimp only at hSw)
    (first | (go_simp; done) | (go_simp; with_reducible rfl))
  (try simp only [Act.put, List.getElem_toArray, List.getElem_cons_succ, List.getElem_cons_zero, List.setIfInBounds_toArray, List.set_cons_zero, List.set_cons_succ])
  refine wpAnyF_take (i := 3) (oi := _) (v := ?_) rfl (by kernel_rfl) (by kernel_rfl) (by kernel_rfl) (by kernel_rfl) (fun _ _ _ h => h) (Or.inl ⟨by rfl, ?_⟩) (by assumption) ?_
  rotate_left 1
  · intro w hSw
    (try dsimp only at hSw)
    (first | (go_simp; done) | (go_simp; with_reducible rfl))
  (try simp only [Act.put, List.getElem_toArray, List.getElem_cons_succ, List.getElem_cons_zero, List.setIfInBounds_toArray, List.set_cons_zero, List.set_cons_succ])
  refine wpAnyF_take (i := 4) (oi := _) (v := ?_) rfl (by kernel_rfl) (by kernel_rfl) (by kernel_rfl) (by kernel_rfl) (fun _ _ _ h => h) (Or.inl ⟨by rfl, ?_⟩) (by assumption) ?_
  rotate_left 1
  · intro w hSw
    (try dsimp only at hSw)
    (first | (go_simp; done) | (go_simp; with_reducible rfl))
  (try simp only [Act.put, List.getElem_toArray, List.getElem_cons_succ, List.getElem_cons_zero, List.setIfInBounds_toArray, List.set_cons_zero, List.set_cons_succ])
  refine wpAnyF_take (i := 5) (oi := _) (v := ?_) rfl (by kernel_rfl) (by kernel_rfl) (by kernel_rfl) (by kernel_rfl) (fun _ _ _ h => h) (Or.inl ⟨by rfl, ?_⟩) (by assumption) ?_
  rotate_left 1
  · intro w hSw
    (try dsimp only at hSw)
    (first | (go_simp; done) | (go_simp; with_reducible rfl))
  (try simp only [Act.put, List.getElem_toArray, List.getElem_cons_succ, List.getElem_cons_zero, List.setIfInBounds_toArray, List.set_cons_zero, List.set_cons_succ])
  refine wpAnyF_take (i := 6) (oi := _) (v := ?_) rfl (by kernel_rfl) (by kernel_rfl) (by kernel_rfl) (by kernel_rfl) (fun _ _ _ h => h) (Or.inl ⟨by rfl, ?_⟩) (by assumption) ?_
  rotate_left 1
  · intro w hSw
    (try dsimp only at hSw)
    (first | (go_simp; done) | (go_simp; with_reducible rfl))
  (try simp only [Act.put, List.getElem_toArray, List.getElem_cons_succ, List.getElem_cons_zero, List.setIfInBounds_toArray, List.set_cons_zero, List.set_cons_succ])
  refine wpAnyF_take (i := 7) (oi := _) (v := ?_) rfl (by kernel_rfl) (by kernel_rfl) (by kernel_rfl) (by kernel_rfl) (fun _ _ _ h => h) (Or.inl ⟨by rfl, ?_⟩) (by assumption) ?_
  rotate_left 1
  · intro w hSw
    (try dsimp only at hSw)
    (first | (go_simp; done) | (go_simp; with_reducible rfl))
  (try simp only [Act.put, List.getElem_toArray, List.getElem_cons_succ, List.getElem_cons_zero, List.setIfInBounds_toArray, List.set_cons_zero, List.set_cons_succ])
  refine wpAnyF_take (i := 8) (oi := _) (v := .string sx) rfl (by kernel_rfl) (by kernel_rfl) (by kernel_rfl) (by kernel_rfl) (fun _ _ _ h => h) (Or.inl ⟨by rfl, ?_⟩) (by assumption) ?_
  · intro w hSw
    (try dsimp only at hSw)
    exact exec_conv _ _ (.tmp 42) (by rfl) _ _ (by rfl) (HK.out _ hSw)
  (try simp only [Act.put, List.getElem_toArray, List.getElem_cons_succ, List.getElem_cons_zero, List.setIfInBounds_toArray, List.set_cons_zero, List.set_cons_succ])
  refine wpAnyF_take (i := 9) (oi := _) (v := ?_) rfl (by kernel_rfl) (by kernel_rfl) (by kernel_rfl) (by kernel_rfl) (fun _ _ _ h => h) (Or.inl ⟨by rfl, ?_⟩) (by assumption) ?_
  rotate_left 1
  · intro w hSw
    (try dsimp only at hSw)
    (first | (go_simp; done) | (go_simp; with_reducible rfl))
  (try simp only [Act.put, List.getElem_toArray, List.getElem_cons_succ, List.getElem_cons_zero, List.setIfInBounds_toArray, List.set_cons_zero, List.set_cons_succ])
  refine wpAnyF_ready (rs := [10]) (by kernel_rfl) (by simp) ?_
  refine AllReadyF.cons (o := _) rfl (fun K hK => ?_) AllReadyF.nil
  go_simp
  (go_at_call 15)
  refine (HFULL.out _ (HB4.out.trans (hHeld.mono HB4.out.size))).mono ?_
  rintro r wf0 ⟨Af0, cf0, rfl, hff0, _, hfb0⟩
  have HFB0 : Hid (Below w4.heap.size w4 wf0) := Lib.hid (hHeld.trans (hfb0.mono hHeld.size))
  have HFF0 := Lib.hid hff0
  clear hff0 hfb0
  refine hK.out _ _ (HFB0.out) (fun hHeld10 => ?_)
  clear hK K
  (try simp only [Act.put, List.getElem_toArray, List.getElem_cons_succ, List.getElem_cons_zero, List.setIfInBounds_toArray, List.set_cons_zero, List.set_cons_succ])
  refine wpAnyF_ready (rs := [11]) (by kernel_rfl) (by simp) ?_
  refine AllReadyF.cons (o := _) rfl (fun K hK => ?_) AllReadyF.nil
  have hcv : (convert 29 9 (.slice Af0 256 cf0)).run Try.prog wf0 = .ok (.string sx) wf0 := by rw [HSX.out]; exact HFF0.out.conv 29 5 9 Try.underlying29 Try.underlying5 Try.underlying9
  go_simp
  clear hcv
  refine hK.out _ _ (HFB0.out) (fun hHeld11 => ?_)
  clear hK K
  (try simp only [Act.put, List.getElem_toArray, List.getElem_cons_succ, List.getElem_cons_zero, List.setIfInBounds_toArray, List.set_cons_zero, List.set_cons_succ])
  refine wpAnyF_take (i := 12) (oi := _) (v := ?_) rfl (by kernel_rfl) (by kernel_rfl) (by kernel_rfl) (by kernel_rfl) (fun _ _ _ h => h) (Or.inl ⟨by rfl, ?_⟩) (by assumption) ?_
  rotate_left 1
  · intro w hSw
    (try dsimp only at hSw)
    (first | (go_simp; done) | (go_simp; with_reducible rfl))
  (try simp only [Act.put, List.getElem_toArray, List.getElem_cons_succ, List.getElem_cons_zero, List.setIfInBounds_toArray, List.set_cons_zero, List.set_cons_succ])
  refine wpAnyF_take (i := 13) (oi := _) (v := ?_) rfl (by kernel_rfl) (by kernel_rfl) (by kernel_rfl) (by kernel_rfl) (fun _ _ _ h => h) (Or.inl ⟨by rfl, ?_⟩) (by assumption) ?_
  rotate_left 1
  · intro w hSw
    (try dsimp only at hSw)
    (first | (go_simp; done) | (go_simp; with_reducible rfl))
  (try simp only [Act.put, List.getElem_toArray, List.getElem_cons_succ, List.getElem_cons_zero, List.setIfInBounds_toArray, List.set_cons_zero, List.set_cons_succ])
  refine wpAnyF_take (i := 14) (oi := _) (v := ?_) rfl (by kernel_rfl) (by kernel_rfl) (by kernel_rfl) (by kernel_rfl) (fun _ _ _ h => h) (Or.inl ⟨by rfl, ?_⟩) (by assumption) ?_
  rotate_left 1
  · intro w hSw
    (try dsimp only at hSw)
    (first | (go_simp; done) | (go_simp; with_reducible rfl))
  (try simp only [Act.put, List.getElem_toArray, List.getElem_cons_succ, List.getElem_cons_zero, List.setIfInBounds_toArray, List.set_cons_zero, List.set_cons_succ])
  refine wpAnyF_ready (rs := [15]) (by kernel_rfl) (by simp) ?_
  refine AllReadyF.cons (o := _) rfl (fun K hK => ?_) AllReadyF.nil
  go_simp
  (go_at_call 13)
  refine (awake10_any _).mono ?_
  rintro r wz ⟨rfl, hbz⟩
  have HBZ : Hid (Below w4.heap.size w4 wz) := Lib.hid (HFB0.out.trans (hbz.mono HFB0.out.size))
  clear hbz
  refine hK.out _ _ (HBZ.out) (fun hHeld15 => ?_)
  clear hK K
  (try simp only [Act.put, List.getElem_toArray, List.getElem_cons_succ, List.getElem_cons_zero, List.setIfInBounds_toArray, List.set_cons_zero, List.set_cons_succ])
  refine wpAnyF_take (i := 16) (oi := _) (v := ?_) rfl (by kernel_rfl) (by kernel_rfl) (by kernel_rfl) (by kernel_rfl) (fun _ _ _ h => h) (Or.inl ⟨by rfl, ?_⟩) (by assumption) ?_
  rotate_left 1
  · intro w hSw
    (try dsimp only at hSw)
    (first | (go_simp; done) | (go_simp; with_reducible rfl))
  (try simp only [Act.put, List.getElem_toArray, List.getElem_cons_succ, List.getElem_cons_zero, List.setIfInBounds_toArray, List.set_cons_zero, List.set_cons_succ])
  refine wpAnyF_take (i := 17) (oi := _) (v := ?_) rfl (by kernel_rfl) (by kernel_rfl) (by kernel_rfl) (by kernel_rfl) (fun _ _ _ h => h) (Or.inl ⟨by rfl, ?_⟩) (by assumption) ?_
  rotate_left 1
  · intro w hSw
    (try dsimp only at hSw)
    (first | (go_simp; done) | (go_simp; with_reducible rfl))
  (try simp only [Act.put, List.getElem_toArray, List.getElem_cons_succ, List.getElem_cons_zero, List.setIfInBounds_toArray, List.set_cons_zero, List.set_cons_succ])
  refine wpAnyF_done (by kernel_rfl) ?_ _
  have HF := Lib.hid (HB4.out.trans (HBZ.out.mono HB4.out.size))
  go_wp2
  go_ret
  exact ⟨rfl, HF.out⟩
set_option maxHeartbeats 4000000 in
theorem sealApart_any (la : List Nat) (ha : la.length = 16) (ha2 : ∀ i, la.getD i 0 < 256) (e b : Nat) (he : e < 2 ^ 64) (hbr : b < 65536) (A : Option Addr) (n c : Nat) (l : List Nat) (hA : A = none → c = 0) (A' : Option Addr) (n' c' : Nat) (l' : List Nat) (hA' : A' = none → c' = 0) (w : World) (hs : BS w w.heap.size A n c l) (hs' : BS w w.heap.size A' n' c' l') :
    Calls Try.prog 7 #[.agg (rowV (bF la) 16), .int .u64 (e : Int), .int .u16 (b : Int), .slice A n c, .slice A' n' c'] w fun r w' => r = .returned (.bool true) ∧ Below w.heap.size w w' := by
  obtain ⟨ks, hks, hmade⟩ := made_any la ha ha2
  have HMADE := Lib.hid hmade
  have hb0 := al w (.cells (rowV (bF la) 16) 22)
  have hx0 := heap_alloc_new w (.cells (rowV (bF la) 16) 22)
  obtain ⟨st, hst⟩ : ∃ st, st = stmL ks 10 e b 256 := ⟨_, rfl⟩
  have HSTL : Hid (st.length = 256) := Lib.hid (by rw [hst, stmL_len])
  have HSEAL : Hid (∀ g bm m te tb f u A c l W, SlR W g 10 ks bm m f te tb u → FW f → m < 1000000 → BS W W.heap.size A 256 c l → Calls Try.prog 14 #[.pointer (some ⟨g, 0, none⟩), .int .u64 (e : Int), .int .i64 (b : Int), .slice A 256 c] W (SealTo W g 10 ks bm m te tb f u e b (xorL l st))) := Lib.hid (fun g bm m te tb f u A c l W h1 h2 h3 h4 => by
    rw [hst]; exact seal_ok g 10 ks bm m te tb f u e b he (by omega) A c l W h1 hks (by omega) h2 h3 h4)
  have HOPEN : Hid (∀ g bm m te tb f u A c l W, SlR W g 10 ks bm m f te tb u → BS W W.heap.size A 256 c l → Calls Try.prog 16 #[.pointer (some ⟨g, 0, none⟩), .int .u64 (e : Int), .int .i64 (b : Int), .slice A 256 c] W (TurnTo W (xorL l st))) := Lib.hid (fun g bm m te tb f u A c l W h1 h4 => by
    rw [hst]; exact open_ok g 10 ks bm m te tb f u e b he (by omega) A c l W h1 hks (by omega) h4)
  have hw16 : IntKind.i64.wrap (b : Int) = (b : Int) := IntWalk.i64_in _ ⟨by omega, by omega⟩
  have HSB : Hid (∀ i, st.getD i 0 < 256) := Lib.hid (by rw [hst]; exact stmL_byte hks)
  have HB0 := Lib.hid hb0
  have HIA : Hid ((Try.prog.info? 22).map (·.size) = some (rowV (bF la) 16).size) := Lib.hid (by rw [rowV_size]; exact info16n)
  have HX0 := Lib.hid hx0
  have HSp := Lib.hid hs
  have HFULLp : Hid (∀ W, Below w.heap.size w W → Calls Try.prog 15 #[.slice A n c] W fun e w' => ∃ A c, e = .returned (.slice A 256 c) ∧ BS w' w'.heap.size A 256 c (fullL l) ∧ (∀ ad, A = some ad → W.heap.size ≤ ad.block) ∧ Below W.heap.size W w') := Lib.hid (fun W h => full_two A n c l hA W ((HSp.out.below h).more h.size))
  have HLBp := Lib.hid (fullL_byte (l := l) (fun i => hs.byte i))
  have HSq := Lib.hid hs'
  have HFULLq : Hid (∀ W, Below w.heap.size w W → Calls Try.prog 15 #[.slice A' n' c'] W fun e w' => ∃ A c, e = .returned (.slice A 256 c) ∧ BS w' w'.heap.size A 256 c (fullL l') ∧ (∀ ad, A = some ad → W.heap.size ≤ ad.block) ∧ Below W.heap.size W w') := Lib.hid (fun W h => full_two A' n' c' l' hA' W ((HSq.out.below h).more h.size))
  have HLBq := Lib.hid (fullL_byte (l := l') (fun i => hs'.byte i))
  clear hks hmade hst hb0 hx0 ha ha2 hs hA hs' hA' he
  generalize rowV (bF la) 16 = xa at *
  go_enter Try.func7, Try.ntmps7
  go_wp2_with (with_reducible refine wpList_load_row rfl 22 (.tmp 5) rfl _ rfl 22 _ _ _ HX0.out Try.underlying22 rfl HIA.out ?_)
  generalize w.alloc (.cells xa 22) = w0 at *
  refine (HMADE.out _).mono ?_
  rintro r w1 ⟨g, bm, rfl, hg, hbm, hs1, hb1⟩
  have HG : Hid (w.heap.size ≤ g ∧ w.heap.size ≤ bm) := Lib.hid (by have := HB0.out.size; omega)
  have HS1 := Lib.hid hs1
  have HB1 := Lib.hid (HB0.out.trans (hb1.mono HB0.out.size))
  have HBW1 := Lib.hid hb1
  clear hs1 hb1 hg hbm
  go_wp2_with fail
  refine (HFULLp.out w1 HB1.out).mono ?_
  rintro r w2 ⟨A2, c2, rfl, hf2, _, hb2⟩
  have HF2 := Lib.hid hf2
  have HB2 := Lib.hid (HB1.out.trans (hb2.mono HB1.out.size))
  have HS2 := Lib.hid (HS1.out.next hb2)
  clear hf2 hb2
  go_wp2_with fail
  refine (HSEAL.out g bm 0 0 0 none2 false A2 c2 (fullL l) w2 HS2.out FW_none (by omega) HF2.out).mono ?_
  rintro r w3 ⟨A3, c3, rfl, hx3, hn3, ht3, hs3⟩
  have HXN : Hid (∀ ad, A3 = some ad → ¬ (ad.block = g ∨ ad.block = bm)) := Lib.hid (fun ad q => by have := hn3 ad q; have := HS2.out.lt; have := HS2.out.ltm; omega)
  have HX3 := Lib.hid hx3
  have HS3 := Lib.hid hs3
  have HB3 : Hid (Below w.heap.size w w3) := Lib.hid (HB2.out.trans (ht3.below HB2.out.size (fun j hj => by rcases hj with rfl | rfl; exact HG.out.1; exact HG.out.2)))
  have HXL : Hid ((xorL (fullL l) st).length = 256) := Lib.hid (by rw [xorL_len, full_len, HSTL.out]; rfl)
  clear hx3 hs3 ht3 hn3
  go_wp2_with fail
  refine (HFULLq.out w3 HB3.out).mono ?_
  rintro r wy ⟨Ay, cy, rfl, hfy, _, hby⟩
  have HFy := Lib.hid hfy
  have HBy := Lib.hid (HB3.out.trans (hby.mono HB3.out.size))
  have HSy := Lib.hid (HS3.out.next hby)
  have HXy := Lib.hid ((HX3.out.below hby).more hby.size)
  clear hfy hby
  go_wp2_with fail
  refine (HSEAL.out g bm _ _ _ _ _ Ay cy (fullL l') wy HSy.out (FW_none.seen e b HXL.out) (by omega) HFy.out).mono ?_
  rintro r w4 ⟨A4, c4, rfl, hx4, _, ht4, _⟩
  have HY4 := Lib.hid hx4
  have HX4 := Lib.hid (HXy.out.past ht4 HXN.out)
  have HB4 : Hid (Below w.heap.size w w4) := Lib.hid (HBy.out.trans (ht4.below HBy.out.size (fun j hj => by rcases hj with rfl | rfl; exact HG.out.1; exact HG.out.2)))
  obtain ⟨sx, hsx⟩ : ∃ z, z = str (xorL (fullL l) st) := ⟨_, rfl⟩
  obtain ⟨sy, hsy⟩ : ∃ z, z = str (xorL (fullL l') st) := ⟨_, rfl⟩
  obtain ⟨sp, hsp⟩ : ∃ z, z = str (fullL l) := ⟨_, rfl⟩
  obtain ⟨sq, hsq⟩ : ∃ z, z = str (fullL l') := ⟨_, rfl⟩
  have HSP := Lib.hid hsp
  have HSQ := Lib.hid hsq
  have HKX : Hid (∀ W, Below w4.heap.size w4 W → (convert 29 9 (.slice A3 256 c3)).run Try.prog W = .ok (.string sx) W) := Lib.hid (fun W h => by rw [hsx]; exact (HX4.out.below h).conv 29 5 9 Try.underlying29 Try.underlying5 Try.underlying9)
  have HKY : Hid (∀ W, Below w4.heap.size w4 W → (convert 29 9 (.slice A4 256 c4)).run Try.prog W = .ok (.string sy) W) := Lib.hid (fun W h => by rw [hsy]; exact (HY4.out.below h).conv 29 5 9 Try.underlying29 Try.underlying5 Try.underlying9)
  by_cases hpq : fullL l = fullL l'
  · have h1 : sx = sy := by rw [hsx, hsy, hpq]
    have h2 : sp = sq := by rw [hsp, hsq, hpq]
    clear hsx hsy hsp hsq hpq
    subst h1 h2
    clear hx4 ht4
    go_wp2_with fail
    refine wp_region_F (S := fun (W : World) => Below w4.heap.size w4 W) [] (by kernel_rfl) ((Below.refl _ _).drew) (fun hHeld => ?_)
    refine wpAnyF_take (i := 0) (oi := _) (v := ?_) rfl (by kernel_rfl) (by kernel_rfl) (by kernel_rfl) (by kernel_rfl) (fun _ _ _ h => h) (Or.inl ⟨by rfl, ?_⟩) (by assumption) ?_
    rotate_left 1
    · intro w hSw
      (try dsimp only at hSw)
      (first | (go_simp; done) | (go_simp; with_reducible rfl))
    (try simp only [Act.put, List.getElem_toArray, List.getElem_cons_succ, List.getElem_cons_zero, List.setIfInBounds_toArray, List.set_cons_zero, List.set_cons_succ])
    refine wpAnyF_take (i := 1) (oi := _) (v := ?_) rfl (by kernel_rfl) (by kernel_rfl) (by kernel_rfl) (by kernel_rfl) (fun _ _ _ h => h) (Or.inl ⟨by rfl, ?_⟩) (by assumption) ?_
    rotate_left 1
    · intro w hSw
      (try dsimp only at hSw)
      (first | (go_simp; done) | (go_simp; with_reducible rfl))
    (try simp only [Act.put, List.getElem_toArray, List.getElem_cons_succ, List.getElem_cons_zero, List.setIfInBounds_toArray, List.set_cons_zero, List.set_cons_succ])
    refine wpAnyF_take (i := 2) (oi := _) (v := ?_) rfl (by kernel_rfl) (by kernel_rfl) (by kernel_rfl) (by kernel_rfl) (fun _ _ _ h => h) (Or.inl ⟨by rfl, ?_⟩) (by assumption) ?_
    rotate_left 1
    · intro w hSw
      (try dsimp only at hSw)
      (first | (go_simp; done) | (go_simp; with_reducible rfl))
    (try simp only [Act.put, List.getElem_toArray, List.getElem_cons_succ, List.getElem_cons_zero, List.setIfInBounds_toArray, List.set_cons_zero, List.set_cons_succ])
    refine wpAnyF_take (i := 3) (oi := _) (v := ?_) rfl (by kernel_rfl) (by kernel_rfl) (by kernel_rfl) (by kernel_rfl) (fun _ _ _ h => h) (Or.inl ⟨by rfl, ?_⟩) (by assumption) ?_
    rotate_left 1
    · intro w hSw
      (try dsimp only at hSw)
      (first | (go_simp; done) | (go_simp; with_reducible rfl))
    (try simp only [Act.put, List.getElem_toArray, List.getElem_cons_succ, List.getElem_cons_zero, List.setIfInBounds_toArray, List.set_cons_zero, List.set_cons_succ])
    refine wpAnyF_take (i := 4) (oi := _) (v := ?_) rfl (by kernel_rfl) (by kernel_rfl) (by kernel_rfl) (by kernel_rfl) (fun _ _ _ h => h) (Or.inl ⟨by rfl, ?_⟩) (by assumption) ?_
    rotate_left 1
    · intro w hSw
      (try dsimp only at hSw)
      (first | (go_simp; done) | (go_simp; with_reducible rfl))
    (try simp only [Act.put, List.getElem_toArray, List.getElem_cons_succ, List.getElem_cons_zero, List.setIfInBounds_toArray, List.set_cons_zero, List.set_cons_succ])
    refine wpAnyF_take (i := 5) (oi := _) (v := ?_) rfl (by kernel_rfl) (by kernel_rfl) (by kernel_rfl) (by kernel_rfl) (fun _ _ _ h => h) (Or.inl ⟨by rfl, ?_⟩) (by assumption) ?_
    rotate_left 1
    · intro w hSw
      (try dsimp only at hSw)
      (first | (go_simp; done) | (go_simp; with_reducible rfl))
    (try simp only [Act.put, List.getElem_toArray, List.getElem_cons_succ, List.getElem_cons_zero, List.setIfInBounds_toArray, List.set_cons_zero, List.set_cons_succ])
    refine wpAnyF_take (i := 6) (oi := _) (v := ?_) rfl (by kernel_rfl) (by kernel_rfl) (by kernel_rfl) (by kernel_rfl) (fun _ _ _ h => h) (Or.inl ⟨by rfl, ?_⟩) (by assumption) ?_
    rotate_left 1
    · intro w hSw
      (try dsimp only at hSw)
      (first | (go_simp; done) | (go_simp; with_reducible rfl))
    (try simp only [Act.put, List.getElem_toArray, List.getElem_cons_succ, List.getElem_cons_zero, List.setIfInBounds_toArray, List.set_cons_zero, List.set_cons_succ])
    refine wpAnyF_take (i := 7) (oi := _) (v := ?_) rfl (by kernel_rfl) (by kernel_rfl) (by kernel_rfl) (by kernel_rfl) (fun _ _ _ h => h) (Or.inl ⟨by rfl, ?_⟩) (by assumption) ?_
    rotate_left 1
    · intro w hSw
      (try dsimp only at hSw)
      (first | (go_simp; done) | (go_simp; with_reducible rfl))
    (try simp only [Act.put, List.getElem_toArray, List.getElem_cons_succ, List.getElem_cons_zero, List.setIfInBounds_toArray, List.set_cons_zero, List.set_cons_succ])
    refine wpAnyF_take (i := 8) (oi := _) (v := .string sx) rfl (by kernel_rfl) (by kernel_rfl) (by kernel_rfl) (by kernel_rfl) (fun _ _ _ h => h) (Or.inl ⟨by rfl, ?_⟩) (by assumption) ?_
    · intro w hSw
      (try dsimp only at hSw)
      exact exec_conv _ _ (.tmp 45) (by rfl) _ _ (by rfl) (HKX.out _ hSw)
    (try simp only [Act.put, List.getElem_toArray, List.getElem_cons_succ, List.getElem_cons_zero, List.setIfInBounds_toArray, List.set_cons_zero, List.set_cons_succ])
    refine wpAnyF_take (i := 9) (oi := _) (v := ?_) rfl (by kernel_rfl) (by kernel_rfl) (by kernel_rfl) (by kernel_rfl) (fun _ _ _ h => h) (Or.inl ⟨by rfl, ?_⟩) (by assumption) ?_
    rotate_left 1
    · intro w hSw
      (try dsimp only at hSw)
      (first | (go_simp; done) | (go_simp; with_reducible rfl))
    (try simp only [Act.put, List.getElem_toArray, List.getElem_cons_succ, List.getElem_cons_zero, List.setIfInBounds_toArray, List.set_cons_zero, List.set_cons_succ])
    refine wpAnyF_take (i := 10) (oi := _) (v := .string sx) rfl (by kernel_rfl) (by kernel_rfl) (by kernel_rfl) (by kernel_rfl) (fun _ _ _ h => h) (Or.inl ⟨by rfl, ?_⟩) (by assumption) ?_
    · intro w hSw
      (try dsimp only at hSw)
      exact exec_conv _ _ (.tmp 47) (by rfl) _ _ (by rfl) (HKY.out _ hSw)
    (try simp only [Act.put, List.getElem_toArray, List.getElem_cons_succ, List.getElem_cons_zero, List.setIfInBounds_toArray, List.set_cons_zero, List.set_cons_succ])
    refine wpAnyF_take (i := 11) (oi := _) (v := ?_) rfl (by kernel_rfl) (by kernel_rfl) (by kernel_rfl) (by kernel_rfl) (fun _ _ _ h => h) (Or.inl ⟨by rfl, ?_⟩) (by assumption) ?_
    rotate_left 1
    · intro w hSw
      (try dsimp only at hSw)
      (first | (go_simp; done) | (go_simp; with_reducible rfl))
    (try simp only [Act.put, List.getElem_toArray, List.getElem_cons_succ, List.getElem_cons_zero, List.setIfInBounds_toArray, List.set_cons_zero, List.set_cons_succ])
    refine wpAnyF_take (i := 12) (oi := _) (v := ?_) rfl (by kernel_rfl) (by kernel_rfl) (by kernel_rfl) (by kernel_rfl) (fun _ _ _ h => h) (Or.inl ⟨by rfl, ?_⟩) (by assumption) ?_
    rotate_left 1
    · intro w hSw
      (try dsimp only at hSw)
      (first | (go_simp; done) | (go_simp; with_reducible rfl))
    (try simp only [Act.put, List.getElem_toArray, List.getElem_cons_succ, List.getElem_cons_zero, List.setIfInBounds_toArray, List.set_cons_zero, List.set_cons_succ])
    refine wpAnyF_take (i := 15) (oi := _) (v := ?_) rfl (by kernel_rfl) (by kernel_rfl) (by kernel_rfl) (by kernel_rfl) (fun _ _ _ h => h) (Or.inl ⟨by rfl, ?_⟩) (by assumption) ?_
    rotate_left 1
    · intro w hSw
      (try dsimp only at hSw)
      (first | (go_simp; done) | (go_simp; with_reducible rfl))
    (try simp only [Act.put, List.getElem_toArray, List.getElem_cons_succ, List.getElem_cons_zero, List.setIfInBounds_toArray, List.set_cons_zero, List.set_cons_succ])
    refine wpAnyF_ready (rs := [13]) (by kernel_rfl) (by simp) ?_
    refine AllReadyF.cons (o := _) rfl (fun K hK => ?_) AllReadyF.nil
    go_simp
    (go_at_call 15)
    refine (HFULLp.out _ (HB4.out.trans (hHeld.mono HB4.out.size))).mono ?_
    rintro r wf0 ⟨Af0, cf0, rfl, hff0, _, hfb0⟩
    have HFB0 : Hid (Below w4.heap.size w4 wf0) := Lib.hid (hHeld.trans (hfb0.mono hHeld.size))
    have HFF0 := Lib.hid hff0
    clear hff0 hfb0
    refine hK.out _ _ (HFB0.out) (fun hHeld13 => ?_)
    clear hK K
    (try simp only [Act.put, List.getElem_toArray, List.getElem_cons_succ, List.getElem_cons_zero, List.setIfInBounds_toArray, List.set_cons_zero, List.set_cons_succ])
    refine wpAnyF_ready (rs := [14, 16]) (by kernel_rfl) (by simp) ?_
    refine AllReadyF.cons (o := _) rfl (fun K hK => ?_) (AllReadyF.cons (o := _) rfl (fun K hK => ?_) AllReadyF.nil)
    · have hcv : (convert 29 9 (.slice Af0 256 cf0)).run Try.prog wf0 = .ok (.string sp) wf0 := by rw [HSP.out]; exact HFF0.out.conv 29 5 9 Try.underlying29 Try.underlying5 Try.underlying9
      go_simp
      clear hcv
      refine hK.out _ _ (HFB0.out) (fun hHeld14 => ?_)
      clear hK K
      (try simp only [Act.put, List.getElem_toArray, List.getElem_cons_succ, List.getElem_cons_zero, List.setIfInBounds_toArray, List.set_cons_zero, List.set_cons_succ])
      refine wpAnyF_ready (rs := [16]) (by kernel_rfl) (by simp) ?_
      refine AllReadyF.cons (o := _) rfl (fun K hK => ?_) AllReadyF.nil
      go_simp
      (go_at_call 15)
      refine (HFULLq.out _ (HB4.out.trans (HFB0.out.mono HB4.out.size))).mono ?_
      rintro r wf1 ⟨Af1, cf1, rfl, hff1, _, hfb1⟩
      have HFB1 : Hid (Below w4.heap.size w4 wf1) := Lib.hid (HFB0.out.trans (hfb1.mono HFB0.out.size))
      have HFF1 := Lib.hid hff1
      have HF01 := Lib.hid ((HFF0.out.below hfb1).more hfb1.size)
      clear hff1 hfb1
      refine hK.out _ _ (HFB1.out) (fun hHeld16 => ?_)
      clear hK K
      (try simp only [Act.put, List.getElem_toArray, List.getElem_cons_succ, List.getElem_cons_zero, List.setIfInBounds_toArray, List.set_cons_zero, List.set_cons_succ])
      refine wpAnyF_ready (rs := [17]) (by kernel_rfl) (by simp) ?_
      refine AllReadyF.cons (o := _) rfl (fun K hK => ?_) AllReadyF.nil
      have hcv : (convert 29 9 (.slice Af1 256 cf1)).run Try.prog wf1 = .ok (.string sp) wf1 := by rw [HSQ.out]; exact HFF1.out.conv 29 5 9 Try.underlying29 Try.underlying5 Try.underlying9
      go_simp
      clear hcv
      refine hK.out _ _ (HFB1.out) (fun hHeld17 => ?_)
      clear hK K
      (try simp only [Act.put, List.getElem_toArray, List.getElem_cons_succ, List.getElem_cons_zero, List.setIfInBounds_toArray, List.set_cons_zero, List.set_cons_succ])
      refine wpAnyF_take (i := 18) (oi := _) (v := ?_) rfl (by kernel_rfl) (by kernel_rfl) (by kernel_rfl) (by kernel_rfl) (fun _ _ _ h => h) (Or.inl ⟨by rfl, ?_⟩) (by assumption) ?_
      rotate_left 1
      · intro w hSw
        (try dsimp only at hSw)
        (first | (go_simp; done) | (go_simp; with_reducible rfl))
      (try simp only [Act.put, List.getElem_toArray, List.getElem_cons_succ, List.getElem_cons_zero, List.setIfInBounds_toArray, List.set_cons_zero, List.set_cons_succ])
      refine wpAnyF_take (i := 19) (oi := _) (v := ?_) rfl (by kernel_rfl) (by kernel_rfl) (by kernel_rfl) (by kernel_rfl) (fun _ _ _ h => h) (Or.inl ⟨by rfl, ?_⟩) (by assumption) ?_
      rotate_left 1
      · intro w hSw
        (try dsimp only at hSw)
        (first | (go_simp; done) | (go_simp; with_reducible rfl))
      (try simp only [Act.put, List.getElem_toArray, List.getElem_cons_succ, List.getElem_cons_zero, List.setIfInBounds_toArray, List.set_cons_zero, List.set_cons_succ])
      refine wpAnyF_take (i := 20) (oi := _) (v := ?_) rfl (by kernel_rfl) (by kernel_rfl) (by kernel_rfl) (by kernel_rfl) (fun _ _ _ h => h) (Or.inl ⟨by rfl, ?_⟩) (by assumption) ?_
      rotate_left 1
      · intro w hSw
        (try dsimp only at hSw)
        (first | (go_simp; done) | (go_simp; with_reducible rfl))
      (try simp only [Act.put, List.getElem_toArray, List.getElem_cons_succ, List.getElem_cons_zero, List.setIfInBounds_toArray, List.set_cons_zero, List.set_cons_succ])
      refine wpAnyF_take (i := 21) (oi := _) (v := ?_) rfl (by kernel_rfl) (by kernel_rfl) (by kernel_rfl) (by kernel_rfl) (fun _ _ _ h => h) (Or.inl ⟨by rfl, ?_⟩) (by assumption) ?_
      rotate_left 1
      · intro w hSw
        (try dsimp only at hSw)
        (first | (go_simp; done) | (go_simp; with_reducible rfl))
      (try simp only [Act.put, List.getElem_toArray, List.getElem_cons_succ, List.getElem_cons_zero, List.setIfInBounds_toArray, List.set_cons_zero, List.set_cons_succ])
      refine wpAnyF_ready (rs := [22]) (by kernel_rfl) (by simp) ?_
      refine AllReadyF.cons (o := _) rfl (fun K hK => ?_) AllReadyF.nil
      go_simp
      (go_at_call 13)
      refine (awake10_any _).mono ?_
      rintro r wz ⟨rfl, hbz⟩
      have HBZ : Hid (Below w4.heap.size w4 wz) := Lib.hid (HFB1.out.trans (hbz.mono HFB1.out.size))
      clear hbz
      refine hK.out _ _ (HBZ.out) (fun hHeld22 => ?_)
      clear hK K
      (try simp only [Act.put, List.getElem_toArray, List.getElem_cons_succ, List.getElem_cons_zero, List.setIfInBounds_toArray, List.set_cons_zero, List.set_cons_succ])
      refine wpAnyF_take (i := 23) (oi := _) (v := ?_) rfl (by kernel_rfl) (by kernel_rfl) (by kernel_rfl) (by kernel_rfl) (fun _ _ _ h => h) (Or.inl ⟨by rfl, ?_⟩) (by assumption) ?_
      rotate_left 1
      · intro w hSw
        (try dsimp only at hSw)
        (first | (go_simp; done) | (go_simp; with_reducible rfl))
      (try simp only [Act.put, List.getElem_toArray, List.getElem_cons_succ, List.getElem_cons_zero, List.setIfInBounds_toArray, List.set_cons_zero, List.set_cons_succ])
      refine wpAnyF_take (i := 24) (oi := _) (v := ?_) rfl (by kernel_rfl) (by kernel_rfl) (by kernel_rfl) (by kernel_rfl) (fun _ _ _ h => h) (Or.inl ⟨by rfl, ?_⟩) (by assumption) ?_
      rotate_left 1
      · intro w hSw
        (try dsimp only at hSw)
        (first | (go_simp; done) | (go_simp; with_reducible rfl))
      (try simp only [Act.put, List.getElem_toArray, List.getElem_cons_succ, List.getElem_cons_zero, List.setIfInBounds_toArray, List.set_cons_zero, List.set_cons_succ])
      refine wpAnyF_done (by kernel_rfl) ?_ _
      have HF := Lib.hid (HB4.out.trans (HBZ.out.mono HB4.out.size))
      go_wp2
      go_ret
      exact ⟨rfl, HF.out⟩
    · go_simp
      (go_at_call 15)
      refine (HFULLq.out _ (HB4.out.trans (HFB0.out.mono HB4.out.size))).mono ?_
      rintro r wf1 ⟨Af1, cf1, rfl, hff1, _, hfb1⟩
      have HFB1 : Hid (Below w4.heap.size w4 wf1) := Lib.hid (HFB0.out.trans (hfb1.mono HFB0.out.size))
      have HFF1 := Lib.hid hff1
      have HF01 := Lib.hid ((HFF0.out.below hfb1).more hfb1.size)
      clear hff1 hfb1
      refine hK.out _ _ (HFB1.out) (fun hHeld16 => ?_)
      clear hK K
      (try simp only [Act.put, List.getElem_toArray, List.getElem_cons_succ, List.getElem_cons_zero, List.setIfInBounds_toArray, List.set_cons_zero, List.set_cons_succ])
      refine wpAnyF_ready (rs := [14, 17]) (by kernel_rfl) (by simp) ?_
      refine AllReadyF.cons (o := _) rfl (fun K hK => ?_) (AllReadyF.cons (o := _) rfl (fun K hK => ?_) AllReadyF.nil)
      · have hcv : (convert 29 9 (.slice Af0 256 cf0)).run Try.prog wf1 = .ok (.string sp) wf1 := by rw [HSP.out]; exact HF01.out.conv 29 5 9 Try.underlying29 Try.underlying5 Try.underlying9
        go_simp
        clear hcv
        refine hK.out _ _ (HFB1.out) (fun hHeld14 => ?_)
        clear hK K
        (try simp only [Act.put, List.getElem_toArray, List.getElem_cons_succ, List.getElem_cons_zero, List.setIfInBounds_toArray, List.set_cons_zero, List.set_cons_succ])
        refine wpAnyF_ready (rs := [17]) (by kernel_rfl) (by simp) ?_
        refine AllReadyF.cons (o := _) rfl (fun K hK => ?_) AllReadyF.nil
        have hcv : (convert 29 9 (.slice Af1 256 cf1)).run Try.prog wf1 = .ok (.string sp) wf1 := by rw [HSQ.out]; exact HFF1.out.conv 29 5 9 Try.underlying29 Try.underlying5 Try.underlying9
        go_simp
        clear hcv
        refine hK.out _ _ (HFB1.out) (fun hHeld17 => ?_)
        clear hK K
        (try simp only [Act.put, List.getElem_toArray, List.getElem_cons_succ, List.getElem_cons_zero, List.setIfInBounds_toArray, List.set_cons_zero, List.set_cons_succ])
        refine wpAnyF_take (i := 18) (oi := _) (v := ?_) rfl (by kernel_rfl) (by kernel_rfl) (by kernel_rfl) (by kernel_rfl) (fun _ _ _ h => h) (Or.inl ⟨by rfl, ?_⟩) (by assumption) ?_
        rotate_left 1
        · intro w hSw
          (try dsimp only at hSw)
          (first | (go_simp; done) | (go_simp; with_reducible rfl))
        (try simp only [Act.put, List.getElem_toArray, List.getElem_cons_succ, List.getElem_cons_zero, List.setIfInBounds_toArray, List.set_cons_zero, List.set_cons_succ])
        refine wpAnyF_take (i := 19) (oi := _) (v := ?_) rfl (by kernel_rfl) (by kernel_rfl) (by kernel_rfl) (by kernel_rfl) (fun _ _ _ h => h) (Or.inl ⟨by rfl, ?_⟩) (by assumption) ?_
        rotate_left 1
        · intro w hSw
          (try dsimp only at hSw)
          (first | (go_simp; done) | (go_simp; with_reducible rfl))
        (try simp only [Act.put, List.getElem_toArray, List.getElem_cons_succ, List.getElem_cons_zero, List.setIfInBounds_toArray, List.set_cons_zero, List.set_cons_succ])
        refine wpAnyF_take (i := 20) (oi := _) (v := ?_) rfl (by kernel_rfl) (by kernel_rfl) (by kernel_rfl) (by kernel_rfl) (fun _ _ _ h => h) (Or.inl ⟨by rfl, ?_⟩) (by assumption) ?_
        rotate_left 1
        · intro w hSw
          (try dsimp only at hSw)
          (first | (go_simp; done) | (go_simp; with_reducible rfl))
        (try simp only [Act.put, List.getElem_toArray, List.getElem_cons_succ, List.getElem_cons_zero, List.setIfInBounds_toArray, List.set_cons_zero, List.set_cons_succ])
        refine wpAnyF_take (i := 21) (oi := _) (v := ?_) rfl (by kernel_rfl) (by kernel_rfl) (by kernel_rfl) (by kernel_rfl) (fun _ _ _ h => h) (Or.inl ⟨by rfl, ?_⟩) (by assumption) ?_
        rotate_left 1
        · intro w hSw
          (try dsimp only at hSw)
          (first | (go_simp; done) | (go_simp; with_reducible rfl))
        (try simp only [Act.put, List.getElem_toArray, List.getElem_cons_succ, List.getElem_cons_zero, List.setIfInBounds_toArray, List.set_cons_zero, List.set_cons_succ])
        refine wpAnyF_ready (rs := [22]) (by kernel_rfl) (by simp) ?_
        refine AllReadyF.cons (o := _) rfl (fun K hK => ?_) AllReadyF.nil
        go_simp
        (go_at_call 13)
        refine (awake10_any _).mono ?_
        rintro r wz ⟨rfl, hbz⟩
        have HBZ : Hid (Below w4.heap.size w4 wz) := Lib.hid (HFB1.out.trans (hbz.mono HFB1.out.size))
        clear hbz
        refine hK.out _ _ (HBZ.out) (fun hHeld22 => ?_)
        clear hK K
        (try simp only [Act.put, List.getElem_toArray, List.getElem_cons_succ, List.getElem_cons_zero, List.setIfInBounds_toArray, List.set_cons_zero, List.set_cons_succ])
        refine wpAnyF_take (i := 23) (oi := _) (v := ?_) rfl (by kernel_rfl) (by kernel_rfl) (by kernel_rfl) (by kernel_rfl) (fun _ _ _ h => h) (Or.inl ⟨by rfl, ?_⟩) (by assumption) ?_
        rotate_left 1
        · intro w hSw
          (try dsimp only at hSw)
          (first | (go_simp; done) | (go_simp; with_reducible rfl))
        (try simp only [Act.put, List.getElem_toArray, List.getElem_cons_succ, List.getElem_cons_zero, List.setIfInBounds_toArray, List.set_cons_zero, List.set_cons_succ])
        refine wpAnyF_take (i := 24) (oi := _) (v := ?_) rfl (by kernel_rfl) (by kernel_rfl) (by kernel_rfl) (by kernel_rfl) (fun _ _ _ h => h) (Or.inl ⟨by rfl, ?_⟩) (by assumption) ?_
        rotate_left 1
        · intro w hSw
          (try dsimp only at hSw)
          (first | (go_simp; done) | (go_simp; with_reducible rfl))
        (try simp only [Act.put, List.getElem_toArray, List.getElem_cons_succ, List.getElem_cons_zero, List.setIfInBounds_toArray, List.set_cons_zero, List.set_cons_succ])
        refine wpAnyF_done (by kernel_rfl) ?_ _
        have HF := Lib.hid (HB4.out.trans (HBZ.out.mono HB4.out.size))
        go_wp2
        go_ret
        exact ⟨rfl, HF.out⟩
      · have hcv : (convert 29 9 (.slice Af1 256 cf1)).run Try.prog wf1 = .ok (.string sp) wf1 := by rw [HSQ.out]; exact HFF1.out.conv 29 5 9 Try.underlying29 Try.underlying5 Try.underlying9
        go_simp
        clear hcv
        refine hK.out _ _ (HFB1.out) (fun hHeld17 => ?_)
        clear hK K
        (try simp only [Act.put, List.getElem_toArray, List.getElem_cons_succ, List.getElem_cons_zero, List.setIfInBounds_toArray, List.set_cons_zero, List.set_cons_succ])
        refine wpAnyF_ready (rs := [14]) (by kernel_rfl) (by simp) ?_
        refine AllReadyF.cons (o := _) rfl (fun K hK => ?_) AllReadyF.nil
        have hcv : (convert 29 9 (.slice Af0 256 cf0)).run Try.prog wf1 = .ok (.string sp) wf1 := by rw [HSP.out]; exact HF01.out.conv 29 5 9 Try.underlying29 Try.underlying5 Try.underlying9
        go_simp
        clear hcv
        refine hK.out _ _ (HFB1.out) (fun hHeld14 => ?_)
        clear hK K
        (try simp only [Act.put, List.getElem_toArray, List.getElem_cons_succ, List.getElem_cons_zero, List.setIfInBounds_toArray, List.set_cons_zero, List.set_cons_succ])
        refine wpAnyF_take (i := 18) (oi := _) (v := ?_) rfl (by kernel_rfl) (by kernel_rfl) (by kernel_rfl) (by kernel_rfl) (fun _ _ _ h => h) (Or.inl ⟨by rfl, ?_⟩) (by assumption) ?_
        rotate_left 1
        · intro w hSw
          (try dsimp only at hSw)
          (first | (go_simp; done) | (go_simp; with_reducible rfl))
        (try simp only [Act.put, List.getElem_toArray, List.getElem_cons_succ, List.getElem_cons_zero, List.setIfInBounds_toArray, List.set_cons_zero, List.set_cons_succ])
        refine wpAnyF_take (i := 19) (oi := _) (v := ?_) rfl (by kernel_rfl) (by kernel_rfl) (by kernel_rfl) (by kernel_rfl) (fun _ _ _ h => h) (Or.inl ⟨by rfl, ?_⟩) (by assumption) ?_
        rotate_left 1
        · intro w hSw
          (try dsimp only at hSw)
          (first | (go_simp; done) | (go_simp; with_reducible rfl))
        (try simp only [Act.put, List.getElem_toArray, List.getElem_cons_succ, List.getElem_cons_zero, List.setIfInBounds_toArray, List.set_cons_zero, List.set_cons_succ])
        refine wpAnyF_take (i := 20) (oi := _) (v := ?_) rfl (by kernel_rfl) (by kernel_rfl) (by kernel_rfl) (by kernel_rfl) (fun _ _ _ h => h) (Or.inl ⟨by rfl, ?_⟩) (by assumption) ?_
        rotate_left 1
        · intro w hSw
          (try dsimp only at hSw)
          (first | (go_simp; done) | (go_simp; with_reducible rfl))
        (try simp only [Act.put, List.getElem_toArray, List.getElem_cons_succ, List.getElem_cons_zero, List.setIfInBounds_toArray, List.set_cons_zero, List.set_cons_succ])
        refine wpAnyF_take (i := 21) (oi := _) (v := ?_) rfl (by kernel_rfl) (by kernel_rfl) (by kernel_rfl) (by kernel_rfl) (fun _ _ _ h => h) (Or.inl ⟨by rfl, ?_⟩) (by assumption) ?_
        rotate_left 1
        · intro w hSw
          (try dsimp only at hSw)
          (first | (go_simp; done) | (go_simp; with_reducible rfl))
        (try simp only [Act.put, List.getElem_toArray, List.getElem_cons_succ, List.getElem_cons_zero, List.setIfInBounds_toArray, List.set_cons_zero, List.set_cons_succ])
        refine wpAnyF_ready (rs := [22]) (by kernel_rfl) (by simp) ?_
        refine AllReadyF.cons (o := _) rfl (fun K hK => ?_) AllReadyF.nil
        go_simp
        (go_at_call 13)
        refine (awake10_any _).mono ?_
        rintro r wz ⟨rfl, hbz⟩
        have HBZ : Hid (Below w4.heap.size w4 wz) := Lib.hid (HFB1.out.trans (hbz.mono HFB1.out.size))
        clear hbz
        refine hK.out _ _ (HBZ.out) (fun hHeld22 => ?_)
        clear hK K
        (try simp only [Act.put, List.getElem_toArray, List.getElem_cons_succ, List.getElem_cons_zero, List.setIfInBounds_toArray, List.set_cons_zero, List.set_cons_succ])
        refine wpAnyF_take (i := 23) (oi := _) (v := ?_) rfl (by kernel_rfl) (by kernel_rfl) (by kernel_rfl) (by kernel_rfl) (fun _ _ _ h => h) (Or.inl ⟨by rfl, ?_⟩) (by assumption) ?_
        rotate_left 1
        · intro w hSw
          (try dsimp only at hSw)
          (first | (go_simp; done) | (go_simp; with_reducible rfl))
        (try simp only [Act.put, List.getElem_toArray, List.getElem_cons_succ, List.getElem_cons_zero, List.setIfInBounds_toArray, List.set_cons_zero, List.set_cons_succ])
        refine wpAnyF_take (i := 24) (oi := _) (v := ?_) rfl (by kernel_rfl) (by kernel_rfl) (by kernel_rfl) (by kernel_rfl) (fun _ _ _ h => h) (Or.inl ⟨by rfl, ?_⟩) (by assumption) ?_
        rotate_left 1
        · intro w hSw
          (try dsimp only at hSw)
          (first | (go_simp; done) | (go_simp; with_reducible rfl))
        (try simp only [Act.put, List.getElem_toArray, List.getElem_cons_succ, List.getElem_cons_zero, List.setIfInBounds_toArray, List.set_cons_zero, List.set_cons_succ])
        refine wpAnyF_done (by kernel_rfl) ?_ _
        have HF := Lib.hid (HB4.out.trans (HBZ.out.mono HB4.out.size))
        go_wp2
        go_ret
        exact ⟨rfl, HF.out⟩
  · have h1 : (sx.toList == sy.toList) = false := by rw [hsx, hsy]; exact str_ne (xorL_byte HLBp.out HSB.out) (xorL_byte HLBq.out HSB.out) (fun h => hpq (xor_inj (full_len _) (full_len _) HSTL.out h))
    have h2 : (sp.toList == sq.toList) = false := by rw [hsp, hsq]; exact str_ne HLBp.out HLBq.out hpq
    clear hsx hsy hsp hsq hpq
    clear hx4 ht4
    go_wp2_with fail
    refine wp_region_F (S := fun (W : World) => Below w4.heap.size w4 W) [] (by kernel_rfl) ((Below.refl _ _).drew) (fun hHeld => ?_)
    refine wpAnyF_take (i := 0) (oi := _) (v := ?_) rfl (by kernel_rfl) (by kernel_rfl) (by kernel_rfl) (by kernel_rfl) (fun _ _ _ h => h) (Or.inl ⟨by rfl, ?_⟩) (by assumption) ?_
    rotate_left 1
    · intro w hSw
      (try dsimp only at hSw)
      (first | (go_simp; done) | (go_simp; with_reducible rfl))
    (try simp only [Act.put, List.getElem_toArray, List.getElem_cons_succ, List.getElem_cons_zero, List.setIfInBounds_toArray, List.set_cons_zero, List.set_cons_succ])
    refine wpAnyF_take (i := 1) (oi := _) (v := ?_) rfl (by kernel_rfl) (by kernel_rfl) (by kernel_rfl) (by kernel_rfl) (fun _ _ _ h => h) (Or.inl ⟨by rfl, ?_⟩) (by assumption) ?_
    rotate_left 1
    · intro w hSw
      (try dsimp only at hSw)
      (first | (go_simp; done) | (go_simp; with_reducible rfl))
    (try simp only [Act.put, List.getElem_toArray, List.getElem_cons_succ, List.getElem_cons_zero, List.setIfInBounds_toArray, List.set_cons_zero, List.set_cons_succ])
    refine wpAnyF_take (i := 2) (oi := _) (v := ?_) rfl (by kernel_rfl) (by kernel_rfl) (by kernel_rfl) (by kernel_rfl) (fun _ _ _ h => h) (Or.inl ⟨by rfl, ?_⟩) (by assumption) ?_
    rotate_left 1
    · intro w hSw
      (try dsimp only at hSw)
      (first | (go_simp; done) | (go_simp; with_reducible rfl))
    (try simp only [Act.put, List.getElem_toArray, List.getElem_cons_succ, List.getElem_cons_zero, List.setIfInBounds_toArray, List.set_cons_zero, List.set_cons_succ])
    refine wpAnyF_take (i := 3) (oi := _) (v := ?_) rfl (by kernel_rfl) (by kernel_rfl) (by kernel_rfl) (by kernel_rfl) (fun _ _ _ h => h) (Or.inl ⟨by rfl, ?_⟩) (by assumption) ?_
    rotate_left 1
    · intro w hSw
      (try dsimp only at hSw)
      (first | (go_simp; done) | (go_simp; with_reducible rfl))
    (try simp only [Act.put, List.getElem_toArray, List.getElem_cons_succ, List.getElem_cons_zero, List.setIfInBounds_toArray, List.set_cons_zero, List.set_cons_succ])
    refine wpAnyF_take (i := 4) (oi := _) (v := ?_) rfl (by kernel_rfl) (by kernel_rfl) (by kernel_rfl) (by kernel_rfl) (fun _ _ _ h => h) (Or.inl ⟨by rfl, ?_⟩) (by assumption) ?_
    rotate_left 1
    · intro w hSw
      (try dsimp only at hSw)
      (first | (go_simp; done) | (go_simp; with_reducible rfl))
    (try simp only [Act.put, List.getElem_toArray, List.getElem_cons_succ, List.getElem_cons_zero, List.setIfInBounds_toArray, List.set_cons_zero, List.set_cons_succ])
    refine wpAnyF_take (i := 5) (oi := _) (v := ?_) rfl (by kernel_rfl) (by kernel_rfl) (by kernel_rfl) (by kernel_rfl) (fun _ _ _ h => h) (Or.inl ⟨by rfl, ?_⟩) (by assumption) ?_
    rotate_left 1
    · intro w hSw
      (try dsimp only at hSw)
      (first | (go_simp; done) | (go_simp; with_reducible rfl))
    (try simp only [Act.put, List.getElem_toArray, List.getElem_cons_succ, List.getElem_cons_zero, List.setIfInBounds_toArray, List.set_cons_zero, List.set_cons_succ])
    refine wpAnyF_take (i := 6) (oi := _) (v := ?_) rfl (by kernel_rfl) (by kernel_rfl) (by kernel_rfl) (by kernel_rfl) (fun _ _ _ h => h) (Or.inl ⟨by rfl, ?_⟩) (by assumption) ?_
    rotate_left 1
    · intro w hSw
      (try dsimp only at hSw)
      (first | (go_simp; done) | (go_simp; with_reducible rfl))
    (try simp only [Act.put, List.getElem_toArray, List.getElem_cons_succ, List.getElem_cons_zero, List.setIfInBounds_toArray, List.set_cons_zero, List.set_cons_succ])
    refine wpAnyF_take (i := 7) (oi := _) (v := ?_) rfl (by kernel_rfl) (by kernel_rfl) (by kernel_rfl) (by kernel_rfl) (fun _ _ _ h => h) (Or.inl ⟨by rfl, ?_⟩) (by assumption) ?_
    rotate_left 1
    · intro w hSw
      (try dsimp only at hSw)
      (first | (go_simp; done) | (go_simp; with_reducible rfl))
    (try simp only [Act.put, List.getElem_toArray, List.getElem_cons_succ, List.getElem_cons_zero, List.setIfInBounds_toArray, List.set_cons_zero, List.set_cons_succ])
    refine wpAnyF_take (i := 8) (oi := _) (v := .string sx) rfl (by kernel_rfl) (by kernel_rfl) (by kernel_rfl) (by kernel_rfl) (fun _ _ _ h => h) (Or.inl ⟨by rfl, ?_⟩) (by assumption) ?_
    · intro w hSw
      (try dsimp only at hSw)
      exact exec_conv _ _ (.tmp 45) (by rfl) _ _ (by rfl) (HKX.out _ hSw)
    (try simp only [Act.put, List.getElem_toArray, List.getElem_cons_succ, List.getElem_cons_zero, List.setIfInBounds_toArray, List.set_cons_zero, List.set_cons_succ])
    refine wpAnyF_take (i := 9) (oi := _) (v := ?_) rfl (by kernel_rfl) (by kernel_rfl) (by kernel_rfl) (by kernel_rfl) (fun _ _ _ h => h) (Or.inl ⟨by rfl, ?_⟩) (by assumption) ?_
    rotate_left 1
    · intro w hSw
      (try dsimp only at hSw)
      (first | (go_simp; done) | (go_simp; with_reducible rfl))
    (try simp only [Act.put, List.getElem_toArray, List.getElem_cons_succ, List.getElem_cons_zero, List.setIfInBounds_toArray, List.set_cons_zero, List.set_cons_succ])
    refine wpAnyF_take (i := 10) (oi := _) (v := .string sy) rfl (by kernel_rfl) (by kernel_rfl) (by kernel_rfl) (by kernel_rfl) (fun _ _ _ h => h) (Or.inl ⟨by rfl, ?_⟩) (by assumption) ?_
    · intro w hSw
      (try dsimp only at hSw)
      exact exec_conv _ _ (.tmp 47) (by rfl) _ _ (by rfl) (HKY.out _ hSw)
    (try simp only [Act.put, List.getElem_toArray, List.getElem_cons_succ, List.getElem_cons_zero, List.setIfInBounds_toArray, List.set_cons_zero, List.set_cons_succ])
    refine wpAnyF_take (i := 11) (oi := _) (v := ?_) rfl (by kernel_rfl) (by kernel_rfl) (by kernel_rfl) (by kernel_rfl) (fun _ _ _ h => h) (Or.inl ⟨by rfl, ?_⟩) (by assumption) ?_
    rotate_left 1
    · intro w hSw
      (try dsimp only at hSw)
      (first | (go_simp; done) | (go_simp; with_reducible rfl))
    (try simp only [Act.put, List.getElem_toArray, List.getElem_cons_succ, List.getElem_cons_zero, List.setIfInBounds_toArray, List.set_cons_zero, List.set_cons_succ])
    refine wpAnyF_take (i := 12) (oi := _) (v := ?_) rfl (by kernel_rfl) (by kernel_rfl) (by kernel_rfl) (by kernel_rfl) (fun _ _ _ h => h) (Or.inl ⟨by rfl, ?_⟩) (by assumption) ?_
    rotate_left 1
    · intro w hSw
      (try dsimp only at hSw)
      (first | (go_simp; done) | (go_simp; with_reducible rfl))
    (try simp only [Act.put, List.getElem_toArray, List.getElem_cons_succ, List.getElem_cons_zero, List.setIfInBounds_toArray, List.set_cons_zero, List.set_cons_succ])
    refine wpAnyF_take (i := 15) (oi := _) (v := ?_) rfl (by kernel_rfl) (by kernel_rfl) (by kernel_rfl) (by kernel_rfl) (fun _ _ _ h => h) (Or.inl ⟨by rfl, ?_⟩) (by assumption) ?_
    rotate_left 1
    · intro w hSw
      (try dsimp only at hSw)
      (first | (go_simp; done) | (go_simp; with_reducible rfl))
    (try simp only [Act.put, List.getElem_toArray, List.getElem_cons_succ, List.getElem_cons_zero, List.setIfInBounds_toArray, List.set_cons_zero, List.set_cons_succ])
    refine wpAnyF_ready (rs := [13]) (by kernel_rfl) (by simp) ?_
    refine AllReadyF.cons (o := _) rfl (fun K hK => ?_) AllReadyF.nil
    go_simp
    (go_at_call 15)
    refine (HFULLp.out _ (HB4.out.trans (hHeld.mono HB4.out.size))).mono ?_
    rintro r wf0 ⟨Af0, cf0, rfl, hff0, _, hfb0⟩
    have HFB0 : Hid (Below w4.heap.size w4 wf0) := Lib.hid (hHeld.trans (hfb0.mono hHeld.size))
    have HFF0 := Lib.hid hff0
    clear hff0 hfb0
    refine hK.out _ _ (HFB0.out) (fun hHeld13 => ?_)
    clear hK K
    (try simp only [Act.put, List.getElem_toArray, List.getElem_cons_succ, List.getElem_cons_zero, List.setIfInBounds_toArray, List.set_cons_zero, List.set_cons_succ])
    refine wpAnyF_ready (rs := [14, 16]) (by kernel_rfl) (by simp) ?_
    refine AllReadyF.cons (o := _) rfl (fun K hK => ?_) (AllReadyF.cons (o := _) rfl (fun K hK => ?_) AllReadyF.nil)
    · have hcv : (convert 29 9 (.slice Af0 256 cf0)).run Try.prog wf0 = .ok (.string sp) wf0 := by rw [HSP.out]; exact HFF0.out.conv 29 5 9 Try.underlying29 Try.underlying5 Try.underlying9
      go_simp
      clear hcv
      refine hK.out _ _ (HFB0.out) (fun hHeld14 => ?_)
      clear hK K
      (try simp only [Act.put, List.getElem_toArray, List.getElem_cons_succ, List.getElem_cons_zero, List.setIfInBounds_toArray, List.set_cons_zero, List.set_cons_succ])
      refine wpAnyF_ready (rs := [16]) (by kernel_rfl) (by simp) ?_
      refine AllReadyF.cons (o := _) rfl (fun K hK => ?_) AllReadyF.nil
      go_simp
      (go_at_call 15)
      refine (HFULLq.out _ (HB4.out.trans (HFB0.out.mono HB4.out.size))).mono ?_
      rintro r wf1 ⟨Af1, cf1, rfl, hff1, _, hfb1⟩
      have HFB1 : Hid (Below w4.heap.size w4 wf1) := Lib.hid (HFB0.out.trans (hfb1.mono HFB0.out.size))
      have HFF1 := Lib.hid hff1
      have HF01 := Lib.hid ((HFF0.out.below hfb1).more hfb1.size)
      clear hff1 hfb1
      refine hK.out _ _ (HFB1.out) (fun hHeld16 => ?_)
      clear hK K
      (try simp only [Act.put, List.getElem_toArray, List.getElem_cons_succ, List.getElem_cons_zero, List.setIfInBounds_toArray, List.set_cons_zero, List.set_cons_succ])
      refine wpAnyF_ready (rs := [17]) (by kernel_rfl) (by simp) ?_
      refine AllReadyF.cons (o := _) rfl (fun K hK => ?_) AllReadyF.nil
      have hcv : (convert 29 9 (.slice Af1 256 cf1)).run Try.prog wf1 = .ok (.string sq) wf1 := by rw [HSQ.out]; exact HFF1.out.conv 29 5 9 Try.underlying29 Try.underlying5 Try.underlying9
      go_simp
      clear hcv
      refine hK.out _ _ (HFB1.out) (fun hHeld17 => ?_)
      clear hK K
      (try simp only [Act.put, List.getElem_toArray, List.getElem_cons_succ, List.getElem_cons_zero, List.setIfInBounds_toArray, List.set_cons_zero, List.set_cons_succ])
      refine wpAnyF_take (i := 18) (oi := _) (v := ?_) rfl (by kernel_rfl) (by kernel_rfl) (by kernel_rfl) (by kernel_rfl) (fun _ _ _ h => h) (Or.inl ⟨by rfl, ?_⟩) (by assumption) ?_
      rotate_left 1
      · intro w hSw
        (try dsimp only at hSw)
        (first | (go_simp; done) | (go_simp; with_reducible rfl))
      (try simp only [Act.put, List.getElem_toArray, List.getElem_cons_succ, List.getElem_cons_zero, List.setIfInBounds_toArray, List.set_cons_zero, List.set_cons_succ])
      refine wpAnyF_take (i := 19) (oi := _) (v := ?_) rfl (by kernel_rfl) (by kernel_rfl) (by kernel_rfl) (by kernel_rfl) (fun _ _ _ h => h) (Or.inl ⟨by rfl, ?_⟩) (by assumption) ?_
      rotate_left 1
      · intro w hSw
        (try dsimp only at hSw)
        (first | (go_simp; done) | (go_simp; with_reducible rfl))
      (try simp only [Act.put, List.getElem_toArray, List.getElem_cons_succ, List.getElem_cons_zero, List.setIfInBounds_toArray, List.set_cons_zero, List.set_cons_succ])
      refine wpAnyF_take (i := 20) (oi := _) (v := ?_) rfl (by kernel_rfl) (by kernel_rfl) (by kernel_rfl) (by kernel_rfl) (fun _ _ _ h => h) (Or.inl ⟨by rfl, ?_⟩) (by assumption) ?_
      rotate_left 1
      · intro w hSw
        (try dsimp only at hSw)
        (first | (go_simp; done) | (go_simp; with_reducible rfl))
      (try simp only [Act.put, List.getElem_toArray, List.getElem_cons_succ, List.getElem_cons_zero, List.setIfInBounds_toArray, List.set_cons_zero, List.set_cons_succ])
      refine wpAnyF_take (i := 21) (oi := _) (v := ?_) rfl (by kernel_rfl) (by kernel_rfl) (by kernel_rfl) (by kernel_rfl) (fun _ _ _ h => h) (Or.inl ⟨by rfl, ?_⟩) (by assumption) ?_
      rotate_left 1
      · intro w hSw
        (try dsimp only at hSw)
        (first | (go_simp; done) | (go_simp; with_reducible rfl))
      (try simp only [Act.put, List.getElem_toArray, List.getElem_cons_succ, List.getElem_cons_zero, List.setIfInBounds_toArray, List.set_cons_zero, List.set_cons_succ])
      refine wpAnyF_ready (rs := [22]) (by kernel_rfl) (by simp) ?_
      refine AllReadyF.cons (o := _) rfl (fun K hK => ?_) AllReadyF.nil
      go_simp
      (go_at_call 13)
      refine (awake10_any _).mono ?_
      rintro r wz ⟨rfl, hbz⟩
      have HBZ : Hid (Below w4.heap.size w4 wz) := Lib.hid (HFB1.out.trans (hbz.mono HFB1.out.size))
      clear hbz
      refine hK.out _ _ (HBZ.out) (fun hHeld22 => ?_)
      clear hK K
      (try simp only [Act.put, List.getElem_toArray, List.getElem_cons_succ, List.getElem_cons_zero, List.setIfInBounds_toArray, List.set_cons_zero, List.set_cons_succ])
      refine wpAnyF_take (i := 23) (oi := _) (v := ?_) rfl (by kernel_rfl) (by kernel_rfl) (by kernel_rfl) (by kernel_rfl) (fun _ _ _ h => h) (Or.inl ⟨by rfl, ?_⟩) (by assumption) ?_
      rotate_left 1
      · intro w hSw
        (try dsimp only at hSw)
        (first | (go_simp; done) | (go_simp; with_reducible rfl))
      (try simp only [Act.put, List.getElem_toArray, List.getElem_cons_succ, List.getElem_cons_zero, List.setIfInBounds_toArray, List.set_cons_zero, List.set_cons_succ])
      refine wpAnyF_take (i := 24) (oi := _) (v := ?_) rfl (by kernel_rfl) (by kernel_rfl) (by kernel_rfl) (by kernel_rfl) (fun _ _ _ h => h) (Or.inl ⟨by rfl, ?_⟩) (by assumption) ?_
      rotate_left 1
      · intro w hSw
        (try dsimp only at hSw)
        (first | (go_simp; done) | (go_simp; with_reducible rfl))
      (try simp only [Act.put, List.getElem_toArray, List.getElem_cons_succ, List.getElem_cons_zero, List.setIfInBounds_toArray, List.set_cons_zero, List.set_cons_succ])
      refine wpAnyF_done (by kernel_rfl) ?_ _
      have HF := Lib.hid (HB4.out.trans (HBZ.out.mono HB4.out.size))
      go_wp2
      go_ret
      exact ⟨rfl, HF.out⟩
    · go_simp
      (go_at_call 15)
      refine (HFULLq.out _ (HB4.out.trans (HFB0.out.mono HB4.out.size))).mono ?_
      rintro r wf1 ⟨Af1, cf1, rfl, hff1, _, hfb1⟩
      have HFB1 : Hid (Below w4.heap.size w4 wf1) := Lib.hid (HFB0.out.trans (hfb1.mono HFB0.out.size))
      have HFF1 := Lib.hid hff1
      have HF01 := Lib.hid ((HFF0.out.below hfb1).more hfb1.size)
      clear hff1 hfb1
      refine hK.out _ _ (HFB1.out) (fun hHeld16 => ?_)
      clear hK K
      (try simp only [Act.put, List.getElem_toArray, List.getElem_cons_succ, List.getElem_cons_zero, List.setIfInBounds_toArray, List.set_cons_zero, List.set_cons_succ])
      refine wpAnyF_ready (rs := [14, 17]) (by kernel_rfl) (by simp) ?_
      refine AllReadyF.cons (o := _) rfl (fun K hK => ?_) (AllReadyF.cons (o := _) rfl (fun K hK => ?_) AllReadyF.nil)
      · have hcv : (convert 29 9 (.slice Af0 256 cf0)).run Try.prog wf1 = .ok (.string sp) wf1 := by rw [HSP.out]; exact HF01.out.conv 29 5 9 Try.underlying29 Try.underlying5 Try.underlying9
        go_simp
        clear hcv
        refine hK.out _ _ (HFB1.out) (fun hHeld14 => ?_)
        clear hK K
        (try simp only [Act.put, List.getElem_toArray, List.getElem_cons_succ, List.getElem_cons_zero, List.setIfInBounds_toArray, List.set_cons_zero, List.set_cons_succ])
        refine wpAnyF_ready (rs := [17]) (by kernel_rfl) (by simp) ?_
        refine AllReadyF.cons (o := _) rfl (fun K hK => ?_) AllReadyF.nil
        have hcv : (convert 29 9 (.slice Af1 256 cf1)).run Try.prog wf1 = .ok (.string sq) wf1 := by rw [HSQ.out]; exact HFF1.out.conv 29 5 9 Try.underlying29 Try.underlying5 Try.underlying9
        go_simp
        clear hcv
        refine hK.out _ _ (HFB1.out) (fun hHeld17 => ?_)
        clear hK K
        (try simp only [Act.put, List.getElem_toArray, List.getElem_cons_succ, List.getElem_cons_zero, List.setIfInBounds_toArray, List.set_cons_zero, List.set_cons_succ])
        refine wpAnyF_take (i := 18) (oi := _) (v := ?_) rfl (by kernel_rfl) (by kernel_rfl) (by kernel_rfl) (by kernel_rfl) (fun _ _ _ h => h) (Or.inl ⟨by rfl, ?_⟩) (by assumption) ?_
        rotate_left 1
        · intro w hSw
          (try dsimp only at hSw)
          (first | (go_simp; done) | (go_simp; with_reducible rfl))
        (try simp only [Act.put, List.getElem_toArray, List.getElem_cons_succ, List.getElem_cons_zero, List.setIfInBounds_toArray, List.set_cons_zero, List.set_cons_succ])
        refine wpAnyF_take (i := 19) (oi := _) (v := ?_) rfl (by kernel_rfl) (by kernel_rfl) (by kernel_rfl) (by kernel_rfl) (fun _ _ _ h => h) (Or.inl ⟨by rfl, ?_⟩) (by assumption) ?_
        rotate_left 1
        · intro w hSw
          (try dsimp only at hSw)
          (first | (go_simp; done) | (go_simp; with_reducible rfl))
        (try simp only [Act.put, List.getElem_toArray, List.getElem_cons_succ, List.getElem_cons_zero, List.setIfInBounds_toArray, List.set_cons_zero, List.set_cons_succ])
        refine wpAnyF_take (i := 20) (oi := _) (v := ?_) rfl (by kernel_rfl) (by kernel_rfl) (by kernel_rfl) (by kernel_rfl) (fun _ _ _ h => h) (Or.inl ⟨by rfl, ?_⟩) (by assumption) ?_
        rotate_left 1
        · intro w hSw
          (try dsimp only at hSw)
          (first | (go_simp; done) | (go_simp; with_reducible rfl))
        (try simp only [Act.put, List.getElem_toArray, List.getElem_cons_succ, List.getElem_cons_zero, List.setIfInBounds_toArray, List.set_cons_zero, List.set_cons_succ])
        refine wpAnyF_take (i := 21) (oi := _) (v := ?_) rfl (by kernel_rfl) (by kernel_rfl) (by kernel_rfl) (by kernel_rfl) (fun _ _ _ h => h) (Or.inl ⟨by rfl, ?_⟩) (by assumption) ?_
        rotate_left 1
        · intro w hSw
          (try dsimp only at hSw)
          (first | (go_simp; done) | (go_simp; with_reducible rfl))
        (try simp only [Act.put, List.getElem_toArray, List.getElem_cons_succ, List.getElem_cons_zero, List.setIfInBounds_toArray, List.set_cons_zero, List.set_cons_succ])
        refine wpAnyF_ready (rs := [22]) (by kernel_rfl) (by simp) ?_
        refine AllReadyF.cons (o := _) rfl (fun K hK => ?_) AllReadyF.nil
        go_simp
        (go_at_call 13)
        refine (awake10_any _).mono ?_
        rintro r wz ⟨rfl, hbz⟩
        have HBZ : Hid (Below w4.heap.size w4 wz) := Lib.hid (HFB1.out.trans (hbz.mono HFB1.out.size))
        clear hbz
        refine hK.out _ _ (HBZ.out) (fun hHeld22 => ?_)
        clear hK K
        (try simp only [Act.put, List.getElem_toArray, List.getElem_cons_succ, List.getElem_cons_zero, List.setIfInBounds_toArray, List.set_cons_zero, List.set_cons_succ])
        refine wpAnyF_take (i := 23) (oi := _) (v := ?_) rfl (by kernel_rfl) (by kernel_rfl) (by kernel_rfl) (by kernel_rfl) (fun _ _ _ h => h) (Or.inl ⟨by rfl, ?_⟩) (by assumption) ?_
        rotate_left 1
        · intro w hSw
          (try dsimp only at hSw)
          (first | (go_simp; done) | (go_simp; with_reducible rfl))
        (try simp only [Act.put, List.getElem_toArray, List.getElem_cons_succ, List.getElem_cons_zero, List.setIfInBounds_toArray, List.set_cons_zero, List.set_cons_succ])
        refine wpAnyF_take (i := 24) (oi := _) (v := ?_) rfl (by kernel_rfl) (by kernel_rfl) (by kernel_rfl) (by kernel_rfl) (fun _ _ _ h => h) (Or.inl ⟨by rfl, ?_⟩) (by assumption) ?_
        rotate_left 1
        · intro w hSw
          (try dsimp only at hSw)
          (first | (go_simp; done) | (go_simp; with_reducible rfl))
        (try simp only [Act.put, List.getElem_toArray, List.getElem_cons_succ, List.getElem_cons_zero, List.setIfInBounds_toArray, List.set_cons_zero, List.set_cons_succ])
        refine wpAnyF_done (by kernel_rfl) ?_ _
        have HF := Lib.hid (HB4.out.trans (HBZ.out.mono HB4.out.size))
        go_wp2
        go_ret
        exact ⟨rfl, HF.out⟩
      · have hcv : (convert 29 9 (.slice Af1 256 cf1)).run Try.prog wf1 = .ok (.string sq) wf1 := by rw [HSQ.out]; exact HFF1.out.conv 29 5 9 Try.underlying29 Try.underlying5 Try.underlying9
        go_simp
        clear hcv
        refine hK.out _ _ (HFB1.out) (fun hHeld17 => ?_)
        clear hK K
        (try simp only [Act.put, List.getElem_toArray, List.getElem_cons_succ, List.getElem_cons_zero, List.setIfInBounds_toArray, List.set_cons_zero, List.set_cons_succ])
        refine wpAnyF_ready (rs := [14]) (by kernel_rfl) (by simp) ?_
        refine AllReadyF.cons (o := _) rfl (fun K hK => ?_) AllReadyF.nil
        have hcv : (convert 29 9 (.slice Af0 256 cf0)).run Try.prog wf1 = .ok (.string sp) wf1 := by rw [HSP.out]; exact HF01.out.conv 29 5 9 Try.underlying29 Try.underlying5 Try.underlying9
        go_simp
        clear hcv
        refine hK.out _ _ (HFB1.out) (fun hHeld14 => ?_)
        clear hK K
        (try simp only [Act.put, List.getElem_toArray, List.getElem_cons_succ, List.getElem_cons_zero, List.setIfInBounds_toArray, List.set_cons_zero, List.set_cons_succ])
        refine wpAnyF_take (i := 18) (oi := _) (v := ?_) rfl (by kernel_rfl) (by kernel_rfl) (by kernel_rfl) (by kernel_rfl) (fun _ _ _ h => h) (Or.inl ⟨by rfl, ?_⟩) (by assumption) ?_
        rotate_left 1
        · intro w hSw
          (try dsimp only at hSw)
          (first | (go_simp; done) | (go_simp; with_reducible rfl))
        (try simp only [Act.put, List.getElem_toArray, List.getElem_cons_succ, List.getElem_cons_zero, List.setIfInBounds_toArray, List.set_cons_zero, List.set_cons_succ])
        refine wpAnyF_take (i := 19) (oi := _) (v := ?_) rfl (by kernel_rfl) (by kernel_rfl) (by kernel_rfl) (by kernel_rfl) (fun _ _ _ h => h) (Or.inl ⟨by rfl, ?_⟩) (by assumption) ?_
        rotate_left 1
        · intro w hSw
          (try dsimp only at hSw)
          (first | (go_simp; done) | (go_simp; with_reducible rfl))
        (try simp only [Act.put, List.getElem_toArray, List.getElem_cons_succ, List.getElem_cons_zero, List.setIfInBounds_toArray, List.set_cons_zero, List.set_cons_succ])
        refine wpAnyF_take (i := 20) (oi := _) (v := ?_) rfl (by kernel_rfl) (by kernel_rfl) (by kernel_rfl) (by kernel_rfl) (fun _ _ _ h => h) (Or.inl ⟨by rfl, ?_⟩) (by assumption) ?_
        rotate_left 1
        · intro w hSw
          (try dsimp only at hSw)
          (first | (go_simp; done) | (go_simp; with_reducible rfl))
        (try simp only [Act.put, List.getElem_toArray, List.getElem_cons_succ, List.getElem_cons_zero, List.setIfInBounds_toArray, List.set_cons_zero, List.set_cons_succ])
        refine wpAnyF_take (i := 21) (oi := _) (v := ?_) rfl (by kernel_rfl) (by kernel_rfl) (by kernel_rfl) (by kernel_rfl) (fun _ _ _ h => h) (Or.inl ⟨by rfl, ?_⟩) (by assumption) ?_
        rotate_left 1
        · intro w hSw
          (try dsimp only at hSw)
          (first | (go_simp; done) | (go_simp; with_reducible rfl))
        (try simp only [Act.put, List.getElem_toArray, List.getElem_cons_succ, List.getElem_cons_zero, List.setIfInBounds_toArray, List.set_cons_zero, List.set_cons_succ])
        refine wpAnyF_ready (rs := [22]) (by kernel_rfl) (by simp) ?_
        refine AllReadyF.cons (o := _) rfl (fun K hK => ?_) AllReadyF.nil
        go_simp
        (go_at_call 13)
        refine (awake10_any _).mono ?_
        rintro r wz ⟨rfl, hbz⟩
        have HBZ : Hid (Below w4.heap.size w4 wz) := Lib.hid (HFB1.out.trans (hbz.mono HFB1.out.size))
        clear hbz
        refine hK.out _ _ (HBZ.out) (fun hHeld22 => ?_)
        clear hK K
        (try simp only [Act.put, List.getElem_toArray, List.getElem_cons_succ, List.getElem_cons_zero, List.setIfInBounds_toArray, List.set_cons_zero, List.set_cons_succ])
        refine wpAnyF_take (i := 23) (oi := _) (v := ?_) rfl (by kernel_rfl) (by kernel_rfl) (by kernel_rfl) (by kernel_rfl) (fun _ _ _ h => h) (Or.inl ⟨by rfl, ?_⟩) (by assumption) ?_
        rotate_left 1
        · intro w hSw
          (try dsimp only at hSw)
          (first | (go_simp; done) | (go_simp; with_reducible rfl))
        (try simp only [Act.put, List.getElem_toArray, List.getElem_cons_succ, List.getElem_cons_zero, List.setIfInBounds_toArray, List.set_cons_zero, List.set_cons_succ])
        refine wpAnyF_take (i := 24) (oi := _) (v := ?_) rfl (by kernel_rfl) (by kernel_rfl) (by kernel_rfl) (by kernel_rfl) (fun _ _ _ h => h) (Or.inl ⟨by rfl, ?_⟩) (by assumption) ?_
        rotate_left 1
        · intro w hSw
          (try dsimp only at hSw)
          (first | (go_simp; done) | (go_simp; with_reducible rfl))
        (try simp only [Act.put, List.getElem_toArray, List.getElem_cons_succ, List.getElem_cons_zero, List.setIfInBounds_toArray, List.set_cons_zero, List.set_cons_succ])
        refine wpAnyF_done (by kernel_rfl) ?_ _
        have HF := Lib.hid (HB4.out.trans (HBZ.out.mono HB4.out.size))
        go_wp2
        go_ret
        exact ⟨rfl, HF.out⟩
end
end Go.Proofs.Ythjpaligpojlnaa
