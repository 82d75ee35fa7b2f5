/-
  Package garderobelaw10: Full.
-/
import Derived.Test.YtnalebocfbbpdaaOwnW
namespace Go.Proofs.Ytnalebocfbbpdaa
open Go.RowKit Go
set_option linter.unusedVariables false
set_option linter.unusedSimpArgs false
def GivesO (w : World) (l : List Nat) (e : Ending) (w' : World) : Prop := ∃ v, e = .returned v ∧ Own w' w.heap.size v l ∧ Below w.heap.size w w'
def lastB (l : List Nat) : Nat := l.getD (l.length - 1) 0
def fillL (l : List Nat) (k : Nat) : List Nat := l ++ List.replicate k (lastB l)
def fullL (l : List Nat) : List Nat := fillL (l.take 256) (256 - (l.take 256).length)
theorem lastB_nil {l : List Nat} (h : l.length = 0) : lastB l = 0 := by rw [List.length_eq_zero_iff.mp h]; rfl
theorem fillL_succ (l : List Nat) (k : Nat) : fillL l k ++ [lastB l] = fillL l (k + 1) := by
  unfold fillL
  rw [List.append_assoc, ← List.replicate_succ']
theorem fillL_byte {l : List Nat} (h : ∀ i, l.getD i 0 < 256) (k i : Nat) : (fillL l k).getD i 0 < 256 := by
  unfold fillL
  rw [List.getD_eq_getElem?_getD, List.getElem?_append]
  split
  · rw [← List.getD_eq_getElem?_getD]; exact h i
  · rw [List.getElem?_replicate]
    split
    · exact h _
    · simp
theorem full_len (l : List Nat) : (fullL l).length = 256 := by
  unfold fullL fillL
  rw [List.length_append, List.length_replicate, List.length_take]; omega
def lenVal : Value → Int
  | .slice _ n _ => (n : Int)
  | _ => 0
def FullR (w : World) (l : List Nat) (v : Value) (wr : World) : Prop := ∃ k : Nat, Own wr w.heap.size v (fillL l k) ∧ l.length + k ≤ 256 ∧ Below w.heap.size w wr
theorem FullR.slice {w wr : World} {l : List Nat} {v : Value} (hb : ∀ i, l.getD i 0 < 256) (h : FullR w l v wr) : ∃ A n c, v = .slice A n c := by
  obtain ⟨k, h1, _⟩ := h
  obtain ⟨A, c, e, _⟩ := h1.bs (fillL_byte hb k)
  exact ⟨A, _, c, e⟩
set_option maxRecDepth 100000 in
set_option maxHeartbeats 2000000 in
theorem full_any (A : Option Addr) (n c : Nat) (L : List Nat) (hA : A = none → c = 0) (w : World) (hs : BS w w.heap.size A n c L) :
    Calls Try.prog 19 #[.slice A n c] w (GivesO w (fullL L)) := by
  have hcap := hs.cap
  have hL := hs.len
  have HB : Hid (Below w.heap.size w (w.alloc (.cells #[] 5))) := Lib.hid ((Below.refl _ _).alloc (Nat.le_refl _) _)
  have HA := Lib.hid hA
  by_cases hn : n ≤ 256
  · have HS := Lib.hid hs
    have e : L.take 256 = L := List.take_of_length_le (by omega)
    have HFU : Hid (fullL L = fillL L (256 - L.length)) := Lib.hid (by unfold fullL; rw [e])
    have HLE := Lib.hid hL
    have HLB := Lib.hid (fun i => hs.byte i)
    clear hs hL hA e
    have hbs0 := HB.out
    have hsz0 : w.heap.size ≤ (w.alloc (.cells #[] 5)).heap.size := hbs0.size
    have hx0 := heap_alloc_new w (.cells #[] 5)
    have HO0 : Hid (Own (w.alloc (.cells #[] 5)) w.heap.size (.slice (some ⟨w.heap.size, 0, none⟩) 0 0) []) := Lib.hid (Own.blk (Nat.le_refl _) hx0 rfl (by omega) (by unfold maxLen; omega) rfl rfl)
    have HBS := Lib.hid ((HS.out.below hbs0).more hbs0.size)
    have HLN : Hid (([] : List Nat).length + n < 1000000000) := Lib.hid (by simp <;> omega)
    clear hx0 hbs0
    go_enter Try.func19, Try.ntmps19
    go_wp2_with (at_builtin; refine wp_apps _ rfl (.tmp 10) (.tmp 11) rfl w.heap.size (.slice (some ⟨w.heap.size, 0, none⟩) 0 0) [] rfl HO0.out _ A n c L rfl HBS.out HA.out HLN.out hsz0 ?_; intro v1 w1 hown1 hb1)
    have HB1 := Lib.hid (HB.out.trans hb1)
    have HR : Hid (FullR w L v1 w1) := Lib.hid ⟨0, by simpa [fillL] using hown1, by rw [HLE.out]; omega, HB1.out⟩
    generalize w.alloc (.cells #[] 5) = W0 at *
    clear hown1 hb1 HO0 HB HBS HLN hsz0
    obtain ⟨A1, n1, c1, rfl⟩ := HR.out.slice HLB.out
    go_loopw [3] (fun v wr => FullR w L v wr) (fun v _ => 256 - (lenVal v).toNat)
    case atStart => exact HR.out
    case round =>
      clear HR
      obtain ⟨k, hown, hk, hb⟩ := hrel
      have hB := hb.size
      have HL : Hid ((fillL L k).length = L.length + k) := Lib.hid (by simp [fillL])
      have e2 : (fillL L k).length = n + k := by rw [HL.out, HLE.out]
      have hq := hown.bs (fillL_byte HLB.out k)
      rw [e2] at hq
      obtain ⟨A2, c2, rfl, _⟩ := hq
      have HHO := Lib.hid hown
      have HHB := Lib.hid hb
      have HST := Lib.hid (fillL_succ L k)
      by_cases hlt : n + k < 256
      · have hll : (fillL L k).length < 1000000000 := by rw [HL.out, HLE.out]; omega
        have HN : Hid (∀ v' w2, Own w2 w.heap.size v' (fillL L k ++ [lastB L]) → Below w.heap.size wr w2 → FullR w L v' w2 ∧ ∃ A c, v' = .slice A (n + k + 1) c) := Lib.hid (fun v' w2 h1 h2 => by
          rw [HST.out] at h1
          refine ⟨⟨k + 1, h1, by rw [HLE.out]; omega, HHB.out.trans h2⟩, ?_⟩
          obtain ⟨A, c, e, _⟩ := h1.bs (fillL_byte HLB.out (k + 1))
          exact ⟨A, c, by rw [e]; simp [fillL, HLE.out] <;> omega⟩)
        clear e2 hown hb HST
        generalize fillL L k = F at *
        by_cases hz : n = 0
        · have HZ : Hid (lastB L = 0) := Lib.hid (lastB_nil (by rw [HLE.out]; exact hz))
          rw [HZ.out] at HN
          subst hz
          go_wp2_with (at_builtin; refine wp_app _ rfl (.tmp 25) (.tmp 27) rfl w.heap.size (.slice A2 (0 + k) c2) F 0 0 rfl HHO.out rfl rfl hll hB ?_; intro v' w2 hown2 hb2)
          obtain ⟨h1, A3, c3, rfl⟩ := HN.out _ _ hown2 hb2
          have HR := Lib.hid h1
          clear hown2 hb2 HN h1
          go_roundw
          case rel => exact ⟨_, _, _, _, _, _, _, _, _, _, _, _, _, _, _, _, _, _, HR.out, rfl⟩
          case measure => simp [lenVal] <;> omega
        · obtain ⟨b, o, rfl, hbB, hcell⟩ := HS.out.at_ (by omega)
          have k1 : wr.cell? ⟨b, o + (n - 1), none⟩ = some (.int .u8 ((lastB L : Nat) : Int)) := by
            have h := (HHB.out.cell (p := ⟨b, o + (n - 1), none⟩) hbB).trans (hcell (n - 1) (by omega))
            rw [h]; unfold lastB; rw [HLE.out]
          clear hcell
          generalize lastB L = x at *
          go_wp2_with (at_builtin; refine wp_app _ rfl (.tmp 25) (.tmp 27) rfl w.heap.size (.slice A2 (n + k) c2) F x x rfl HHO.out rfl rfl hll hB ?_; intro v' w2 hown2 hb2)
          obtain ⟨h1, A3, c3, rfl⟩ := HN.out _ _ hown2 hb2
          have HR := Lib.hid h1
          clear hown2 hb2 HN h1
          go_roundw
          case rel => exact HR.out
          case measure => simp [lenVal] <;> omega
      · have H : Hid (GivesO w (fullL L) (.returned (.slice A2 (n + k) c2)) wr) := Lib.hid ⟨_, rfl, by rw [HFU.out]; have e3 : 256 - L.length = k := (by have := HLE.out; omega); rw [e3]; exact hown, hb⟩
        clear hown e2
        go_wp2
        go_ret
        exact H.out

  · have HS := Lib.hid (hs.take (k := 256) (by omega))
    have e : (L.take 256).length = 256 := by rw [List.length_take]; omega
    have HFU : Hid (fullL L = fillL (L.take 256) (256 - (L.take 256).length)) := Lib.hid rfl
    have HLE := Lib.hid e
    have HLB := Lib.hid (fun i => HS.out.byte i)
    clear hs hL hA e
    generalize L.take 256 = l at *
    have hbs0 := HB.out
    have hsz0 : w.heap.size ≤ (w.alloc (.cells #[] 5)).heap.size := hbs0.size
    have hx0 := heap_alloc_new w (.cells #[] 5)
    have HO0 : Hid (Own (w.alloc (.cells #[] 5)) w.heap.size (.slice (some ⟨w.heap.size, 0, none⟩) 0 0) []) := Lib.hid (Own.blk (Nat.le_refl _) hx0 rfl (by omega) (by unfold maxLen; omega) rfl rfl)
    have HBS := Lib.hid ((HS.out.below hbs0).more hbs0.size)
    have HLN : Hid (([] : List Nat).length + 256 < 1000000000) := Lib.hid (by simp <;> omega)
    clear hx0 hbs0
    go_enter Try.func19, Try.ntmps19
    go_wp2_with (at_builtin; refine wp_apps _ rfl (.tmp 10) (.tmp 11) rfl w.heap.size (.slice (some ⟨w.heap.size, 0, none⟩) 0 0) [] rfl HO0.out _ A 256 c l rfl HBS.out HA.out HLN.out hsz0 ?_; intro v1 w1 hown1 hb1)
    have HB1 := Lib.hid (HB.out.trans hb1)
    have HR : Hid (FullR w l v1 w1) := Lib.hid ⟨0, by simpa [fillL] using hown1, by rw [HLE.out]; omega, HB1.out⟩
    generalize w.alloc (.cells #[] 5) = W0 at *
    clear hown1 hb1 HO0 HB HBS HLN hsz0
    obtain ⟨A1, n1, c1, rfl⟩ := HR.out.slice HLB.out
    go_loopw [3] (fun v wr => FullR w l v wr) (fun v _ => 256 - (lenVal v).toNat)
    case atStart => exact HR.out
    case round =>
      clear HR
      obtain ⟨k, hown, hk, hb⟩ := hrel
      have hB := hb.size
      have HL : Hid ((fillL l k).length = l.length + k) := Lib.hid (by simp [fillL])
      have e2 : (fillL l k).length = 256 + k := by rw [HL.out, HLE.out]
      have hq := hown.bs (fillL_byte HLB.out k)
      rw [e2] at hq
      obtain ⟨A2, c2, rfl, _⟩ := hq
      have HHO := Lib.hid hown
      have HHB := Lib.hid hb
      have HST := Lib.hid (fillL_succ l k)
      by_cases hlt : 256 + k < 256
      · omega
      · have H : Hid (GivesO w (fullL L) (.returned (.slice A2 (256 + k) c2)) wr) := Lib.hid ⟨_, rfl, by rw [HFU.out]; have e3 : 256 - l.length = k := (by have := HLE.out; omega); rw [e3]; exact hown, hb⟩
        clear hown e2
        go_wp2
        go_ret
        exact H.out

theorem fullL_byte {l : List Nat} (h : ∀ i, l.getD i 0 < 256) (i : Nat) : (fullL l).getD i 0 < 256 := by
  refine fillL_byte (fun i => ?_) _ i
  rw [List.getD_eq_getElem?_getD, List.getElem?_take]
  split
  · rw [← List.getD_eq_getElem?_getD]; exact h i
  · decide
end Go.Proofs.Ytnalebocfbbpdaa
