/-
  Layer 18, the document's: There, First, With.
-/
import Derived.Test.YtflgcddgocojpaaDoorSlN
namespace Go.Proofs.YtflgcddgocojpaaDoor
open Go.RowKit Go
set_option linter.unusedVariables false
set_option linter.unusedSimpArgs false
set_option maxHeartbeats 1000000

def hasO (l : List Ob) (i : Int) : Bool := decide (0 ≤ i ∧ i < (l.length : Int) ∧ 0 < (oAt l i.toNat).1)
theorem there_any (A : Option Addr) (n c : Nat) (i : Int) (l : List Ob) (w : World) (hv : ObV w A n l) (hn : n ≤ 1000) :
    Calls Tryd.prog 18 #[.slice A n c, .int .i64 i] w fun e w' => e = .returned (.bool (hasO l i)) ∧ w = w' := by
  have hl := hv.1
  by_cases h0 : i < 0
  · have hr : hasO l i = false := by unfold hasO; rw [decide_eq_false_iff_not]; omega
    rw [hr]
    have hd : decide (0 ≤ i) = false := by rw [decide_eq_false_iff_not]; omega
    clear hv hl hr
    go_enter Tryd.func18, Tryd.ntmps18
    go_wp2
    go_ret
    exact ⟨rfl, rfl⟩
  · obtain ⟨j, rfl⟩ : ∃ j : Nat, i = (j : Int) := ⟨i.toNat, by omega⟩
    by_cases h1 : j < n
    · obtain ⟨b, o, A1, c1, rfl, hb, q0, q1, _, _⟩ := hv.at_ h1
      have hr : hasO l (j : Int) = decide ((0 : Int) < (((oAt l j).1 : Nat) : Int)) := by
        unfold hasO
        rw [Int.toNat_natCast]
        exact decide_eq_decide.2 ⟨fun h => by omega, fun h => ⟨by omega, by omega, by omega⟩⟩
      rw [hr]
      clear hv hl hr q1
      generalize (oAt l j).1 = s at *
      go_enter Tryd.func18, Tryd.ntmps18
      go_wp2
      go_ret
      exact ⟨rfl, rfl⟩
    · have hr : hasO l (j : Int) = false := by unfold hasO; rw [decide_eq_false_iff_not]; omega
      rw [hr]
      clear hv hl hr
      go_enter Tryd.func18, Tryd.ntmps18
      go_wp2
      go_ret
      exact ⟨rfl, rfl⟩
def freeO (l : List Ob) (j : Nat) : Bool := decide ((oAt l j).1 = 0)
def FiR (w : World) (l : List Ob) (iv : Value) (wr : World) : Prop := ∃ k : Nat, iv = .int .i64 (k : Int) ∧ k ≤ l.length ∧ Below w.heap.size w wr ∧ ∀ j, j < k → freeO l j = false
theorem first18_any (A : Option Addr) (n c : Nat) (l : List Ob) (w : World) (hv : ObV w A n l) (hn : n ≤ 1000) :
    Calls Tryd.prog 19 #[.slice A n c] w fun e w' => (∃ i : Int, e = .returned (.int .i64 i) ∧ FirstAt (freeO l) n i) ∧ Below w.heap.size w w' := by
  have hl := hv.1
  have HV := Lib.hid hv
  clear hv
  go_enter Tryd.func19, Tryd.ntmps19
  go_wp2
  go_loopw [7] (fun iv wr => FiR w l iv wr) (fun iv _ => (n - intOf iv).toNat)
  case atStart => exact ⟨0, rfl, by omega, Below.refl _ _, fun j hj => by omega⟩
  case round =>
    obtain ⟨k, rfl, hk, hb, hno⟩ := hrel
    by_cases hlt : k < n
    · obtain ⟨b, o, A1, c1, rfl, hb0, q0, q1, _, _⟩ := HV.out.at_ hlt
      have p0 : wr.cell? ⟨b, o + k * 2, none⟩ = some (.int .u64 (((oAt l k).1 : Nat) : Int)) := (hb.cell (p := ⟨b, o + k * 2, none⟩) hb0).trans q0
      have p1 : wr.cell? ⟨b, o + k * 2 + 1, none⟩ = some (.slice A1 (oAt l k).2.length c1) := (hb.cell (p := ⟨b, o + k * 2 + 1, none⟩) hb0).trans q1
      have hlt1 : b < wr.heap.size := Nat.lt_of_lt_of_le hb0 hb.size
      have HNO := Lib.hid hno
      have HB := Lib.hid hb
      clear q0 q1 hb0
      cases hs : freeO l k
      · have HNO1 : Hid (∀ j, j < k + 1 → freeO l j = false) := Lib.hid (fun j hj => by
          by_cases e : j = k
          · subst e; exact hs
          · exact hno j (by omega))
        have hs0 : ¬ (((oAt l k).1 : Nat) : Int) = 0 := by
          have := of_decide_eq_false hs; omega
        clear hno hb hs
        generalize (oAt l k).1 = s at *
        generalize (oAt l k).2.length = m at *
        have HF : Hid (Below w.heap.size w (wr.alloc (.cells #[.int .u64 (s : Int), .slice A1 m c1] 55))) := Lib.hid (HB.out.alloc HB.out.size _)
        go_wp2
        go_roundw
        case rel => exact ⟨k + 1, by simp, by omega, HF.out, HNO1.out⟩
        case measure => simp [intOf]; omega
      · have hs0 : (((oAt l k).1 : Nat) : Int) = 0 := by
          have := of_decide_eq_true hs; omega
        have HE : Hid (FirstAt (freeO l) n (k : Int)) := Lib.hid (.inr ⟨k, rfl, hlt, hs, hno⟩)
        clear hno hb hs
        generalize (oAt l k).1 = s at *
        generalize (oAt l k).2.length = m at *
        rw [hs0] at p0
        have HF : Hid (Below w.heap.size w (wr.alloc (.cells #[.int .u64 0, .slice A1 m c1] 55))) := Lib.hid (HB.out.alloc HB.out.size _)
        go_wp2
        go_ret
        exact ⟨⟨_, rfl, HE.out⟩, HF.out⟩
    · obtain rfl : k = n := by omega
      have HNO := Lib.hid hno
      have HB := Lib.hid hb
      clear hb hno
      go_wp2
      go_ret
      exact ⟨⟨-1, rfl, .inl ⟨rfl, HNO.out⟩⟩, HB.out⟩
def WithTo (w : World) (l : List Ob) (e : Ending) (w' : World) : Prop := ∃ g cap, e = .returned (.slice (some ⟨g, 0, none⟩) l.length cap) ∧ ObV w' (some ⟨g, 0, none⟩) l.length l ∧ l.length ≤ cap ∧ cap ≤ 9223372036854775807 ∧ Below w.heap.size w w'
theorem oAt_set (l : List Ob) (k : Nat) (o : Ob) (hk : k < l.length) (i : Nat) : oAt (l.set k o) i = if i = k then o else oAt l i := by
  unfold oAt
  rw [List.getD_eq_getElem?_getD, List.getD_eq_getElem?_getD, List.getElem?_set]
  by_cases h : k = i
  · subst h; rw [if_pos rfl, if_pos rfl, if_pos hk]; rfl
  · rw [if_neg h, if_neg (by omega)]
theorem with_end {w w1 w2 : World} {b off g cap k s n1 c1 : Nat} {A1 : Option Addr} {l : List Ob} {d : List Nat} (hv : ObB w1 b off l) (hk : k < l.length) (hnc : l.length ≤ cap) (hcap : cap ≤ 9223372036854775807)
    (hw1 : Below w.heap.size w w1) (hg : w1.heap.size ≤ g) (hc : Cells w2 g (l.length * 2) (obsF w1 b off)) (hb : Below w1.heap.size w1 w2) (hs : BS w1 w1.heap.size A1 n1 c1 d) (hz : A1 = none → c1 = 0) :
    WithTo w (l.set k (s, d)) (.returned (.slice (some ⟨g, 0, none⟩) l.length cap)) (w2.setCells g (k * 2) [.int .u64 (s : Int), .slice A1 n1 c1]) := by
  have h1 := hc.sets (o := k * 2) (vs := [.int .u64 (s : Int), .slice A1 n1 c1]) (by simp; omega)
  have hb2 : Below w1.heap.size w1 (w2.setCells g (k * 2) [.int .u64 (s : Int), .slice A1 n1 c1]) := below_setCells _ _ _ hb hg
  refine ⟨g, cap, by rw [List.length_set], ⟨rfl, fun _ => ⟨g, 0, rfl, h1.lt, fun i hi => ?_⟩⟩, by rw [List.length_set]; exact hnc, hcap, hw1.trans (hb2.mono hw1.size)⟩
  rw [List.length_set] at hi
  rw [oAt_set l k _ hk]
  have e0 := h1.cell (i * 2) (by omega)
  have e1 := h1.cell (i * 2 + 1) (by omega)
  rw [Nat.zero_add]
  have hl := hs.len
  by_cases hik : i = k
  · subst hik
    rw [if_pos rfl]
    rw [if_pos (by simp), Nat.sub_self] at e0
    rw [if_pos (by simp), show i * 2 + 1 - i * 2 = 1 by omega] at e1
    exact ⟨A1, c1, e0, by rw [hl]; exact e1, by rw [hl]; exact (hs.below hb2).more hb2.size, hz⟩
  · rw [if_neg hik]
    rw [if_neg (by simp; omega)] at e0
    rw [if_neg (by simp; omega)] at e1
    obtain ⟨A2, c2, q0, q1, q2, q3⟩ := hv.2 i hi
    refine ⟨A2, c2, ?_, ?_, (q2.below hb2).more hb2.size, q3⟩
    · rw [e0]; unfold obsF; rw [q0]; rfl
    · rw [e1]; unfold obsF; rw [show off + (i * 2 + 1) = off + i * 2 + 1 by omega, q1]; rfl
theorem ob_size (a b : Value) : (Tryd.prog.info? 55).map (·.size) = some (#[a, b]).size := by kernel_rfl
theorem ob_one (s : Int) (A : Option Addr) (n c : Nat) : (#[Value.int .u64 s, .slice A n c]).all (·.oneCell') = true :=
  all_oneCell_toArray (cs := [Value.int .u64 s, .slice A n c]) (by intro v hv; simp at hv; rcases hv with rfl | rfl <;> rfl)
theorem with_any (A A1 : Option Addr) (n c k s n1 c1 : Nat) (l : List Ob) (d : List Nat) (w : World) (hv : ObV w A n l) (hn : n < 1000) (hk : k < n) (hs : BS w w.heap.size A1 n1 c1 d) (hz : A1 = none → c1 = 0) :
    Calls Tryd.prog 24 #[.slice A n c, .int .i64 (k : Int), .agg #[.int .u64 (s : Int), .slice A1 n1 c1]] w (WithTo w (l.set k (s, d))) := by
  obtain ⟨hln, hv2⟩ := hv
  obtain ⟨b, off, rfl, hv3⟩ := hv2 (by omega)
  have HB1 : Hid (Below w.heap.size w (w.alloc (.cells #[.int .u64 (s : Int), .slice A1 n1 c1] 55))) := Lib.hid ((Below.refl _ _).alloc (Nat.le_refl _) _)
  have HV := Lib.hid (hv3.below HB1.out)
  have HL := Lib.hid hln
  have HS := Lib.hid ((hs.below HB1.out).more HB1.out.size)
  have HZ := Lib.hid hz
  have HBX : Hid ((w.alloc (.cells #[.int .u64 (s : Int), .slice A1 n1 c1] 55)).heap[w.heap.size]? = some (.cells #[.int .u64 (s : Int), .slice A1 n1 c1] 55 (0, 0))) := Lib.hid (heap_alloc_new _ _)
  have HSZ : Hid (w.heap.size < (w.alloc (.cells #[.int .u64 (s : Int), .slice A1 n1 c1] 55)).heap.size) := Lib.hid (by simp)
  have HEND := Lib.hid (fun g cap w2 (h1 : n ≤ cap) h2 h3 h4 h5 => with_end (w := w) (w2 := w2) (g := g) (cap := cap) (k := k) (s := s) (n1 := n1) (c1 := c1) (A1 := A1) (d := d) (l := l) HV.out (by omega) (by omega) h2 HB1.out h3 h4 h5 HS.out hz)
  rw [hln] at HEND
  clear hv2 hv3 hs hz hln HS HZ
  go_enter Tryd.func24, Tryd.ntmps24
  generalize hW1 : w.alloc (.cells #[.int .u64 (s : Int), .slice A1 n1 c1] 55) = W1 at *
  go_upto_region 2 with (at_builtin; refine wp_appObs W1 rfl _ _ rfl b off n c l rfl rfl HV.out HL.out (by omega) (by omega) ?_; intro g cap w2 hg hnc hcm hcl hb2; have p0 : w2.cell? ⟨w.heap.size, 0, none⟩ = some (.int .u64 (s : Int)) := (hb2.cell (p := ⟨w.heap.size, 0, none⟩) HSZ.out).trans (blk_cell HBX.out 0); have p1 : w2.cell? ⟨w.heap.size, 1, none⟩ = some (.slice A1 n1 c1) := (hb2.cell (p := ⟨w.heap.size, 1, none⟩) HSZ.out).trans (blk_cell HBX.out 1); have HTH : Hid (w2.there g (k * 2) (#[Value.int .u64 (s : Int), .slice A1 n1 c1]).size) := Lib.hid (hcl.there (o := k * 2) (k := 2) (by omega)); have HE2 := Lib.hid (HEND.out g cap w2 hnc hcm hg hcl hb2); clear hcl hb2)
  go_wp2_with (with_reducible refine wpList_store_mid rfl 55 (.tmp 14) (.tmp 13) rfl g (k * 2) #[.int .u64 (s : Int), .slice A1 n1 c1] rfl rfl HTH.out (ob_size _ _) (ob_one _ _ _ _) ?_)
  go_ret
  exact HE2.out
end Go.Proofs.YtflgcddgocojpaaDoor
