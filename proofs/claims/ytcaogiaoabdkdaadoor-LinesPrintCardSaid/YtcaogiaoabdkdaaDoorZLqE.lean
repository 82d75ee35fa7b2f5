/-
  The library's IndexAny, where a blank is looked for.
-/
import Derived.Test.YtcaogiaoabdkdaaDoorZLqD
import Derived.Deep.WholeRow
import Derived.Deep.Cut
import Derived.Laws.Tables
namespace Go.Proofs.YtcaogiaoabdkdaaDoor
open Go.RowKit Go Go.Shelf Go.Lib
set_option linter.unusedVariables false
set_option linter.unusedSimpArgs false
set_option maxRecDepth 1000000
set_option maxHeartbeats 1000000
/-- where the first blank stands -/
def idxB : List Nat → Int
  | [] => -1
  | c :: l => if isBl c = true then 0 else if idxB l = -1 then -1 else idxB l + 1
theorem idxB_ge (l : List Nat) : -1 ≤ idxB l ∧ idxB l < (l.length : Int) := by
  induction l with
  | nil => rw [idxB]; exact ⟨Int.le_refl _, by simp⟩
  | cons c l ih =>
    rw [idxB, List.length_cons]
    split
    · omega
    · split <;> omega
theorem idxB_none {l : List Nat} (h : ∀ j, j < l.length → isBl (l.getD j 0) = false) : idxB l = -1 := by
  induction l with
  | nil => rfl
  | cons c l ih =>
    have h0 := h 0 (by simp)
    rw [show (c :: l).getD 0 0 = c from rfl] at h0
    rw [idxB, h0, ih (fun j hj => by have := h (j + 1) (by simp; omega); simpa using this)]
    rfl
theorem idxB_some {l : List Nat} {p : Nat} (hp : p < l.length) (h : ∀ j, j < p → isBl (l.getD j 0) = false) (hb : isBl (l.getD p 0) = true) : idxB l = (p : Int) := by
  induction l generalizing p with
  | nil => simp at hp
  | cons c l ih =>
    cases p with
    | zero => rw [show (c :: l).getD 0 0 = c from rfl] at hb; rw [idxB, if_pos hb]; rfl
    | succ p =>
      have h0 := h 0 (by omega)
      rw [show (c :: l).getD 0 0 = c from rfl] at h0
      have := ih (p := p) (by simpa using hp) (fun j hj => by have := h (j + 1) (by omega); simpa using this) (by simpa using hb)
      rw [idxB, h0, this, if_neg (by simp), if_neg (by omega)]
      simp
theorem bl_idx (x : Nat) : (isBl x = true → 0 ≤ idxL x [32, 9]) ∧ (isBl x = false → idxL x [32, 9] < 0) := by
  unfold isBl
  constructor
  · intro h
    have h := of_decide_eq_true h
    rcases h with rfl | rfl <;> decide
  · intro h
    have h := of_decide_eq_false h
    have h32 : ¬ 32 = x := by omega
    have h9 : ¬ 9 = x := by omega
    simp [idxL, h32, h9]
def IaTo (l : List Nat) (w : World) (e : Ending) (w' : World) : Prop := e = .returned (.int .i64 (idxB l)) ∧ Below w.heap.size w w'
def IaR (w : World) (l : List Nat) (S : ByteArray) (wr : World) : Prop := ∃ p, wr.heap[w.heap.size]? = some (.stringIter S p) ∧ p ≤ l.length ∧ (∀ j, j < p → isBl (l.getD j 0) = false) ∧ Below w.heap.size w wr
theorem indexAny_short (l : List Nat) (hm : ∀ i, l.getD i 0 < 256) (hn : l.length ≤ 8) (w : World) :
    Calls Tryd.prog 47 #[.string (str l), .string ⟨#[32, 9]⟩] w (IaTo l w) := by
  have hsz := str_size l
  have HD := Lib.hid (fun i (h1 : i < l.length) (h2 : 128 ≤ l.getD i 0) => dec_high hm h1 h2)
  have HA : Hid (∀ i (h1 : i < l.length), l.getD i 0 < 128 → ∀ W (hk : W.heap[w.heap.size]? = some (.stringIter (str l) i)) ty, (Instr.next (.pointer (some ⟨w.heap.size, 0, none⟩)) true ty).run Tryd.prog W = .ok (.tuple #[.bool true, .int .i64 (i : Int), .int .i32 ((l.getD i 0 : Nat) : Int)]) (W.iterAt w.heap.size (str l) (i + 1))) := Lib.hid (fun i h1 h2 W hk ty => by
    have hlt : i < (str l).size := by rw [str_size]; exact h1
    have e := str_idx hm h1 hlt
    have := run_next_ascii_at (P := Tryd.prog) W w.heap.size (str l) i ty hk hlt (by rw [e]; exact h2)
    rw [e] at this
    exact this)
  have HH : Hid (∀ i (h1 : i < l.length) c k, Utf8.decode (str l) i = (c, k) → ∀ W (hk : W.heap[w.heap.size]? = some (.stringIter (str l) i)) ty, (Instr.next (.pointer (some ⟨w.heap.size, 0, none⟩)) true ty).run Tryd.prog W = .ok (.tuple #[.bool true, .int .i64 (i : Int), .int .i32 ((c : Nat) : Int)]) (W.iterAt w.heap.size (str l) (i + k))) := Lib.hid (fun i h1 c k hd W hk ty => by
    have hlt : i < (str l).size := by rw [str_size]; exact h1
    have := run_next_any_at (P := Tryd.prog) W w.heap.size (str l) i ty hk hlt
    rw [hd] at this
    exact this)
  have HE : Hid (∀ W (hk : W.heap[w.heap.size]? = some (.stringIter (str l) l.length)) ty, (Instr.next (.pointer (some ⟨w.heap.size, 0, none⟩)) true ty).run Tryd.prog W = .ok (.tuple #[.bool false]) W) := Lib.hid (fun W hk ty => run_next_end_at W w.heap.size (str l) l.length ty hk (by rw [str_size]; exact Nat.lt_irrefl _))
  have HST : Hid (IaR w l (str l) (w.iter (str l) 0)) := Lib.hid ⟨0, World.iter_heap w _ 0, Nat.zero_le _, fun j hj => by omega, (Below.refl _ _).alloc (Nat.le_refl _) _⟩
  have HLO := Lib.hid (fun c (h : c < 128) W => rindex_low c h W)
  have HHI := Lib.hid (fun c (h : 128 ≤ c) (h2 : c ≤ 1114111) W => rindex_high c h h2 W)
  have hq2 : ((⟨#[32, 9]⟩ : ByteArray).toList == ([] : List UInt8)) = false := by rw [toList_data]; rfl
  have hq3 : (⟨#[32, 9]⟩ : ByteArray).size = 2 := rfl
  obtain ⟨n, hnn⟩ : ∃ n, l.length = n := ⟨_, rfl⟩
  have HLN := Lib.hid hnn
  rw [hnn] at hsz hn
  rw [HLN.out] at HE
  have hn8 : ¬ (8 : Int) < (n : Int) := by omega
  clear hnn
  generalize str l = S at *
  generalize (⟨#[32, 9]⟩ : ByteArray) = E at *
  go_enter Tryd.func47, Tryd.ntmps47
  go_wp2_with go_in
  go_loopw [9, 10] (fun _ _ wr => IaR w l S wr) (fun _ _ wr => n - iterPos wr w.heap.size)
  case atStart => exact HST.out
  case round =>
    clear HST
    obtain ⟨p, hp1, hp2, hp3, hp4⟩ := hrel
    have HP := Lib.hid hp1
    have HN := Lib.hid hp3
    have HB := Lib.hid hp4
    have hlt1 : w.heap.size < wr.heap.size := (Array.getElem?_eq_some_iff.1 hp1).1
    have HL1 := Lib.hid hlt1
    rw [HLN.out] at hp2
    clear hp1 hp3 hp4 hlt1
    by_cases hlt : p < n
    · by_cases hx : l.getD p 0 < 128
      · have hnx := HA.out p (by rw [HLN.out]; exact hlt) hx wr HP.out
        have HQ := Lib.hid (iterAt_heap wr w.heap.size S p (p + 1) HP.out)
        have HBQ := Lib.hid (below_iterAt HB.out (Nat.le_refl _) S (p + 1))
        have hbx := bl_idx (l.getD p 0)
        have HLO1 := Lib.hid (HLO.out _ hx)
        have HM : Hid (n - iterPos (wr.iterAt w.heap.size S (p + 1)) w.heap.size < n - iterPos wr w.heap.size) := Lib.hid (by rw [iterPos_at HQ.out, iterPos_at HP.out]; omega)
        cases hb : isBl (l.getD p 0)
        · have hj := hbx.2 hb
          have HF : Hid (IaR w l S (wr.iterAt w.heap.size S (p + 1))) := Lib.hid ⟨p + 1, HQ.out, by rw [HLN.out]; omega, fun j hj => by
            by_cases e : j = p
            · rw [e]; exact hb
            · exact HN.out j (by omega), HBQ.out⟩
          clear hbx hb hx HA HH HD
          generalize l.getD p 0 = x at *
          generalize idxL x [32, 9] = R at *
          have hR : ¬ (0 : Int) ≤ R := by omega
          clear hj
          go_wp2_with fail
          refine (HLO1.out _).mono ?_
          rintro e w1 ⟨rfl, rfl⟩
          go_wp2_with fail
          go_roundw
          case rel => exact HF.out
          case measure => exact HM.out
        · have hj := hbx.1 hb
          have HF : Hid (IaTo l w (.returned (.int .i64 (p : Int))) (wr.iterAt w.heap.size S (p + 1))) := Lib.hid ⟨by rw [idxB_some (by rw [HLN.out]; exact hlt) HN.out hb], HBQ.out⟩
          clear hbx hb hx HA HH HD HM
          generalize l.getD p 0 = x at *
          generalize idxL x [32, 9] = R at *
          go_wp2_with fail
          refine (HLO1.out _).mono ?_
          rintro e w1 ⟨rfl, rfl⟩
          go_wp2_with fail
          go_ret
          exact HF.out
      · obtain ⟨c, k, hd, hc1, hc2, hk1, hk2, hk3⟩ := HD.out p (by rw [HLN.out]; exact hlt) (by omega)
        have hnx := HH.out p (by rw [HLN.out]; exact hlt) c k hd wr HP.out
        have HQ := Lib.hid (iterAt_heap wr w.heap.size S p (p + k) HP.out)
        have HBQ := Lib.hid (below_iterAt HB.out (Nat.le_refl _) S (p + k))
        have HHI1 := Lib.hid (HHI.out c hc1 hc2)
        have HSQ := Lib.hid (iterAt_size wr w.heap.size S (p + k))
        have HN2 : Hid (∀ j, j < p + k → isBl (l.getD j 0) = false) := Lib.hid (fun j hj => by
          by_cases e : j < p
          · exact HN.out j e
          · have := hk3 (j - p) (by omega)
            rw [show p + (j - p) = j by omega] at this
            unfold isBl
            exact decide_eq_false (by omega))
        have HK : Hid (p + k ≤ l.length ∧ p < p + k) := Lib.hid ⟨hk2, by omega⟩
        clear hd hk3 hx HA HH HD hc1 hc2 hk1 hk2
        generalize p + k = q at *
        generalize hW : wr.iterAt w.heap.size S q = W1 at *
        go_wp2_with fail
        refine (HHI1.out _).mono ?_
        rintro e w1 ⟨rfl, hb1⟩
        have HQ1 := Lib.hid ((hb1.block w.heap.size (by rw [HSQ.out]; exact HL1.out)).trans HQ.out)
        have HF : Hid (IaR w l S w1) := Lib.hid ⟨q, HQ1.out, HK.out.1, HN2.out, HBQ.out.trans (hb1.mono HBQ.out.size)⟩
        have HM : Hid (n - iterPos w1 w.heap.size < n - iterPos wr w.heap.size) := Lib.hid (by have := HK.out.2; rw [iterPos_at HQ1.out, iterPos_at HP.out]; omega)
        clear hb1
        go_wp2_with fail
        go_roundw
        case rel => exact HF.out
        case measure => exact HM.out
    · obtain rfl : p = n := by omega
      have hnx := HE.out wr HP.out
      have HF : Hid (IaTo l w (.returned (.int .i64 (-1))) wr) := Lib.hid ⟨by rw [idxB_none (fun j hj => HN.out j (by rw [HLN.out] at hj; exact hj))], HB.out⟩
      go_wp2_with fail
      go_ret
      exact HF.out
theorem indexAny_long (l : List Nat) (hm : ∀ c ∈ l, c < 256) (hn : 8 < l.length) (hn2 : l.length ≤ 1000000) (w : World) :
    Calls Tryd.prog 47 #[.string (str l), .string ⟨#[32, 9]⟩] w (IaTo l w) := by
  have hsz := str_size l
  have hq2 : ((⟨#[32, 9]⟩ : ByteArray).toList == ([] : List UInt8)) = false := by rw [toList_data]; rfl
  have hq3 : (⟨#[32, 9]⟩ : ByteArray).size = 2 := rfl
  have HMK := Lib.hid (mkset_any w)
  have HW := Lib.hid (Below.refl w.heap.size w)
  have HA1 : Hid (Below w.heap.size w (w.alloc (.cells blS 108))) := Lib.hid ((Below.refl _ _).alloc (Nat.le_refl _) _)
  generalize hw1 : (w.alloc (.cells blS 108)) = w1 at *
  have HX2 : Hid ((w1.alloc (.cells blS 108)).heap[w1.heap.size]? = some (.cells blS 108 (0, 0))) := Lib.hid (heap_alloc_new w1 _)
  have HA2 : Hid (Below w.heap.size w (w1.alloc (.cells blS 108))) := Lib.hid (HA1.out.alloc HA1.out.size _)
  have HC : Hid (∀ y, y < 256 → (w1.alloc (.cells blS 108)).cell? ⟨w1.heap.size, y, none⟩ = some (.bool (isBl y))) := Lib.hid (fun y hy => (blk_cell HX2.out y).trans (blS_at hy))
  obtain ⟨zz, hzz⟩ : ∃ zz : Array Value, zz = Array.replicate 256 (.bool false) := ⟨_, rfl⟩
  have hz : (zeroValue 108).run Tryd.prog w1 = .ok (.agg zz) w1 := by rw [hzz]; kernel_rfl
  have HO : Hid (zz.size = blS.size) := Lib.hid (by rw [hzz, blS_size]; simp)
  have HII : Hid ((Tryd.prog.info? 108).map (·.size) = some blS.size) := Lib.hid (by rw [blS_size]; kernel_rfl)
  have HXZ : Hid ((w1.alloc (.cells zz 108)).heap[w1.heap.size]? = some (.cells zz 108 (0, 0))) := Lib.hid (heap_alloc_new w1 _)
  have HSR : Hid ((w1.alloc (.cells zz 108)).setRow w1.heap.size blS = w1.alloc (.cells blS 108)) := Lib.hid (World.setRow_alloc_new _ _ _ _)
  have HB1 := Lib.hid blS_one
  generalize hw2 : (w1.alloc (.cells blS 108)) = w2 at *
  have HM := Lib.hid hm
  have HI := Lib.hid (fun j (h : j < l.length) W => idx_at (getD_lt256 hm) h W)
  have HT := Lib.hid (fun x (hx : x < 256) => hasA_any w1.heap.size x hx w2 HC.out)
  have HLT := Lib.hid (getD_lt256 hm)
  have HNO := Lib.hid (idxB_none (l := l))
  have HSO := Lib.hid (fun p => idxB_some (l := l) (p := p))
  obtain ⟨n, hnn⟩ : ∃ n, l.length = n := ⟨_, rfl⟩
  have HLN := Lib.hid hnn
  rw [hnn] at hsz hn hn2
  have hn8 : (8 : Int) < (n : Int) := by omega
  clear hw1 hw2 hzz hnn hm hn
  generalize str l = S at *
  generalize (⟨#[32, 9]⟩ : ByteArray) = E at *
  generalize blS = BS0 at *
  have HSU : Hid (∀ W, Calls Tryd.prog 72 #[.int .i64 (n : Int)] W fun e w' => e = .returned (.bool true) ∧ W = w') := Lib.hid (fun W => by
    clear hz
    go_enter Tryd.func72, Tryd.ntmps72
    go_wp2
    go_ret
    exact ⟨rfl, rfl⟩)
  go_enter Tryd.func47, Tryd.ntmps47
  go_wp2_with fail
  refine (HSU.out _).mono ?_
  rintro e wq ⟨rfl, rfl⟩
  go_wp2_with fail
  refine HMK.out.mono ?_
  rintro e wq ⟨rfl, hwq⟩
  subst hwq
  go_upto_region 10 with (with_reducible refine wpList_store_row rfl 108 (.tmp 6) (.tmp 30) rfl _ BS0 rfl rfl 108 zz HXZ.out HII.out HO.out HB1.out ?_)
  rw [HSR.out]
  clear hz
  go_wp2_with fail
  go_loopw [8] (fun iv wr => wr = w2 ∧ ∃ p : Nat, iv = .int .i64 (p : Int) ∧ p ≤ n ∧ ∀ j, j < p → isBl (l.getD j 0) = false) (fun iv _ => (n - RowKit.intOf iv).toNat)
  case atStart => exact ⟨rfl, 0, rfl, Nat.zero_le _, fun j hj => by omega⟩
  case round =>
    obtain ⟨rfl, p, rfl, hp, hno⟩ := hrel
    have HN := Lib.hid hno
    clear hno
    by_cases hlt : p < n
    · have hix := HI.out p (by rw [HLN.out]; exact hlt) wr
      have hx := HLT.out p
      have HX := Lib.hid (HT.out _ hx)
      cases hb : isBl (l.getD p 0)
      · have HF : Hid (wr = wr ∧ ∃ q : Nat, Value.int .i64 ((p : Int) + 1) = .int .i64 (q : Int) ∧ q ≤ n ∧ ∀ j, j < q → isBl (l.getD j 0) = false) := Lib.hid ⟨rfl, p + 1, by simp, by omega, fun j hj => by
          by_cases e : j = p
          · rw [e]; exact hb
          · exact HN.out j (by omega)⟩
        rw [hb] at HX
        clear hb
        generalize l.getD p 0 = x at *
        go_wp2_with fail
        refine HX.out.mono ?_
        rintro e w3 ⟨rfl, rfl⟩
        go_wp2_with fail
        go_roundw
        case rel => exact HF.out
        case measure => (simp [RowKit.intOf] <;> omega)
      · have HF : Hid (IaTo l w (.returned (.int .i64 (p : Int))) wr) := Lib.hid ⟨by rw [HSO.out p (by rw [HLN.out]; exact hlt) HN.out hb], HA2.out⟩
        rw [hb] at HX
        clear hb
        generalize l.getD p 0 = x at *
        go_wp2_with fail
        refine HX.out.mono ?_
        rintro e w3 ⟨rfl, rfl⟩
        go_wp2_with fail
        go_ret
        exact HF.out
    · obtain rfl : p = n := by omega
      have HF : Hid (IaTo l w (.returned (.int .i64 (-1))) wr) := Lib.hid ⟨by rw [HNO.out (fun j hj => HN.out j (by rw [HLN.out] at hj; exact hj))], HA2.out⟩
      go_wp2_with fail
      go_ret
      exact HF.out
theorem indexAny_any (l : List Nat) (hm : ∀ c ∈ l, c < 256) (hn2 : l.length ≤ 1000000) (w : World) :
    Calls Tryd.prog 47 #[.string (str l), .string ⟨#[32, 9]⟩] w (IaTo l w) := by
  by_cases h : l.length ≤ 8
  · exact indexAny_short l (getD_lt256 hm) h w
  · exact indexAny_long l hm (by omega) hn2 w
end Go.Proofs.YtcaogiaoabdkdaaDoor
