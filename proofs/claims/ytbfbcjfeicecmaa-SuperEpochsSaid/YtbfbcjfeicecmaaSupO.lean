/-
  Package super: what Block answers; the document's Block.
-/
import Derived.Test.YtbfbcjfeicecmaaSupM
namespace Go.Proofs.Ytbfbcjfeicecmaa
open Go.RowKit Go
set_option linter.unusedVariables false
set_option linter.unusedSimpArgs false
def PadTo (w : World) (L : List Nat) (n : Nat) (e : Ending) (w' : World) : Prop :=
  e = .returned (.slice (some ⟨w.heap.size, 0, none⟩) n n) ∧ Below w.heap.size w w' ∧ ∃ cs : Array Value, w'.heap[w.heap.size]? = some (.cells cs 5 (0, 0)) ∧ ∀ i, i < n → cs[i]? = some (.int .u8 ((L.getD i 0 : Nat) : Int))
set_option maxHeartbeats 400000 in
theorem padW (A : Option Addr) (m c n : Nat) (l : List Nat) (w : World) (hs : BS w w.heap.size A m c l) (hm : m ≤ 1000) (h1 : 1 ≤ n) (hn : n ≤ 65536) :
    Calls Try.prog 62 #[.slice A m c, .int .i64 (n : Int)] w (PadTo w (padL l n) n) := by
  have hmk := make_bytes n (by omega)
  have hcap := hs.cap
  have HS := Lib.hid hs
  clear hs
  have hk : (bvals (l.take (min m n))).length = Nat.min m n := by
    unfold bvals
    rw [List.length_map, List.length_take, HS.out.len]
    show min (min m n) m = min m n
    omega
  have hz : ∀ W : World, (W.alloc (.cells (zeros n) 5)).heap[W.heap.size]? = some (.cells (zeros n).toList.toArray 5 (0, 0)) := fun W => by rw [heap_alloc_new]
  have hp : 0 < (bvals (l.take (min m n))).length → some (⟨w.heap.size, 0, none⟩ : Addr) = some ⟨w.heap.size, 0, none⟩ ∧ ∃ ad, A = some ad ∧ ∀ j v, (bvals (l.take (min m n)))[j]? = some v → (w.alloc (.cells (zeros n) 5)).cell? (ad.add j) = some v := by
    intro h0
    refine ⟨rfl, ?_⟩
    have hm0 : 0 < m := by
      rw [hk] at h0
      have : Nat.min m n ≤ m := Nat.min_le_left _ _
      omega
    obtain ⟨b, o, rfl, hb, hcell⟩ := HS.out.at_ hm0
    refine ⟨_, rfl, fun j v hj => ?_⟩
    have hj1 : j < (bvals (l.take (min m n))).length := by
      rcases Nat.lt_or_ge j (bvals (l.take (min m n))).length with h | h
      · exact h
      · rw [List.getElem?_eq_none h] at hj; cases hj
    rw [hk] at hj1
    have h2 : Nat.min m n ≤ m := Nat.min_le_left _ _
    have hlen := HS.out.len
    rw [Go.WideShapes.add_plain, ((Below.refl w.heap.size w).alloc (Nat.le_refl _) _).cell (p := ⟨b, o + j, none⟩) hb, hcell j (by omega)]
    rw [← hj]
    have h3 : j < min m n := hj1
    simp [bvals, List.getElem?_map, List.getElem?_take_of_lt h3, List.getElem?_eq_getElem (show j < l.length by omega), List.getD]
  have HK := Lib.hid hk
  have HP := Lib.hid hp
  have HZ := Lib.hid hz
  have H1 : ∀ v ∈ bvals (l.take (min m n)), v.oneCell' = true := by
    intro v hv
    obtain ⟨x, _, rfl⟩ := List.mem_map.mp hv
    rfl
  have hfit : 0 + (bvals (l.take (min m n))).length ≤ (zeros n).toList.length := by
    have : Nat.min m n ≤ n := Nat.min_le_right _ _
    rw [hk]
    simp [zeros]
    exact this
  have HO := Lib.hid H1
  have HFi := Lib.hid hfit
  clear hk hp hz H1 hfit
  go_enter Try.func62, Try.ntmps62
  go_wp2_with (with_reducible refine wpList_copy_splice rfl (.tmp 14) (.tmp 15) 24 24 rfl 5 Try.underlying24 (by kernel_rfl) _ A n n m c rfl rfl w.heap.size 0 (zeros n).toList 5 (HZ.out _) (bvals (l.take (min m n))) HK.out HP.out HFi.out HO.out w.heap.size w ((Below.refl _ _).alloc (Nat.le_refl _) _) (Nat.le_refl _) ?_)
  intro w2 hw2 hb2
  have H : PadTo w (padL l n) n (.returned (.slice (some ⟨w.heap.size, 0, none⟩) n n)) w2 := ⟨rfl, hb2, _, hw2.out, fun i hi => pad_cells HS.out.len i hi⟩
  have HH := Lib.hid H
  clear H hw2 hb2
  go_wp2
  go_ret
  exact HH.out
theorem padW256 (A : Option Addr) (m c : Nat) (L : List Nat) (W : World) (h : BS W W.heap.size A m c L) (hm : m ≤ 256) :
    Calls Try.prog 62 #[.slice A m c, .int .i64 256] W (PadTo W (padL L 256) 256) := padW A m c 256 L W h (by omega) (by omega) (by omega)
def BlkTo (B : Nat) (w : World) (l : List Nat) (e : Ending) (w' : World) : Prop := ∃ v, e = .returned v ∧ Below B w w' ∧ BkI w' l v
set_option maxHeartbeats 1000000 in
theorem blockW (B n g o c : Nat) (h1 : 1 ≤ n) (h8 : n ≤ 8) (v : Value) (l0 l : List Nat) (hl64 : ∀ i, l.getD i 0 < 2 ^ 64) (w : World) (hB : B ≤ w.heap.size) (hown : OwnF w B v l0) (hl0 : ∀ i, l0.getD i 0 < 256)
    (hU : UR w g o l) (hlen : l0.length + n * l.length ≤ 256) :
    Calls Try.prog 37 #[v, .int .i64 (n : Int), .slice (some ⟨g, o, none⟩) l.length c] w (BlkTo B w (padL (l0 ++ blkL n l) 256)) := by
  have HR : Hid (BlkRel w B g o n l0 l v (.int .i64 0) w) := Lib.hid ⟨0, rfl, by omega, by simpa [blkL] using hown, Below.refl _ _, hU⟩
  have HLN := Lib.hid (fun k (hk : k ≤ l.length) => (by
    rw [List.length_append, blkL_len, List.length_take, Nat.min_eq_left hk]
    have : n * k ≤ n * l.length := Nat.mul_le_mul_left n hk
    omega : (l0 ++ blkL n (l.take k)).length ≤ 256))
  have HBY := Lib.hid (fun k => app_byte hl0 (blkL_byte n (l.take k)))
  have HB := Lib.hid hB
  have HN := Lib.hid hlen
  clear hown hU hlen
  have hlen9 : l.length ≤ 256 := by
    have h := HN.out
    have : 1 * l.length ≤ n * l.length := Nat.mul_le_mul_right _ h1
    omega
  go_enter Try.func37, Try.ntmps37
  go_wp2
  go_loopw [0, 11] (fun v i wr => BlkRel w B g o n l0 l v i wr) (fun _ i _ => (l.length - intOf i).toNat)
  case atStart => exact HR.out
  case round =>
    clear HR
    obtain ⟨k, rfl, hk, hown, hb, hu⟩ := hrel
    by_cases hlt : k < l.length
    · have hcell := hu.cell hlt
      have HU := Lib.hid hu
      have HO := Lib.hid hown
      have HBW := Lib.hid hb
      have hv := hl64 k
      have HS := Lib.hid (blkL_step n hlt)
      clear hu hown hb
      have hln := HLN.out k hk
      generalize l.getD k 0 = x at *
      go_wp2_with fail
      refine (put_yes n x h1 h8 hv _).mono ?_
      rintro e w1 ⟨A1, c1, rfl, hb1, hx1⟩
      have hown1 := HO.out.below hb1
      have hu1 := HU.out.below hb1
      have hB1 : B ≤ w1.heap.size := Nat.le_trans (Nat.le_trans HB.out HBW.out.size) hb1.size
      have hbB1 := HBW.out.trans (hb1.mono (Nat.le_trans HB.out HBW.out.size))
      rw [putL_len] at hx1
      have HLP := Lib.hid (putL_len n x)
      go_wp2_with (refine wp_appsF _ rfl _ _ rfl B _ _ rfl hown1 _ _ _ _ _ (by rw [HLP.out]; rfl) hx1 (by omega) (by omega) hB1 ?_; intro v' w2 hown2 hb2 hg2)
      have HF : Hid (BlkRel w B g o n l0 l v' (.int .i64 ((k : Int) + 1)) w2) := Lib.hid ⟨k + 1, rfl, by omega, by rw [HS.out, ← List.append_assoc]; exact .inl hown2, hbB1.trans hb2, hg2 _ _ _ hu1⟩
      go_wp2
      go_roundw
      case rel => exact HF.out
      case measure => simp [intOf]; omega
    · obtain rfl : k = l.length := by omega
      have hln := HLN.out l.length (Nat.le_refl _)
      have hby := HBY.out l.length
      rw [List.take_length] at hln hby hown
      obtain ⟨A, c', rfl, hbs⟩ := hown.bs hby
      have HBW := Lib.hid hb
      clear hb hu hown
      generalize l0 ++ blkL n l = L at *
      go_wp2_with fail
      refine (padW256 A _ c' L _ hbs hln).mono ?_
      rintro e w1 ⟨rfl, hb1, cs, hx1, hx2⟩
      have HF : Hid (BlkTo B w (padL L 256) (.returned (.slice (some ⟨wr.heap.size, 0, none⟩) 256 256)) w1) := Lib.hid ⟨_, rfl, HBW.out.trans (hb1.mono (Nat.le_trans HB.out HBW.out.size)), _, cs, rfl, hx1, hx2, padL_len _ _, padL_byte hby _⟩
      clear hbs hb1 hx1 hx2
      go_wp2
      go_ret
      exact HF.out
/-! lists -/
theorem blkL_at (m : List Nat) (i : Nat) : (blkL 8 m).getD i 0 = m.getD (i / 8) 0 / 256 ^ (i % 8) % 256 := by
  induction m generalizing i with
  | nil => simp [blkL]
  | cons a m ih =>
    unfold blkL at *
    rw [List.flatMap_cons, List.getD_eq_getElem?_getD]
    have hl : (putL 8 a).length = 8 := putL_len 8 a
    by_cases h : i < 8
    · rw [List.getElem?_append_left (by omega), ← List.getD_eq_getElem?_getD, putL_at, if_pos h, Nat.div_eq_of_lt h, Nat.mod_eq_of_lt h]
      rfl
    · rw [List.getElem?_append_right (by omega), ← List.getD_eq_getElem?_getD, hl, ih, show i / 8 = (i - 8) / 8 + 1 by omega, show i % 8 = (i - 8) % 8 by omega]
      simp
theorem list_ext {l m : List Nat} (hl : l.length = m.length) (h : ∀ i, i < l.length → l.getD i 0 = m.getD i 0) : l = m := by
  apply List.ext_getElem hl
  intro i h1 h2
  have := h i h1
  simpa [List.getD, List.getElem?_eq_getElem h1, List.getElem?_eq_getElem h2] using this
/-- epoch block k of the epochs l -/
def epL (l : List Nat) (k : Nat) : List Nat := padL (blkL 8 ((l.drop (32 * k)).take 32)) 256
theorem sub_at (l : List Nat) (k j : Nat) : ((l.drop (32 * k)).take 32).getD j 0 = if j < 32 then l.getD (32 * k + j) 0 else 0 := by
  by_cases h : j < 32
  · rw [if_pos h]; simp [List.getD, List.getElem?_take_of_lt h, List.getElem?_drop]
  · rw [if_neg h]
    have : ((l.drop (32 * k)).take 32)[j]? = none := by rw [List.getElem?_eq_none]; rw [List.length_take]; omega
    rw [List.getD_eq_getElem?_getD, this]; rfl
theorem epL_at (l : List Nat) (k i : Nat) (hi : i < 256) : (epL l k).getD i 0 = l.getD (32 * k + i / 8) 0 / 256 ^ (i % 8) % 256 := by
  unfold epL
  rw [padL_at, if_pos hi, blkL_at, sub_at, if_pos (by omega)]
theorem epL_len (l : List Nat) (k : Nat) : (epL l k).length = 256 := padL_len _ _
theorem ep_ref (l : List Nat) (k : Nat) : blkL 8 ((List.range 32).map fun j => l.getD (32 * k + j) 0) = epL l k := by
  refine list_ext (by rw [blkL_len, epL_len, List.length_map, List.length_range]) fun i hi => ?_
  rw [blkL_len, List.length_map, List.length_range] at hi
  rw [blkL_at, epL_at l k i (by omega), getD_map_range, if_pos (by omega)]
theorem ep_num (l : List Nat) (k r : Nat) (hr : r < 32) : ((epL l k).drop (8 * r)).take 8 = putL 8 (l.getD (32 * k + r) 0) := by
  refine list_ext (by rw [List.length_take, List.length_drop, epL_len, putL_len]; omega) fun i hi => ?_
  rw [List.length_take, List.length_drop, epL_len] at hi
  have h8 : i < 8 := by omega
  have e : (((epL l k).drop (8 * r)).take 8).getD i 0 = (epL l k).getD (8 * r + i) 0 := by simp [List.getD, List.getElem?_take_of_lt h8, List.getElem?_drop]
  rw [e, epL_at l k _ (by omega), putL_at, if_pos h8, show (8 * r + i) / 8 = r by omega, show (8 * r + i) % 8 = i by omega]
end Go.Proofs.Ytbfbcjfeicecmaa
