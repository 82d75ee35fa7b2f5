/-
  logf: chapter 14's example.
-/
import Derived.Test.YtnalebocfbbpdaaLgK
namespace Go.Proofs.Ytnalebocfbbpdaa
open Go.RowKit Go
set_option linter.unusedVariables false
set_option linter.unusedSimpArgs false
set_option maxRecDepth 100000
def z256 : List Nat := List.replicate 256 0
def es5 : List (Int × List Nat) := [(5, z256)]
theorem z256_byte (i : Nat) : z256.getD i 0 < 256 := by
  unfold z256
  rw [List.getD_eq_getElem?_getD, List.getElem?_replicate]
  split <;> decide
theorem zeros_at2 {n i : Nat} (h : i < n) : (zeros n)[i]? = some (.int .u8 (((List.replicate n 0).getD i 0 : Nat) : Int)) := by
  unfold zeros
  rw [List.getD_eq_getElem?_getD, List.getElem?_replicate, if_pos h]
  simp [h]
theorem may5 : MayL 4 (Geo.se 9) es5 := by
  refine ⟨by decide, by decide, fun i hi => ?_⟩
  obtain rfl : i = 0 := by simp [es5] at hi; exact hi
  have h1 : kAt es5 0 = 5 := rfl
  have h2 : (dAt es5 0).length = 256 := by show z256.length = 256; unfold z256; simp
  have h3 : (5 : Int) < (Geo.se 9 : Int) := by decide
  unfold MisAt Mis
  rw [h1, h2, show prevK es5 0 = -1 from rfl]
  omega
theorem head5 : str ((headL 3 es5).take 21) = { data := #[82, 69, 68, 79, 45, 76, 79, 71, 3, 0, 0, 0, 0, 0, 0, 0, 1, 0, 5, 0, 0] } := by kernel_rfl
theorem head_len (cnt : Nat) (es : List (Int × List Nat)) : (headL cnt es).length = 256 := padL_len _ _
set_option maxHeartbeats 4000000 in
theorem awake14_any (w : World) : Calls Try.prog 11 #[] w fun e w' => e = .returned (.bool true) ∧ Below w.heap.size w w' := by
  have hmk : ∀ W : World, (Instr.makeSlice 42 (.int .i64 256) (.int .i64 256)).run Try.prog W = .ok (.slice (some ⟨W.heap.size, 0, none⟩) 256 256) (W.alloc (.cells (zeros 256) 5)) := make_bytes 256 (by omega)
  obtain ⟨W3, hW⟩ : ∃ W3, W3 = ((w.alloc (.cells (zeros 256) 5)).alloc (.cells #[.int .i64 5, .slice (some ⟨w.heap.size, 0, none⟩) 256 256] 58)).alloc (.cells #[.int .u64 3, .slice (some ⟨w.heap.size + 1, 0, none⟩) 1 1] 35) := ⟨_, rfl⟩
  have hx0 : W3.heap[w.heap.size]? = some (.cells (zeros 256) 5 (0, 0)) := by rw [hW]; exact blk_alloc (blk_alloc (heap_alloc_new w _) _) _
  have hx1 : W3.heap[w.heap.size + 1]? = some (.cells #[.int .i64 5, .slice (some ⟨w.heap.size, 0, none⟩) 256 256] 58 (0, 0)) := by
    have := blk_alloc (heap_alloc_new (w.alloc (.cells (zeros 256) 5)) (.cells #[.int .i64 5, .slice (some ⟨w.heap.size, 0, none⟩) 256 256] 58)) (.cells #[.int .u64 3, .slice (some ⟨w.heap.size + 1, 0, none⟩) 1 1] 35)
    rw [show (w.alloc (.cells (zeros 256) 5)).heap.size = w.heap.size + 1 by simp, ← hW] at this
    exact this
  have hx2 : W3.heap[w.heap.size + 2]? = some (.cells #[.int .u64 3, .slice (some ⟨w.heap.size + 1, 0, none⟩) 1 1] 35 (0, 0)) := by
    have := heap_alloc_new ((w.alloc (.cells (zeros 256) 5)).alloc (.cells #[.int .i64 5, .slice (some ⟨w.heap.size, 0, none⟩) 256 256] 58)) (.cells #[.int .u64 3, .slice (some ⟨w.heap.size + 1, 0, none⟩) 1 1] 35)
    rw [show ((w.alloc (.cells (zeros 256) 5)).alloc (.cells #[.int .i64 5, .slice (some ⟨w.heap.size, 0, none⟩) 256 256] 58)).heap.size = w.heap.size + 2 by simp, ← hW] at this
    exact this
  have hb3 : Below w.heap.size w W3 := by rw [hW]; exact (((Below.refl _ _).alloc (Nat.le_refl _) _).alloc (by simp) _).alloc (by simp; omega) _
  have hz : BS W3 W3.heap.size (some ⟨w.heap.size, 0, none⟩) 256 256 z256 := BS.of_blk hx0 (blk_lt hx0) (by unfold z256; simp) (Nat.le_refl _) (by omega) z256_byte (fun i hi => zeros_at2 hi)
  have hE : EsB W3 (w.heap.size + 1) 0 es5 := ⟨blk_lt hx1, fun i hi => by
    obtain rfl : i = 0 := by simp [es5] at hi; exact hi
    exact ⟨some ⟨w.heap.size, 0, none⟩, 256, blk_cell hx1 0, blk_cell hx1 1, hz⟩⟩
  have HENC : Hid (Calls Try.prog 6 #[.agg #[.int .i64 9, .int .i64 4], .agg #[.int .u64 3, .slice (some ⟨w.heap.size + 1, 0, none⟩) 1 1]] W3 (EncTo W3 3 es5)) := Lib.hid (encode_yes 9 4 3 (w.heap.size + 1) 0 1 es5 (by omega) (by unfold Geo.May; omega) may5 (by decide) W3 hE)
  have HSIZE : Hid (∀ W, Calls Try.prog 10 #[.agg #[.int .u64 3, .slice (some ⟨w.heap.size + 1, 0, none⟩) 1 1]] W fun e w' => e = .returned (.int .i64 2) ∧ Below W.heap.size W w') := Lib.hid (fun W => lsize_any 3 1 1 (some ⟨w.heap.size + 1, 0, none⟩) (by omega) W)
  have HB3 := Lib.hid hb3
  have HX2 := Lib.hid hx2
  have HW := Lib.hid hW
  clear hx0 hx1 hx2 hb3 hz hE hW
  go_enter Try.func11, Try.ntmps11
  go_wp2_with fail
  rw [← HW.out]
  clear hmk HW
  refine HENC.out.mono ?_
  rintro e w4 ⟨v4, rfl, hbr, hb4⟩
  have hX4 := (hb4.block _ (blk_lt HX2.out)).trans HX2.out
  have k0 : w4.cell? ⟨w.heap.size + 2, 0, none⟩ = some (.int .u64 3) := blk_cell hX4 0
  have k1 : w4.cell? ⟨w.heap.size + 2, 1, none⟩ = some (.slice (some ⟨w.heap.size + 1, 0, none⟩) 1 1) := blk_cell hX4 1
  have HB4 := Lib.hid (HB3.out.trans (hb4.mono HB3.out.size))
  obtain ⟨g, cap, rfl, hcap, hcap2, _, hat⟩ := hbr.at_ (by decide)
  obtain ⟨A0, c0, q0, q1⟩ := hat 0 (by decide)
  have hl0 : (blksL 3 es5 es5.length).getD 0 [] = headL 3 es5 := rfl
  have hl1 : (blksL 3 es5 es5.length).length = 2 := rfl
  rw [hl0, head_len] at q0 q1
  rw [hl1] at hcap ⊢
  have hc21 : 21 ≤ c0 := by have := q1.cap.1; omega
  have hc21i : (21 : Int) ≤ (c0 : Int) := by omega
  have hcv : (convert 42 9 (.slice A0 21 c0)).run Try.prog w4 = .ok (.string { data := #[82, 69, 68, 79, 45, 76, 79, 71, 3, 0, 0, 0, 0, 0, 0, 0, 1, 0, 5, 0, 0] }) w4 := by
    rw [← head5]
    exact (q1.take (k := 21) (by omega)).conv 42 5 9 Try.underlying42 Try.underlying5 Try.underlying9
  clear hbr hb4 hat hl0 hl1 hX4 q1
  go_wp2_with fail
  refine (HSIZE.out w4).mono ?_
  rintro e w5 ⟨rfl, hb5⟩
  have HB5 := Lib.hid (HB4.out.trans (hb5.mono HB4.out.size))
  clear hb5
  go_wp2
  go_ret
  exact ⟨rfl, HB5.out⟩
end Go.Proofs.Ytnalebocfbbpdaa
