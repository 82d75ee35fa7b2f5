/-
  The document's Parse of a log.
-/
import Derived.Test.YtnalebocfbbpdaaLgYb
import Derived.Test.YtnalebocfbbpdaaStr
namespace Go.Proofs.Ytnalebocfbbpdaa
open Go.RowKit Go Go.Deep
set_option linter.unusedVariables false
set_option linter.unusedSimpArgs false
set_option maxRecDepth 100000
theorem get_at {w : World} {B bb oo c : Nat} {b : List Nat} (h : BS w B (some ⟨bb, oo, none⟩) 256 c b) (s m : Nat) (h1 : 1 ≤ m) (h8 : m ≤ 8) (hs : s + m ≤ 256) (W : World) (hW : Below B w W) :
    Calls Try.prog 32 #[.slice (some ⟨bb, oo + s, none⟩) m (c - s)] W fun e w' => e = .returned (.int .u64 ((num ((b.drop s).take m) : Nat) : Int)) ∧ W = w' := by
  have hd := ((h.below hW).drop (k := s) (by omega)).take (k := m) (by omega)
  have hc := h.cap.1
  rw [if_neg (by omega)] at hd
  have e : (some (⟨bb, oo, none⟩ : Addr)).map (·.add s) = some ⟨bb, oo + s, none⟩ := by simp [Go.WideShapes.add_plain]
  rw [e] at hd
  have := refGet_any _ _ _ _ W B hd
  rw [List.take_take, Nat.min_eq_right h8] at this
  exact this
def RPT (w : World) (p t : Int) (tn : Nat) (Ls : List (List Nat)) (e : Ending) (w' : World) : Prop :=
  ∃ (x : Nat) (es : List (Int × List Nat)) (A : Option Addr) (m c : Nat) (ok : Bool), e = .returned (.tuple #[.agg #[.int .u64 (x : Int), .slice A m c], .bool ok]) ∧ Below w.heap.size w w' ∧ EsV w' A m es ∧ EsZ w' A m ∧
    ((MayG p t (readL (Ls.getD 0 []) Ls tn) ∧ headL (numAt (Ls.getD 0 []) 8 8) (readL (Ls.getD 0 []) Ls tn) = Ls.getD 0 [] ∧ x = numAt (Ls.getD 0 []) 8 8 ∧ es = readL (Ls.getD 0 []) Ls tn ∧ ok = true) ∨
     (¬ (MayG p t (readL (Ls.getD 0 []) Ls tn) ∧ headL (numAt (Ls.getD 0 []) 8 8) (readL (Ls.getD 0 []) Ls tn) = Ls.getD 0 []) ∧ x = 0 ∧ es = [] ∧ ok = false))
def RPQ (w : World) (p t : Nat) (F : List Nat) (Ls : List (List Nat)) (e : Ending) (w' : World) : Prop :=
  ∃ (x : Nat) (es : List (Int × List Nat)) (A : Option Addr) (m c : Nat) (ok : Bool), e = .returned (.tuple #[.agg #[.int .u64 (x : Int), .slice A m c], .bool ok]) ∧ Below w.heap.size w w' ∧ EsV w' A m es ∧ EsZ w' A m ∧
    ((MayG p t (readL F Ls t) ∧ headL (numAt F 8 8) (readL F Ls t) = F ∧ x = numAt F 8 8 ∧ es = readL F Ls t ∧ ok = true) ∨
     (¬ (MayG p t (readL F Ls t) ∧ headL (numAt F 8 8) (readL F Ls t) = F) ∧ x = 0 ∧ es = [] ∧ ok = false))
def RpR (w : World) (p t : Int) (b : Nat) (F : List Nat) (Ls : List (List Nat)) (cnt many : Nat) (iv : Value) (wr : World) : Prop :=
  ∃ (k : Nat) (v : Value), iv = .int .i64 (k : Int) ∧ k ≤ many ∧ wr.heap[w.heap.size]? = some (.cells #[.int .i64 p, .int .i64 t] 23 (0, 0)) ∧ LgB wr (w.heap.size + 1) 27 0 (.slice none 0 0) ∧ LgB wr b 27 cnt v ∧ EnO 55 wr w.heap.size (b + 1) v (readE F Ls k) ∧ Below w.heap.size w wr ∧ b + 1 ≤ wr.heap.size
theorem mayG_one {p t : Int} {F : List Nat} {Ls : List (List Nat)} {tn : Nat} (h : MayG p t (readL F Ls tn)) : ¬ numAt F 16 2 < 1 ∧ ¬ tn < numAt F 16 2 := by
  have := h.2.1
  unfold readL at this
  split at this
  · simp at this
  · rw [readE_len] at this; exact ⟨by omega, by omega⟩
set_option maxHeartbeats 8000000 in
theorem rparse14_any (p t gB cap : Nat) (Ls : List (List Nat)) (hg : Geo.May p t) (hLs : Ls.length = t + 1) (hcap : t + 1 ≤ cap) (hcap9 : cap ≤ 9223372036854775807) (h256 : ∀ i, i < Ls.length → (Ls.getD i []).length = 256) (w : World) (hblk : Blk w gB Ls) :
    Calls Try.prog 18 #[.agg #[.int .i64 (p : Int), .int .i64 (t : Int)], .slice (some ⟨gB, 0, none⟩) (t + 1) cap] w (RPT w p t t Ls) := by
  have ht24 : t ≤ 24 := by unfold Geo.May at hg; omega
  obtain ⟨F, hF⟩ : ∃ F, F = Ls.getD 0 [] := ⟨_, rfl⟩
  obtain ⟨A1, c1, k1, k2⟩ := hblk.2 0 (by omega)
  have hFl : F.length = 256 := by rw [hF]; exact h256 0 (by omega)
  rw [← hF, hFl] at k1 k2
  obtain ⟨bb, oo, rfl⟩ : ∃ bb oo, A1 = some ⟨bb, oo, none⟩ := by
    obtain ⟨bb, oo, e, _⟩ := k2.at_ (by omega)
    exact ⟨bb, oo, e⟩
  have hFb := k2.byte
  have hc1 := k2.cap.1
  have hc19 := k2.cap.2
  obtain ⟨W0, hW⟩ : ∃ W0, W0 = (w.alloc (.cells #[.int .i64 (p : Int), .int .i64 (t : Int)] 23)).alloc (.cells #[.int .u64 0, .slice none 0 0] 27) := ⟨_, rfl⟩
  have hb0 : Below w.heap.size w W0 := by rw [hW]; exact ((Below.refl _ _).alloc (Nat.le_refl _) _).alloc (by simp) _
  have s0 : W0.heap.size = w.heap.size + 1 + 1 := by rw [hW]; simp
  have hx0 : W0.heap[w.heap.size]? = some (.cells #[.int .i64 (p : Int), .int .i64 (t : Int)] 23 (0, 0)) := by rw [hW]; exact blk_alloc (heap_alloc_new w _) _
  have hx1 : LgB W0 (w.heap.size + 1) 27 0 (.slice none 0 0) := by
    have := heap_alloc_new (w.alloc (.cells #[.int .i64 (p : Int), .int .i64 (t : Int)] 23)) (.cells #[.int .u64 0, .slice none 0 0] 27)
    rw [show (w.alloc (.cells #[.int .i64 (p : Int), .int .i64 (t : Int)] 23)).heap.size = w.heap.size + 1 by simp, ← hW] at this
    exact this
  have HI : Hid ((Try.prog.info? 23).map (·.size) = some (#[Value.int .i64 (p : Int), Value.int .i64 (t : Int)] : Array Value).size) := Lib.hid (info_geo2 p t)
  have HGT : Hid (∀ s m, 1 ≤ m → m ≤ 8 → s + m ≤ 256 → ∀ W, Below w.heap.size w W → Calls Try.prog 32 #[.slice (some ⟨bb, oo + s, none⟩) m (c1 - s)] W fun e w' => e = .returned (.int .u64 ((numAt F s m : Nat) : Int)) ∧ W = w') := Lib.hid (fun s m h1 h8 hs W hW => get_at k2 s m h1 h8 hs W hW)
  have HB0 := Lib.hid hb0
  have HS0 := Lib.hid s0
  have HX0 := Lib.hid hx0
  have HX1 := Lib.hid hx1
  have HBLK := Lib.hid hblk
  have HLS := Lib.hid hLs
  have H256 := Lib.hid h256
  have HGM := Lib.hid hg
  have HFL := Lib.hid hFl
  have HFB := Lib.hid hFb
  have HK1 : Hid (∀ W, Below w.heap.size w W → W.cell? ⟨gB, 0, none⟩ = some (.slice (some ⟨bb, oo, none⟩) 256 c1)) := Lib.hid (fun W h => (h.cell (p := ⟨gB, 0, none⟩) hblk.1).trans k1)
  have HK2 := Lib.hid k2
  have hm : numAt F 16 2 < 65536 := numAt_lt hFb 16 2
  have hwm : IntKind.i64.wrap ((numAt F 16 2 : Nat) : Int) = ((numAt F 16 2 : Nat) : Int) := by unfold IntKind.wrap; simp [IntKind.signed, IntKind.bits]; omega
  have HM1 : Hid (numAt F 16 2 < 1 ∨ t < numAt F 16 2 → ¬ MayG p t (readL F Ls t)) := Lib.hid (fun h g => by have := mayG_one g; omega)
  have HRL : Hid (numAt F 16 2 ≤ t → readL F Ls t = readE F Ls (numAt F 16 2)) := Lib.hid (fun h => by unfold readL; rw [if_neg (by omega)])
  have HKB : Hid (∀ k, 0 ≤ readK F k ∧ readK F k < 65536) := Lib.hid (fun k => ⟨by unfold readK; omega, by unfold readK; have := numAt_lt hFb (18 + 2 * k) 2; omega⟩)
  have HCL : Hid (numAt F 8 8 < 2 ^ 64) := Lib.hid (by have := numAt_lt hFb 8 8; omega)
  have HFE := Lib.hid hF
  have HW := Lib.hid hW
  have hg1 : (1 : Int) ≤ (t : Int) + 1 := by omega
  show Calls _ _ _ _ (RPT w p t t Ls)
  rw [show RPT w p t t Ls = RPQ w p t F Ls by unfold RPT RPQ; rw [← hF]]
  clear hb0 s0 hx0 hx1 hblk hLs h256 hg hFl hFb hW k1 k2 hF
  generalize hMM : numAt F 16 2 = many at *
  have HMM := Lib.hid hMM
  clear hMM
  generalize hCC : numAt F 8 8 = cnt at *
  have HCC := Lib.hid hCC
  clear hCC
  have y0 := HK1.out W0 HB0.out
  rw [HW.out] at y0
  go_enter Try.func18, Try.ntmps18
  go_wp2_with fail
  rw [← HW.out]
  refine (HGT.out 8 8 (by omega) (by omega) (by omega) W0 HB0.out).mono ?_
  rintro e w1 ⟨rfl, rfl⟩
  rw [HCC.out]
  have HA4 : Hid (Below W0.heap.size W0 (W0.alloc (.cells #[.int .u64 (cnt : Int), .slice none 0 0] 27))) := Lib.hid ((Below.refl _ _).alloc (Nat.le_refl _) _)
  have HB4 := Lib.hid (HB0.out.trans (HA4.out.mono HB0.out.size))
  have HX4 : Hid (LgB (W0.alloc (.cells #[.int .u64 (cnt : Int), .slice none 0 0] 27)) W0.heap.size 27 cnt (.slice none 0 0)) := Lib.hid (LgB.new W0 27 cnt (.slice none 0 0))
  have HZ4 : Hid ((W0.alloc (.cells #[.int .u64 (cnt : Int), .slice none 0 0] 27)).heap.size = W0.heap.size + 1) := Lib.hid (by simp)
  have y1 := HK1.out (W0.alloc (.cells #[.int .u64 (cnt : Int), .slice none 0 0] 27)) HB4.out
  clear y0
  go_wp2_with fail
  have HGW := Lib.hid ((HA4.out.block _ (blk_lt HX0.out)).trans HX0.out)
  have HRW : Hid (LgB (W0.alloc (.cells #[.int .u64 (cnt : Int), .slice none 0 0] 27)) (w.heap.size + 1) 27 0 (.slice none 0 0)) := Lib.hid ((HA4.out.block _ (blk_lt HX1.out)).trans HX1.out)
  generalize W0.alloc (.cells #[.int .u64 (cnt : Int), .slice none 0 0] 27) = W4 at *
  obtain ⟨b, hb⟩ : ∃ b, b = W0.heap.size := ⟨_, rfl⟩
  have HBS : Hid (b = w.heap.size + 1 + 1) := Lib.hid (hb.trans HS0.out)
  rw [← hb] at HX4 HZ4 ⊢
  clear hb
  refine (HGT.out 16 2 (by omega) (by omega) (by omega) W4 HB4.out).mono ?_
  rintro e w1 ⟨rfl, rfl⟩
  rw [HMM.out]
  have gt : W4.cell? ⟨w.heap.size, 1, none⟩ = some (.int .i64 (t : Int)) := blk_cell HGW.out 1
  clear y1 HX0 HX1 HA4 HW HB0 HS0
  clear W0
  by_cases h1 : many < 1 ∨ t < many
  · have HN := Lib.hid (HM1.out h1)
    have h1i : (many : Int) < 1 ∨ (t : Int) < (many : Int) := by omega
    by_cases h2 : (many : Int) < 1
    · skip
      have hn0 : ¬ (MayG p t (readL F Ls t) ∧ headL cnt (readL F Ls t) = F) := fun h => HN.out h.1
      have HN0 := Lib.hid hn0
      clear hn0
      have hR : W4.heap[w.heap.size + 1]? = some (.cells #[.int .u64 0, .slice none 0 0] 27 (0, 0)) := HRW.out
      have HRX := Lib.hid hR
      have dd0 : W4.cell? ⟨w.heap.size + 1, 0, none⟩ = some (.int .u64 0) := blk_cell hR 0
      have dd1 : W4.cell? ⟨w.heap.size + 1, 1, none⟩ = some (.slice none 0 0) := blk_cell hR 1
      have ff0 := blk_free hR 0
      have ff1 := blk_free hR 1
      have HFX : Hid (((W4.setCell ⟨w.heap.size + 1, 0, none⟩ (.int .u64 0)).setCell ⟨w.heap.size + 1, 1, none⟩ (.slice none 0 0)).heap[w.heap.size + 1]? = some (.cells #[.int .u64 0, .slice none 0 0] 27 (0, 0))) := Lib.hid (by
        have h := blk_set (blk_set hR 0 (.int .u64 0)) 1 (.slice none 0 0)
        simpa using h)
      have HIL : Hid ((Try.prog.info? 27).map (·.size) = some (#[.int .u64 0, .slice none 0 0] : Array Value).size) := Lib.hid (by rw [show (#[.int .u64 0, .slice none 0 0] : Array Value).size = 2 from rfl]; kernel_rfl)
      have HBFX : Hid (Below w.heap.size w ((W4.setCell ⟨w.heap.size + 1, 0, none⟩ (.int .u64 0)).setCell ⟨w.heap.size + 1, 1, none⟩ (.slice none 0 0))) := Lib.hid (((HB4.out).setCell (p := ⟨w.heap.size + 1, 0, none⟩) (by show w.heap.size ≤ w.heap.size + 1; omega) _).setCell (p := ⟨w.heap.size + 1, 1, none⟩) (by show w.heap.size ≤ w.heap.size + 1; omega) _)
      have HF := Lib.hid (show RPQ w p t F Ls (.returned (.tuple #[.agg #[.int .u64 0, .slice none 0 0], .bool false])) ((W4.setCell ⟨w.heap.size + 1, 0, none⟩ (.int .u64 0)).setCell ⟨w.heap.size + 1, 1, none⟩ (.slice none 0 0)) from ⟨0, [], none, 0, 0, false, rfl, HBFX.out, ⟨rfl, fun h => absurd h (by omega)⟩, fun b o e => (by cases e), .inr ⟨by rw [HCC.out]; exact HN0.out, rfl, rfl, rfl⟩⟩)
      clear hR
      go_wp2
      exact bodyPost_ret (v := .tuple #[.agg #[.int .u64 0, .slice none 0 0], .bool false]) (results_row_num rfl _ _ _ 27 _ (0, 0) _ _ rfl rfl HFX.out Try.underlying27 rfl HIL.out) rfl HF.out
    · have h3 : (t : Int) < (many : Int) := by omega
      have hn0 : ¬ (MayG p t (readL F Ls t) ∧ headL cnt (readL F Ls t) = F) := fun h => HN.out h.1
      have HN0 := Lib.hid hn0
      clear hn0
      have hR : W4.heap[w.heap.size + 1]? = some (.cells #[.int .u64 0, .slice none 0 0] 27 (0, 0)) := HRW.out
      have HRX := Lib.hid hR
      have dd0 : W4.cell? ⟨w.heap.size + 1, 0, none⟩ = some (.int .u64 0) := blk_cell hR 0
      have dd1 : W4.cell? ⟨w.heap.size + 1, 1, none⟩ = some (.slice none 0 0) := blk_cell hR 1
      have ff0 := blk_free hR 0
      have ff1 := blk_free hR 1
      have HFX : Hid (((W4.setCell ⟨w.heap.size + 1, 0, none⟩ (.int .u64 0)).setCell ⟨w.heap.size + 1, 1, none⟩ (.slice none 0 0)).heap[w.heap.size + 1]? = some (.cells #[.int .u64 0, .slice none 0 0] 27 (0, 0))) := Lib.hid (by
        have h := blk_set (blk_set hR 0 (.int .u64 0)) 1 (.slice none 0 0)
        simpa using h)
      have HIL : Hid ((Try.prog.info? 27).map (·.size) = some (#[.int .u64 0, .slice none 0 0] : Array Value).size) := Lib.hid (by rw [show (#[.int .u64 0, .slice none 0 0] : Array Value).size = 2 from rfl]; kernel_rfl)
      have HBFX : Hid (Below w.heap.size w ((W4.setCell ⟨w.heap.size + 1, 0, none⟩ (.int .u64 0)).setCell ⟨w.heap.size + 1, 1, none⟩ (.slice none 0 0))) := Lib.hid (((HB4.out).setCell (p := ⟨w.heap.size + 1, 0, none⟩) (by show w.heap.size ≤ w.heap.size + 1; omega) _).setCell (p := ⟨w.heap.size + 1, 1, none⟩) (by show w.heap.size ≤ w.heap.size + 1; omega) _)
      have HF := Lib.hid (show RPQ w p t F Ls (.returned (.tuple #[.agg #[.int .u64 0, .slice none 0 0], .bool false])) ((W4.setCell ⟨w.heap.size + 1, 0, none⟩ (.int .u64 0)).setCell ⟨w.heap.size + 1, 1, none⟩ (.slice none 0 0)) from ⟨0, [], none, 0, 0, false, rfl, HBFX.out, ⟨rfl, fun h => absurd h (by omega)⟩, fun b o e => (by cases e), .inr ⟨by rw [HCC.out]; exact HN0.out, rfl, rfl, rfl⟩⟩)
      clear hR
      go_wp2
      exact bodyPost_ret (v := .tuple #[.agg #[.int .u64 0, .slice none 0 0], .bool false]) (results_row_num rfl _ _ _ 27 _ (0, 0) _ _ rfl rfl HFX.out Try.underlying27 rfl HIL.out) rfl HF.out
  · have h2 : ¬ (many : Int) < 1 := by omega
    have h3 : ¬ (t : Int) < (many : Int) := by omega
    have hmt : many ≤ t := by omega
    have hnt : ¬ t < many := by omega
    have HR0 : Hid (RpR w p t b F Ls cnt many (.int .i64 0) W4) := Lib.hid ⟨0, _, rfl, by omega, HGW.out, HRW.out, HX4.out, EnO.nil _ _ _ _, HB4.out, by rw [HZ4.out]; exact Nat.le_refl _⟩
    go_wp2
    go_loopw [8] (fun iv wr => RpR w p t b F Ls cnt many iv wr) (fun iv _ => (many - intOf iv).toNat)
    case atStart => exact HR0.out
    case round =>
      clear HR0 HGW HRW HX4 gt HZ4 HB4 h1
      obtain ⟨k, v, rfl, hk, hgw, hr1, hr2, hO, hb, hsz⟩ := hrel
      have HGW := Lib.hid hgw
      have HR1 := Lib.hid hr1
      have HR2 := Lib.hid hr2
      have HO := Lib.hid hO
      have HB := Lib.hid hb
      have HSZ := Lib.hid hsz
      clear hgw hr1 hr2 hO hb hsz
      by_cases hlt : k < many
      · obtain ⟨Ad, cd, q1, q2⟩ := HBLK.out.2 (1 + k) (by rw [HLS.out]; omega)
        have hd := H256.out (1 + k) (by rw [HLS.out]; omega)
        have HDL : Hid ((Ls.getD (1 + k) []).length = 256) := Lib.hid hd
        have HDB : Hid (∀ i, (Ls.getD (1 + k) []).getD i 0 < 256) := Lib.hid q2.byte
        rw [hd] at q1 q2
        have HSD := Lib.hid q2
        obtain ⟨e1, he1⟩ : ∃ e1, e1 = 1 + k := ⟨_, rfl⟩
        obtain ⟨d2, hd2⟩ : ∃ d2, d2 = 2 * k := ⟨_, rfl⟩
        obtain ⟨z, hz⟩ : ∃ z, z = 18 + d2 := ⟨_, rfl⟩
        obtain ⟨z2, hz2⟩ : ∃ z2, z2 = 20 + d2 := ⟨_, rfl⟩
        have HGZ : Hid (∀ W, Below w.heap.size w W → Calls Try.prog 32 #[.slice (some ⟨bb, oo + z, none⟩) 2 (c1 - z)] W fun e w' => e = .returned (.int .u64 ((numAt F z 2 : Nat) : Int)) ∧ W = w') := Lib.hid (HGT.out z 2 (by omega) (by omega) (by omega))
        have hkb := HKB.out k
        have HXK : Hid (readK F k = ((numAt F z 2 : Nat) : Int)) := Lib.hid (by unfold readK; rw [hz, hd2])
        have hnk : numAt F z 2 < 65536 := by have := HXK.out; omega
        generalize hnq : numAt F z 2 = nk at *
        have hwn : IntKind.i64.wrap (nk : Int) = (nk : Int) := by unfold IntKind.wrap; simp [IntKind.signed, IntKind.bits]; omega
        have hw2 : IntKind.i64.wrap (2 * (k : Int)) = (d2 : Int) := by unfold IntKind.wrap; simp [IntKind.signed, IntKind.bits]; omega
        have hw18 : IntKind.i64.wrap (18 + (d2 : Int)) = (z : Int) := by unfold IntKind.wrap; simp [IntKind.signed, IntKind.bits]; omega
        have hw20 : IntKind.i64.wrap (20 + (d2 : Int)) = (z2 : Int) := by unfold IntKind.wrap; simp [IntKind.signed, IntKind.bits]; omega
        have hw1 : IntKind.i64.wrap (1 + (k : Int)) = (e1 : Int) := by unfold IntKind.wrap; simp [IntKind.signed, IntKind.bits]; omega
        have hb1 : (z : Int) ≤ (z2 : Int) := by omega
        have hb2 : z2 - z = 2 := by omega
        have hb3 : (z2 : Int) ≤ (c1 : Int) := by omega
        have hb4 : (e1 : Int) < (t : Int) + 1 := by omega
        have hb5 : z ≤ z2 := by omega
        have hcz : ¬ c1 = z := by omega
        have hb6 : z2 ≤ c1 := by omega
        have hb7 : (z2 : Int) - (z : Int) = 2 := by omega
        have HE1 := Lib.hid he1
        have HTL : Hid ((readE F Ls k).length < 1000) := Lib.hid (by rw [readE_len]; omega)
        have HKK : Hid (w.heap.size ≤ b) := Lib.hid (by have := HBS.out; omega)
        have HNX : Hid (∀ (v' : Value) (w' : World), w'.heap[w.heap.size]? = some (.cells #[.int .i64 (p : Int), .int .i64 (t : Int)] 23 (0, 0)) → LgB w' (w.heap.size + 1) 27 0 (.slice none 0 0) → LgB w' b 27 cnt v' → EnO 55 w' w.heap.size (b + 1) v' (readE F Ls k ++ [(readK F k, Ls.getD (1 + k) [])]) → Below w.heap.size w w' → b + 1 ≤ w'.heap.size → RpR w p t b F Ls cnt many (.int .i64 ((k : Int) + 1)) w') := Lib.hid (fun v' w' h1 h2 h3 h4 h5 h6 => ⟨k + 1, v', rfl, by omega, h1, h2, h3, by rw [readE_succ]; exact h4, h5, h6⟩)
        rw [HXK.out] at HNX
        have p8 : ∀ W, Below w.heap.size w W → W.cell? ⟨gB, e1, none⟩ = some (.slice Ad 256 cd) := fun W h => by rw [he1]; exact (h.cell (p := ⟨gB, 1 + k, none⟩) HBLK.out.1).trans q1
        have HP8 := Lib.hid p8
        clear q1 q2 hd p8 he1 hd2 hz hz2 hkb hnq HXK
        generalize readE F Ls k = pre at *
        generalize Ls.getD (1 + k) [] = d at *
        have hlti : (k : Int) < (many : Int) := by omega
        go_wp2_with fail
        obtain ⟨V, hV⟩ : ∃ V, V = wr.drew := ⟨_, rfl⟩
        have hBV : Below wr.heap.size wr V := by rw [hV]; exact (Below.refl _ _).drew
        have HGV := Lib.hid ((hBV.block _ (blk_lt HGW.out)).trans HGW.out)
        have HV1 : Hid (LgB V (w.heap.size + 1) 27 0 (.slice none 0 0)) := Lib.hid ((hBV.block _ HR1.out.lt).trans HR1.out)
        have HV2 : Hid (LgB V b 27 cnt v) := Lib.hid ((hBV.block _ HR2.out.lt).trans HR2.out)
        have HOV : Hid (EnO 55 V w.heap.size (b + 1) v pre) := Lib.hid (HO.out.below (by have := HKK.out; omega) HSZ.out hBV)
        have HBV : Hid (Below w.heap.size w V) := Lib.hid (HB.out.trans (hBV.mono HB.out.size))
        have HSV : Hid (b + 1 ≤ V.heap.size) := Lib.hid (Nat.le_trans HSZ.out hBV.size)
        have HK8 : Hid (∀ W, Below V.heap.size V W → W.cell? ⟨b, 1, none⟩ = some v ∧ W.cell? ⟨gB, 0, none⟩ = some (.slice (some ⟨bb, oo, none⟩) 256 c1) ∧ W.cell? ⟨gB, e1, none⟩ = some (.slice Ad 256 cd)) := Lib.hid (fun W h => ⟨(h.cell (p := ⟨b, 1, none⟩) HV2.out.lt).trans HV2.out.snd, HK1.out W (HBV.out.trans (h.mono HBV.out.size)), HP8.out W (HBV.out.trans (h.mono HBV.out.size))⟩)
        have HI6 : Hid (EnI V w.heap.size (b + 1) Ad cd d) := Lib.hid ⟨.inl (by rw [HDL.out]; exact HSD.out.below HBV.out), fun e => by
          obtain ⟨b9, o9, e9, _⟩ := HSD.out.at_ (by omega)
          rw [e9] at e; cases e⟩
        clear HGW HR1 HR2 HO HB HSZ hBV
        refine wp_region_F (S := fun (W : World) => W.cell? ⟨b, 1, none⟩ = some v ∧ W.cell? ⟨gB, 0, none⟩ = some (.slice (some ⟨bb, oo, none⟩) 256 c1) ∧ W.cell? ⟨gB, e1, none⟩ = some (.slice Ad 256 cd)) [23] (by kernel_rfl) (by rw [← hV]; exact HK8.out V (Below.refl _ _)) (fun hHeld => ?_)
        rw [← hV] at hHeld ⊢
        clear hV
        refine wpAnyF_take (i := 0) (oi := _) (v := ?_) rfl (by kernel_rfl) (by kernel_rfl) (by kernel_rfl) (by kernel_rfl) (fun _ _ _ h => h) (Or.inl ⟨by rfl, ?_⟩) (by assumption) ?_
        rotate_left 1
        · intro w hSw
          (try dsimp only at hSw)
          (first | (go_simp; done) | (go_simp; with_reducible rfl))
        (try simp only [Act.put, List.getElem_toArray, List.getElem_cons_succ, List.getElem_cons_zero, List.setIfInBounds_toArray, List.set_cons_zero, List.set_cons_succ])
        refine wpAnyF_take (i := 1) (oi := _) (v := ?_) rfl (by kernel_rfl) (by kernel_rfl) (by kernel_rfl) (by kernel_rfl) (fun _ _ _ h => h) (Or.inl ⟨by rfl, ?_⟩) (by assumption) ?_
        rotate_left 1
        · intro w hSw
          (try dsimp only at hSw)
          (first | (go_simp; done) | (go_simp; with_reducible rfl))
        (try simp only [Act.put, List.getElem_toArray, List.getElem_cons_succ, List.getElem_cons_zero, List.setIfInBounds_toArray, List.set_cons_zero, List.set_cons_succ])
        refine wpAnyF_take (i := 2) (oi := _) (v := ?_) rfl (by kernel_rfl) (by kernel_rfl) (by kernel_rfl) (by kernel_rfl) (fun _ _ _ h => h) (Or.inl ⟨by rfl, ?_⟩) (by assumption) ?_
        rotate_left 1
        · intro w hSw
          (try dsimp only at hSw)
          (first | (go_simp; done) | (go_simp; with_reducible rfl))
        (try simp only [Act.put, List.getElem_toArray, List.getElem_cons_succ, List.getElem_cons_zero, List.setIfInBounds_toArray, List.set_cons_zero, List.set_cons_succ])
        refine wpAnyF_take (i := 3) (oi := _) (v := ?_) rfl (by kernel_rfl) (by kernel_rfl) (by kernel_rfl) (by kernel_rfl) (fun _ _ _ h => h) (Or.inl ⟨by rfl, ?_⟩) (by assumption) ?_
        rotate_left 1
        · intro w hSw
          (try dsimp only at hSw)
          (first | (go_simp; done) | (go_simp; with_reducible rfl))
        (try simp only [Act.put, List.getElem_toArray, List.getElem_cons_succ, List.getElem_cons_zero, List.setIfInBounds_toArray, List.set_cons_zero, List.set_cons_succ])
        refine wpAnyF_take (i := 4) (oi := _) (v := ?_) rfl (by kernel_rfl) (by kernel_rfl) (by kernel_rfl) (by kernel_rfl) (fun _ _ _ h => h) (Or.inl ⟨by rfl, ?_⟩) (by assumption) ?_
        rotate_left 1
        · intro w hSw
          (try dsimp only at hSw)
          (first | (go_simp; done) | (go_simp; with_reducible rfl))
        (try simp only [Act.put, List.getElem_toArray, List.getElem_cons_succ, List.getElem_cons_zero, List.setIfInBounds_toArray, List.set_cons_zero, List.set_cons_succ])
        refine wpAnyF_take (i := 5) (oi := _) (v := ?_) rfl (by kernel_rfl) (by kernel_rfl) (by kernel_rfl) (by kernel_rfl) (fun _ _ _ h => h) (Or.inl ⟨by rfl, ?_⟩) (by assumption) ?_
        rotate_left 1
        · intro w hSw
          (try dsimp only at hSw)
          (first | (go_simp; done) | (go_simp; with_reducible rfl))
        (try simp only [Act.put, List.getElem_toArray, List.getElem_cons_succ, List.getElem_cons_zero, List.setIfInBounds_toArray, List.set_cons_zero, List.set_cons_succ])
        refine wpAnyF_take (i := 6) (oi := _) (v := ?_) rfl (by kernel_rfl) (by kernel_rfl) (by kernel_rfl) (by kernel_rfl) (fun _ _ _ h => h) (Or.inl ⟨by rfl, ?_⟩) (by assumption) ?_
        rotate_left 1
        · intro w hSw
          (try dsimp only at hSw)
          (first | (go_simp; done) | (go_simp; with_reducible rfl))
        (try simp only [Act.put, List.getElem_toArray, List.getElem_cons_succ, List.getElem_cons_zero, List.setIfInBounds_toArray, List.set_cons_zero, List.set_cons_succ])
        refine wpAnyF_take (i := 7) (oi := _) (v := ?_) rfl (by kernel_rfl) (by kernel_rfl) (by kernel_rfl) (by kernel_rfl) (fun _ _ _ h => h) (Or.inl ⟨by rfl, ?_⟩) (by assumption) ?_
        rotate_left 1
        · intro w hSw
          (try dsimp only at hSw)
          (first | (go_simp; done) | (go_simp; with_reducible rfl))
        (try simp only [Act.put, List.getElem_toArray, List.getElem_cons_succ, List.getElem_cons_zero, List.setIfInBounds_toArray, List.set_cons_zero, List.set_cons_succ])
        refine wpAnyF_take (i := 8) (oi := _) (v := ?_) rfl (by kernel_rfl) (by kernel_rfl) (by kernel_rfl) (by kernel_rfl) (fun _ _ _ h => h) (Or.inl ⟨by rfl, ?_⟩) (by assumption) ?_
        rotate_left 1
        · intro w hSw
          (try dsimp only at hSw)
          (first | (go_simp; done) | (go_simp; with_reducible rfl))
        (try simp only [Act.put, List.getElem_toArray, List.getElem_cons_succ, List.getElem_cons_zero, List.setIfInBounds_toArray, List.set_cons_zero, List.set_cons_succ])
        refine wpAnyF_take (i := 9) (oi := _) (v := ?_) rfl (by kernel_rfl) (by kernel_rfl) (by kernel_rfl) (by kernel_rfl) (fun _ _ _ h => h) (Or.inl ⟨by rfl, ?_⟩) (by assumption) ?_
        rotate_left 1
        · intro w hSw
          (try dsimp only at hSw)
          (first | (go_simp; done) | (go_simp; with_reducible rfl))
        (try simp only [Act.put, List.getElem_toArray, List.getElem_cons_succ, List.getElem_cons_zero, List.setIfInBounds_toArray, List.set_cons_zero, List.set_cons_succ])
        refine wpAnyF_take (i := 10) (oi := _) (v := ?_) rfl (by kernel_rfl) (by kernel_rfl) (by kernel_rfl) (by kernel_rfl) (fun _ _ _ h => h) (Or.inl ⟨by rfl, ?_⟩) (by assumption) ?_
        rotate_left 1
        · intro w hSw
          (try dsimp only at hSw)
          (first | (go_simp; done) | (go_simp; with_reducible rfl))
        (try simp only [Act.put, List.getElem_toArray, List.getElem_cons_succ, List.getElem_cons_zero, List.setIfInBounds_toArray, List.set_cons_zero, List.set_cons_succ])
        refine wpAnyF_take (i := 11) (oi := _) (v := ?_) rfl (by kernel_rfl) (by kernel_rfl) (by kernel_rfl) (by kernel_rfl) (fun _ _ _ h => h) (Or.inl ⟨by rfl, ?_⟩) (by assumption) ?_
        rotate_left 1
        · intro w hSw
          (try dsimp only at hSw)
          (first | (go_simp; done) | (go_simp; with_reducible rfl))
        (try simp only [Act.put, List.getElem_toArray, List.getElem_cons_succ, List.getElem_cons_zero, List.setIfInBounds_toArray, List.set_cons_zero, List.set_cons_succ])
        refine wpAnyF_take (i := 14) (oi := _) (v := ?_) rfl (by kernel_rfl) (by kernel_rfl) (by kernel_rfl) (by kernel_rfl) (fun _ _ _ h => h) (Or.inl ⟨by rfl, ?_⟩) (by assumption) ?_
        rotate_left 1
        · intro w hSw
          (try dsimp only at hSw)
          (first | (go_simp; done) | (go_simp; with_reducible rfl))
        (try simp only [Act.put, List.getElem_toArray, List.getElem_cons_succ, List.getElem_cons_zero, List.setIfInBounds_toArray, List.set_cons_zero, List.set_cons_succ])
        refine wpAnyF_take (i := 15) (oi := _) (v := ?_) rfl (by kernel_rfl) (by kernel_rfl) (by kernel_rfl) (by kernel_rfl) (fun _ _ _ h => h) (Or.inl ⟨by rfl, ?_⟩) (by assumption) ?_
        rotate_left 1
        · intro w hSw
          (try dsimp only at hSw)
          (first | (go_simp; done) | (go_simp; with_reducible rfl))
        (try simp only [Act.put, List.getElem_toArray, List.getElem_cons_succ, List.getElem_cons_zero, List.setIfInBounds_toArray, List.set_cons_zero, List.set_cons_succ])
        refine wpAnyF_take (i := 16) (oi := _) (v := ?_) rfl (by kernel_rfl) (by kernel_rfl) (by kernel_rfl) (by kernel_rfl) (fun _ _ _ h => h) (Or.inl ⟨by rfl, ?_⟩) (by assumption) ?_
        rotate_left 1
        · intro w hSw
          (try dsimp only at hSw)
          (first | (go_simp; done) | (go_simp; with_reducible rfl))
        (try simp only [Act.put, List.getElem_toArray, List.getElem_cons_succ, List.getElem_cons_zero, List.setIfInBounds_toArray, List.set_cons_zero, List.set_cons_succ])
        refine wpAnyF_take (i := 17) (oi := _) (v := ?_) rfl (by kernel_rfl) (by kernel_rfl) (by kernel_rfl) (by kernel_rfl) (fun _ _ _ h => h) (Or.inl ⟨by rfl, ?_⟩) (by assumption) ?_
        rotate_left 1
        · intro w hSw
          (try dsimp only at hSw)
          (first | (go_simp; done) | (go_simp; with_reducible rfl))
        (try simp only [Act.put, List.getElem_toArray, List.getElem_cons_succ, List.getElem_cons_zero, List.setIfInBounds_toArray, List.set_cons_zero, List.set_cons_succ])
        refine wpAnyF_take (i := 18) (oi := _) (v := ?_) rfl (by kernel_rfl) (by kernel_rfl) (by kernel_rfl) (by kernel_rfl) (fun _ _ _ h => h) (Or.inl ⟨by rfl, ?_⟩) (by assumption) ?_
        rotate_left 1
        · intro w hSw
          (try dsimp only at hSw)
          (first | (go_simp; done) | (go_simp; with_reducible rfl))
        (try simp only [Act.put, List.getElem_toArray, List.getElem_cons_succ, List.getElem_cons_zero, List.setIfInBounds_toArray, List.set_cons_zero, List.set_cons_succ])
        refine wpAnyF_ready (rs := [12]) (by kernel_rfl) (by simp) ?_
        refine AllReadyF.cons (o := _) rfl (fun K hK => ?_) AllReadyF.nil
        go_simp
        (go_at_call 32)
        refine (HGZ.out V HBV.out).mono ?_
        rintro e w5 ⟨rfl, rfl⟩
        refine hK.out _ _ (HK8.out V (Below.refl _ _)) (fun hHeld12 => ?_)
        clear hK K
        (try simp only [Act.put, List.getElem_toArray, List.getElem_cons_succ, List.getElem_cons_zero, List.setIfInBounds_toArray, List.set_cons_zero, List.set_cons_succ])
        refine wpAnyF_take (i := 13) (oi := _) (v := ?_) rfl (by kernel_rfl) (by kernel_rfl) (by kernel_rfl) (by kernel_rfl) (fun _ _ _ h => h) (Or.inl ⟨by rfl, ?_⟩) (by assumption) ?_
        rotate_left 1
        · intro w hSw
          (try dsimp only at hSw)
          (first | (go_simp; done) | (go_simp; with_reducible rfl))
        (try simp only [Act.put, List.getElem_toArray, List.getElem_cons_succ, List.getElem_cons_zero, List.setIfInBounds_toArray, List.set_cons_zero, List.set_cons_succ])
        refine wpAnyF_take (i := 19) (oi := _) (v := ?_) rfl (by kernel_rfl) (by kernel_rfl) (by kernel_rfl) (by kernel_rfl) (fun _ _ _ h => h) (Or.inl ⟨by rfl, ?_⟩) (by assumption) ?_
        rotate_left 1
        · intro w hSw
          (try dsimp only at hSw)
          (first | (go_simp; done) | (go_simp; with_reducible rfl))
        (try simp only [Act.put, List.getElem_toArray, List.getElem_cons_succ, List.getElem_cons_zero, List.setIfInBounds_toArray, List.set_cons_zero, List.set_cons_succ])
        have HC20 : Hid (Below V.heap.size V (V.alloc (.cells #[.int .i64 (nk : Int), .slice Ad 256 cd] 55))) := Lib.hid ((Below.refl _ _).alloc (Nat.le_refl _) _)
        refine wpAnyF_ready (rs := [20]) (by kernel_rfl) (by simp) ?_
        refine AllReadyF.cons (o := _) rfl (fun K hK => ?_) AllReadyF.nil
        go_simp
        refine hK.out _ _ (HK8.out _ HC20.out) (fun hHeld20 => ?_)
        clear hK K
        (try simp only [Act.put, List.getElem_toArray, List.getElem_cons_succ, List.getElem_cons_zero, List.setIfInBounds_toArray, List.set_cons_zero, List.set_cons_succ])
        refine wpAnyF_ready (rs := [21]) (by kernel_rfl) (by simp) ?_
        refine AllReadyF.cons (o := _) rfl (fun K hK => ?_) AllReadyF.nil
        rw [if_pos (by kernel_rfl)]
        refine step_appE 55 25 Try.underlying25 (by kernel_rfl) (by decide) V (.tmp 36) (.tmp 55) rfl w.heap.size (b + 1) (by have := HKK.out; omega) v pre (nk : Int) Ad cd 256 d HDL.out rfl HOV.out HTL.out rfl HI6.out HSV.out ?_
        intro v10 w10 hO10 hb10 hfar10
        obtain ⟨nn, A10, cc, rfl⟩ : ∃ nn A cc, v10 = .slice A nn cc := by
          obtain ⟨A, c, e, _⟩ := hO10.esV (by have := HKK.out; omega) (Nat.le_trans HSV.out hb10.size)
          exact ⟨_, A, c, e⟩
        have HG3 : Hid (LgB w10 b 27 cnt v) := Lib.hid ((hb10.block b (by omega)).trans HV2.out)
        have c10 : w10.cell? ⟨b, 1, none⟩ = some v := HG3.out.snd
        have f10 : w10.frozen? ⟨b, 1, none⟩ = false := blk_free HG3.out 1
        have hBB : Below w.heap.size w w10 := HBV.out.trans (hb10.mono (by have := HKK.out; omega))
        have hq1 := HK1.out w10 hBB
        have hq2 := HP8.out w10 hBB
        have HOU : Hid (RpR w p t b F Ls cnt many (.int .i64 ((k : Int) + 1)) (w10.setCell ⟨b, 1, none⟩ (.slice A10 nn cc))) := Lib.hid (by
          refine HNX.out (.slice A10 nn cc) _ ?_ ?_ (HG3.out.setc _) (hO10.set _ (by show w.heap.size ≤ b; exact HKK.out) (by show b < b + 1; omega) (.slice A10 nn cc)) ?_ ?_
          · exact (Below.heap_setCell _ _ _ _ (by show w.heap.size ≠ b; have := HBS.out; omega)).trans ((hb10.block _ (by have := HBS.out; omega)).trans HGV.out)
          · exact LgB.far ((hb10.block _ (by have := HBS.out; omega)).trans HV1.out) _ (by show b ≠ w.heap.size + 1; have := HBS.out; omega) _
          · exact hBB.setCell (by show w.heap.size ≤ b; exact HKK.out) _
          · rw [size_set]; exact Nat.le_trans HSV.out hb10.size)
        clear hO10 hb10 hfar10 hBB
        refine hK.out _ _ (⟨c10, hq1, hq2⟩) (fun hHeld21 => ?_)
        clear hK K
        (try simp only [Act.put, List.getElem_toArray, List.getElem_cons_succ, List.getElem_cons_zero, List.setIfInBounds_toArray, List.set_cons_zero, List.set_cons_succ])
        refine wpAnyF_take (i := 22) (oi := _) (v := ?_) rfl (by kernel_rfl) (by kernel_rfl) (by kernel_rfl) (by kernel_rfl) (fun _ _ _ h => h) (Or.inl ⟨by rfl, ?_⟩) (by assumption) ?_
        rotate_left 1
        · intro w hSw
          (try dsimp only at hSw)
          (first | (go_simp; done) | (go_simp; with_reducible rfl))
        (try simp only [Act.put, List.getElem_toArray, List.getElem_cons_succ, List.getElem_cons_zero, List.setIfInBounds_toArray, List.set_cons_zero, List.set_cons_succ])
        refine wpAnyF_ready (rs := [23]) (by kernel_rfl) (by simp) ?_
        refine AllReadyF.last (o := _) rfl (by rfl) (fun K hK => ?_) AllReadyF.nil
        go_simp
        refine hK.out _ _ ?_
        clear hK K
        (try simp only [Act.put, List.getElem_toArray, List.getElem_cons_succ, List.getElem_cons_zero, List.setIfInBounds_toArray, List.set_cons_zero, List.set_cons_succ])
        refine wpAnyF_done (by kernel_rfl) ?_ _
        clear hHeld hHeld12 hHeld20 hHeld21 c10 f10 hq1 hq2
        go_wp2
        go_roundw
        case rel => exact HOU.out
        case measure => simp [intOf]; omega
      · obtain rfl : k = many := by omega
        have hes := HRL.out hmt
        obtain ⟨A5, c5, rfl, hv5⟩ := HO.out.esV (by have := HBS.out; omega) HSZ.out
        have hz5 := HO.out.esZ
        have hok := readL_ok (F := F) (Ls := Ls) (t := t) ht24 HLS.out H256.out
        rw [← hes] at hv5 hz5 HR2
        have HQ : Hid (LgOk wr A5 (readL F Ls t)) := Lib.hid ⟨hv5, hz5, by have := hok.1; omega, fun i hi => by have := hok.2 i hi; omega⟩
        obtain ⟨sF, hsF⟩ : ∃ s, s = str F := ⟨_, rfl⟩
        have HSF := Lib.hid hsF
        generalize hEE : readL F Ls t = es at *
        obtain ⟨n, hn⟩ : ∃ n, n = es.length := ⟨_, rfl⟩
        have HN9 := Lib.hid hn
        have hn30 : n ≤ 30 := by have := HQ.out.n; omega
        rw [← hn] at HR2
        have HK9 : Hid (∀ W, Below wr.heap.size wr W → W.cell? ⟨w.heap.size, 0, none⟩ = some (.int .i64 (p : Int)) ∧ W.cell? ⟨w.heap.size, 1, none⟩ = some (.int .i64 (t : Int)) ∧ W.cell? ⟨b, 0, none⟩ = some (.int .u64 (cnt : Int)) ∧ W.cell? ⟨b, 1, none⟩ = some (.slice A5 n c5) ∧ W.cell? ⟨gB, 0, none⟩ = some (.slice (some ⟨bb, oo, none⟩) 256 c1) ∧ (convert 42 9 (.slice (some ⟨bb, oo, none⟩) 256 c1)).run Try.prog W = .ok (.string sF) W) := Lib.hid (fun W h => by
          have hg := (h.block _ (blk_lt HGW.out)).trans HGW.out
          have hB := HB.out.trans (h.mono HB.out.size)
          refine ⟨blk_cell hg 0, blk_cell hg 1, (h.cell (p := ⟨b, 0, none⟩) HR2.out.lt).trans HR2.out.fst, (h.cell (p := ⟨b, 1, none⟩) HR2.out.lt).trans HR2.out.snd, HK1.out W hB, ?_⟩
          rw [hsF]
          exact conv_at (HK2.out.below hB))
        have HEQ := Lib.hid hEE
        clear hes hv5 hz5 hok hsF hEE hn HO HM1 HRL hk hlt h2 h3 hmt hnt hm hwm
        go_wp2_with fail
        by_cases hM : MayG p t es
        case neg =>
          refine wp_region_F (S := fun (W : World) => W.cell? ⟨w.heap.size, 0, none⟩ = some (.int .i64 (p : Int)) ∧ W.cell? ⟨w.heap.size, 1, none⟩ = some (.int .i64 (t : Int)) ∧ W.cell? ⟨b, 0, none⟩ = some (.int .u64 (cnt : Int)) ∧ W.cell? ⟨b, 1, none⟩ = some (.slice A5 n c5) ∧ W.cell? ⟨gB, 0, none⟩ = some (.slice (some ⟨bb, oo, none⟩) 256 c1) ∧ (convert 42 9 (.slice (some ⟨bb, oo, none⟩) 256 c1)).run Try.prog W = .ok (.string sF) W) [] (by kernel_rfl) (HK9.out _ ((Below.refl _ _).drew)) (fun hHeld => ?_)
          refine wpAnyF_take (i := 0) (oi := _) (v := ?_) rfl (by kernel_rfl) (by kernel_rfl) (by kernel_rfl) (by kernel_rfl) (fun _ _ _ h => h) (Or.inl ⟨by rfl, ?_⟩) (by assumption) ?_
          rotate_left 1
          · intro w hSw
            (try dsimp only at hSw)
            (first | (go_simp; done) | (go_simp; with_reducible rfl))
          (try simp only [Act.put, List.getElem_toArray, List.getElem_cons_succ, List.getElem_cons_zero, List.setIfInBounds_toArray, List.set_cons_zero, List.set_cons_succ])
          refine wpAnyF_take (i := 1) (oi := _) (v := ?_) rfl (by kernel_rfl) (by kernel_rfl) (by kernel_rfl) (by kernel_rfl) (fun _ _ _ h => h) (Or.inl ⟨by rfl, ?_⟩) (by assumption) ?_
          rotate_left 1
          · intro w hSw
            (try dsimp only at hSw)
            (first | (go_simp; done) | (go_simp; with_reducible rfl))
          (try simp only [Act.put, List.getElem_toArray, List.getElem_cons_succ, List.getElem_cons_zero, List.setIfInBounds_toArray, List.set_cons_zero, List.set_cons_succ])
          refine wpAnyF_ready (rs := [2]) (by kernel_rfl) (by simp) ?_
          refine AllReadyF.cons (o := _) rfl (fun K hK => ?_) AllReadyF.nil
          go_simp
          (go_at_call 9)
          refine (rmay14_any p t cnt n c5 A5 es (by omega) _ (by have := (HQ.out.below ((Below.refl wr.heap.size wr).drew)).v; rw [← HN9.out] at this; exact this)).mono ?_
          rintro e v2 ⟨bb2, rfl, hbb, hb2⟩
          obtain rfl : bb2 = false := by cases bb2 with | false => rfl | true => exact absurd (hbb.mp rfl) hM
          have HC2 : Hid (Below wr.heap.size wr v2) := Lib.hid (((Below.refl wr.heap.size wr).drew).trans hb2)
          clear hbb hb2
          refine hK.out _ _ (HK9.out _ HC2.out) (fun hHeld2 => ?_)
          clear hK K
          (try simp only [Act.put, List.getElem_toArray, List.getElem_cons_succ, List.getElem_cons_zero, List.setIfInBounds_toArray, List.set_cons_zero, List.set_cons_succ])
          refine wpAnyF_take (i := 3) (oi := _) (v := ?_) rfl (by kernel_rfl) (by kernel_rfl) (by kernel_rfl) (by kernel_rfl) (fun _ _ _ h => h) (Or.inl ⟨by rfl, ?_⟩) (by assumption) ?_
          rotate_left 1
          · intro w hSw
            (try dsimp only at hSw)
            (first | (go_simp; done) | (go_simp; with_reducible rfl))
          (try simp only [Act.put, List.getElem_toArray, List.getElem_cons_succ, List.getElem_cons_zero, List.setIfInBounds_toArray, List.set_cons_zero, List.set_cons_succ])
          refine wpAnyF_take (i := 4) (oi := _) (v := ?_) rfl (by kernel_rfl) (by kernel_rfl) (by kernel_rfl) (by kernel_rfl) (fun _ _ _ h => h) (Or.inl ⟨by rfl, ?_⟩) (by assumption) ?_
          rotate_left 1
          · intro w hSw
            (try dsimp only at hSw)
            (first | (go_simp; done) | (go_simp; with_reducible rfl))
          (try simp only [Act.put, List.getElem_toArray, List.getElem_cons_succ, List.getElem_cons_zero, List.setIfInBounds_toArray, List.set_cons_zero, List.set_cons_succ])
          refine wpAnyF_take (i := 5) (oi := _) (v := undef) rfl (by kernel_rfl) (by kernel_rfl) (by kernel_rfl) (by kernel_rfl) (fun _ _ _ h => h) (Or.inr ⟨by rfl, rfl⟩) (by assumption) ?_
          (try simp only [Act.put, List.getElem_toArray, List.getElem_cons_succ, List.getElem_cons_zero, List.setIfInBounds_toArray, List.set_cons_zero, List.set_cons_succ])
          refine wpAnyF_take (i := 6) (oi := _) (v := undef) rfl (by kernel_rfl) (by kernel_rfl) (by kernel_rfl) (by kernel_rfl) (fun _ _ _ h => h) (Or.inr ⟨by rfl, rfl⟩) (by assumption) ?_
          (try simp only [Act.put, List.getElem_toArray, List.getElem_cons_succ, List.getElem_cons_zero, List.setIfInBounds_toArray, List.set_cons_zero, List.set_cons_succ])
          refine wpAnyF_take (i := 7) (oi := _) (v := undef) rfl (by kernel_rfl) (by kernel_rfl) (by kernel_rfl) (by kernel_rfl) (fun _ _ _ h => h) (Or.inr ⟨by rfl, rfl⟩) (by assumption) ?_
          (try simp only [Act.put, List.getElem_toArray, List.getElem_cons_succ, List.getElem_cons_zero, List.setIfInBounds_toArray, List.set_cons_zero, List.set_cons_succ])
          refine wpAnyF_take (i := 8) (oi := _) (v := undef) rfl (by kernel_rfl) (by kernel_rfl) (by kernel_rfl) (by kernel_rfl) (fun _ _ _ h => h) (Or.inr ⟨by rfl, rfl⟩) (by assumption) ?_
          (try simp only [Act.put, List.getElem_toArray, List.getElem_cons_succ, List.getElem_cons_zero, List.setIfInBounds_toArray, List.set_cons_zero, List.set_cons_succ])
          refine wpAnyF_take (i := 9) (oi := _) (v := undef) rfl (by kernel_rfl) (by kernel_rfl) (by kernel_rfl) (by kernel_rfl) (fun _ _ _ h => h) (Or.inr ⟨by rfl, rfl⟩) (by assumption) ?_
          (try simp only [Act.put, List.getElem_toArray, List.getElem_cons_succ, List.getElem_cons_zero, List.setIfInBounds_toArray, List.set_cons_zero, List.set_cons_succ])
          refine wpAnyF_take (i := 10) (oi := _) (v := undef) rfl (by kernel_rfl) (by kernel_rfl) (by kernel_rfl) (by kernel_rfl) (fun _ _ _ h => h) (Or.inr ⟨by rfl, rfl⟩) (by assumption) ?_
          (try simp only [Act.put, List.getElem_toArray, List.getElem_cons_succ, List.getElem_cons_zero, List.setIfInBounds_toArray, List.set_cons_zero, List.set_cons_succ])
          refine wpAnyF_take (i := 11) (oi := _) (v := undef) rfl (by kernel_rfl) (by kernel_rfl) (by kernel_rfl) (by kernel_rfl) (fun _ _ _ h => h) (Or.inr ⟨by rfl, rfl⟩) (by assumption) ?_
          (try simp only [Act.put, List.getElem_toArray, List.getElem_cons_succ, List.getElem_cons_zero, List.setIfInBounds_toArray, List.set_cons_zero, List.set_cons_succ])
          refine wpAnyF_take (i := 12) (oi := _) (v := undef) rfl (by kernel_rfl) (by kernel_rfl) (by kernel_rfl) (by kernel_rfl) (fun _ _ _ h => h) (Or.inr ⟨by rfl, rfl⟩) (by assumption) ?_
          (try simp only [Act.put, List.getElem_toArray, List.getElem_cons_succ, List.getElem_cons_zero, List.setIfInBounds_toArray, List.set_cons_zero, List.set_cons_succ])
          refine wpAnyF_take (i := 13) (oi := _) (v := undef) rfl (by kernel_rfl) (by kernel_rfl) (by kernel_rfl) (by kernel_rfl) (fun _ _ _ h => h) (Or.inr ⟨by rfl, rfl⟩) (by assumption) ?_
          (try simp only [Act.put, List.getElem_toArray, List.getElem_cons_succ, List.getElem_cons_zero, List.setIfInBounds_toArray, List.set_cons_zero, List.set_cons_succ])
          refine wpAnyF_take (i := 14) (oi := _) (v := undef) rfl (by kernel_rfl) (by kernel_rfl) (by kernel_rfl) (by kernel_rfl) (fun _ _ _ h => h) (Or.inr ⟨by rfl, rfl⟩) (by assumption) ?_
          (try simp only [Act.put, List.getElem_toArray, List.getElem_cons_succ, List.getElem_cons_zero, List.setIfInBounds_toArray, List.set_cons_zero, List.set_cons_succ])
          refine wpAnyF_take (i := 15) (oi := _) (v := ?_) rfl (by kernel_rfl) (by kernel_rfl) (by kernel_rfl) (by kernel_rfl) (fun _ _ _ h => h) (Or.inl ⟨by rfl, ?_⟩) (by assumption) ?_
          rotate_left 1
          · intro w hSw
            (try dsimp only at hSw)
            (first | (go_simp; done) | (go_simp; with_reducible rfl))
          (try simp only [Act.put, List.getElem_toArray, List.getElem_cons_succ, List.getElem_cons_zero, List.setIfInBounds_toArray, List.set_cons_zero, List.set_cons_succ])
          refine wpAnyF_done (by kernel_rfl) ?_ _
          clear hHeld hHeld2
          have hR : v2.heap[w.heap.size + 1]? = some (.cells #[.int .u64 0, .slice none 0 0] 27 (0, 0)) := (HC2.out.block _ HR1.out.lt).trans HR1.out
          have HRX := Lib.hid hR
          have dd0 : v2.cell? ⟨w.heap.size + 1, 0, none⟩ = some (.int .u64 0) := blk_cell hR 0
          have dd1 : v2.cell? ⟨w.heap.size + 1, 1, none⟩ = some (.slice none 0 0) := blk_cell hR 1
          have ff0 := blk_free hR 0
          have ff1 := blk_free hR 1
          have HFX : Hid (((v2.setCell ⟨w.heap.size + 1, 0, none⟩ (.int .u64 0)).setCell ⟨w.heap.size + 1, 1, none⟩ (.slice none 0 0)).heap[w.heap.size + 1]? = some (.cells #[.int .u64 0, .slice none 0 0] 27 (0, 0))) := Lib.hid (by
            have h := blk_set (blk_set hR 0 (.int .u64 0)) 1 (.slice none 0 0)
            simpa using h)
          have HIL : Hid ((Try.prog.info? 27).map (·.size) = some (#[.int .u64 0, .slice none 0 0] : Array Value).size) := Lib.hid (by rw [show (#[.int .u64 0, .slice none 0 0] : Array Value).size = 2 from rfl]; kernel_rfl)
          have HBFX : Hid (Below w.heap.size w ((v2.setCell ⟨w.heap.size + 1, 0, none⟩ (.int .u64 0)).setCell ⟨w.heap.size + 1, 1, none⟩ (.slice none 0 0))) := Lib.hid (((HB.out.trans (HC2.out.mono HB.out.size)).setCell (p := ⟨w.heap.size + 1, 0, none⟩) (by show w.heap.size ≤ w.heap.size + 1; omega) _).setCell (p := ⟨w.heap.size + 1, 1, none⟩) (by show w.heap.size ≤ w.heap.size + 1; omega) _)
          have HF := Lib.hid (show RPQ w p t F Ls (.returned (.tuple #[.agg #[.int .u64 0, .slice none 0 0], .bool false])) ((v2.setCell ⟨w.heap.size + 1, 0, none⟩ (.int .u64 0)).setCell ⟨w.heap.size + 1, 1, none⟩ (.slice none 0 0)) from ⟨0, [], none, 0, 0, false, rfl, HBFX.out, ⟨rfl, fun h => absurd h (by omega)⟩, fun b o e => (by cases e), .inr ⟨by rw [HEQ.out]; exact fun h => hM h.1, rfl, rfl, rfl⟩⟩)
          clear hR
          go_wp2
          exact bodyPost_ret (v := .tuple #[.agg #[.int .u64 0, .slice none 0 0], .bool false]) (results_row_num rfl _ _ _ 27 _ (0, 0) _ _ rfl rfl HFX.out Try.underlying27 rfl HIL.out) rfl HF.out
        case pos =>
          refine wp_region_F (S := fun (W : World) => W.cell? ⟨w.heap.size, 0, none⟩ = some (.int .i64 (p : Int)) ∧ W.cell? ⟨w.heap.size, 1, none⟩ = some (.int .i64 (t : Int)) ∧ W.cell? ⟨b, 0, none⟩ = some (.int .u64 (cnt : Int)) ∧ W.cell? ⟨b, 1, none⟩ = some (.slice A5 n c5) ∧ W.cell? ⟨gB, 0, none⟩ = some (.slice (some ⟨bb, oo, none⟩) 256 c1) ∧ (convert 42 9 (.slice (some ⟨bb, oo, none⟩) 256 c1)).run Try.prog W = .ok (.string sF) W) [] (by kernel_rfl) (HK9.out _ ((Below.refl _ _).drew)) (fun hHeld => ?_)
          refine wpAnyF_take (i := 0) (oi := _) (v := ?_) rfl (by kernel_rfl) (by kernel_rfl) (by kernel_rfl) (by kernel_rfl) (fun _ _ _ h => h) (Or.inl ⟨by rfl, ?_⟩) (by assumption) ?_
          rotate_left 1
          · intro w hSw
            (try dsimp only at hSw)
            (first | (go_simp; done) | (go_simp; with_reducible rfl))
          (try simp only [Act.put, List.getElem_toArray, List.getElem_cons_succ, List.getElem_cons_zero, List.setIfInBounds_toArray, List.set_cons_zero, List.set_cons_succ])
          refine wpAnyF_take (i := 1) (oi := _) (v := ?_) rfl (by kernel_rfl) (by kernel_rfl) (by kernel_rfl) (by kernel_rfl) (fun _ _ _ h => h) (Or.inl ⟨by rfl, ?_⟩) (by assumption) ?_
          rotate_left 1
          · intro w hSw
            (try dsimp only at hSw)
            (first | (go_simp; done) | (go_simp; with_reducible rfl))
          (try simp only [Act.put, List.getElem_toArray, List.getElem_cons_succ, List.getElem_cons_zero, List.setIfInBounds_toArray, List.set_cons_zero, List.set_cons_succ])
          refine wpAnyF_ready (rs := [2]) (by kernel_rfl) (by simp) ?_
          refine AllReadyF.cons (o := _) rfl (fun K hK => ?_) AllReadyF.nil
          go_simp
          (go_at_call 9)
          refine (rmay14_any p t cnt n c5 A5 es (by omega) _ (by have := (HQ.out.below ((Below.refl wr.heap.size wr).drew)).v; rw [← HN9.out] at this; exact this)).mono ?_
          rintro e v2 ⟨bb2, rfl, hbb, hb2⟩
          obtain rfl : bb2 = true := hbb.mpr hM
          have HC2 : Hid (Below wr.heap.size wr v2) := Lib.hid (((Below.refl wr.heap.size wr).drew).trans hb2)
          clear hbb hb2
          refine hK.out _ _ (HK9.out _ HC2.out) (fun hHeld2 => ?_)
          clear hK K
          (try simp only [Act.put, List.getElem_toArray, List.getElem_cons_succ, List.getElem_cons_zero, List.setIfInBounds_toArray, List.set_cons_zero, List.set_cons_succ])
          refine wpAnyF_take (i := 3) (oi := _) (v := ?_) rfl (by kernel_rfl) (by kernel_rfl) (by kernel_rfl) (by kernel_rfl) (fun _ _ _ h => h) (Or.inl ⟨by rfl, ?_⟩) (by assumption) ?_
          rotate_left 1
          · intro w hSw
            (try dsimp only at hSw)
            (first | (go_simp; done) | (go_simp; with_reducible rfl))
          (try simp only [Act.put, List.getElem_toArray, List.getElem_cons_succ, List.getElem_cons_zero, List.setIfInBounds_toArray, List.set_cons_zero, List.set_cons_succ])
          refine wpAnyF_take (i := 4) (oi := _) (v := ?_) rfl (by kernel_rfl) (by kernel_rfl) (by kernel_rfl) (by kernel_rfl) (fun _ _ _ h => h) (Or.inl ⟨by rfl, ?_⟩) (by assumption) ?_
          rotate_left 1
          · intro w hSw
            (try dsimp only at hSw)
            (first | (go_simp; done) | (go_simp; with_reducible rfl))
          (try simp only [Act.put, List.getElem_toArray, List.getElem_cons_succ, List.getElem_cons_zero, List.setIfInBounds_toArray, List.set_cons_zero, List.set_cons_succ])
          refine wpAnyF_take (i := 5) (oi := _) (v := ?_) rfl (by kernel_rfl) (by kernel_rfl) (by kernel_rfl) (by kernel_rfl) (fun _ _ _ h => h) (Or.inl ⟨by rfl, ?_⟩) (by assumption) ?_
          rotate_left 1
          · intro w hSw
            (try dsimp only at hSw)
            (first | (go_simp; done) | (go_simp; with_reducible rfl))
          (try simp only [Act.put, List.getElem_toArray, List.getElem_cons_succ, List.getElem_cons_zero, List.setIfInBounds_toArray, List.set_cons_zero, List.set_cons_succ])
          refine wpAnyF_take (i := 10) (oi := _) (v := ?_) rfl (by kernel_rfl) (by kernel_rfl) (by kernel_rfl) (by kernel_rfl) (fun _ _ _ h => h) (Or.inl ⟨by rfl, ?_⟩) (by assumption) ?_
          rotate_left 1
          · intro w hSw
            (try dsimp only at hSw)
            (first | (go_simp; done) | (go_simp; with_reducible rfl))
          (try simp only [Act.put, List.getElem_toArray, List.getElem_cons_succ, List.getElem_cons_zero, List.setIfInBounds_toArray, List.set_cons_zero, List.set_cons_succ])
          refine wpAnyF_take (i := 11) (oi := _) (v := ?_) rfl (by kernel_rfl) (by kernel_rfl) (by kernel_rfl) (by kernel_rfl) (fun _ _ _ h => h) (Or.inl ⟨by rfl, ?_⟩) (by assumption) ?_
          rotate_left 1
          · intro w hSw
            (try dsimp only at hSw)
            (first | (go_simp; done) | (go_simp; with_reducible rfl))
          (try simp only [Act.put, List.getElem_toArray, List.getElem_cons_succ, List.getElem_cons_zero, List.setIfInBounds_toArray, List.set_cons_zero, List.set_cons_succ])
          refine wpAnyF_take (i := 12) (oi := _) (v := ?_) rfl (by kernel_rfl) (by kernel_rfl) (by kernel_rfl) (by kernel_rfl) (fun _ _ _ h => h) (Or.inl ⟨by rfl, ?_⟩) (by assumption) ?_
          rotate_left 1
          · intro w hSw
            (try dsimp only at hSw)
            (first | (go_simp; done) | (go_simp; with_reducible rfl))
          (try simp only [Act.put, List.getElem_toArray, List.getElem_cons_succ, List.getElem_cons_zero, List.setIfInBounds_toArray, List.set_cons_zero, List.set_cons_succ])
          refine wpAnyF_take (i := 13) (oi := _) (v := ?_) rfl (by kernel_rfl) (by kernel_rfl) (by kernel_rfl) (by kernel_rfl) (fun _ _ _ h => h) (Or.inl ⟨by rfl, ?_⟩) (by assumption) ?_
          rotate_left 1
          · intro w hSw
            (try dsimp only at hSw)
            (first | (go_simp; done) | (go_simp; with_reducible rfl))
          (try simp only [Act.put, List.getElem_toArray, List.getElem_cons_succ, List.getElem_cons_zero, List.setIfInBounds_toArray, List.set_cons_zero, List.set_cons_succ])
          refine wpAnyF_ready (rs := [6]) (by kernel_rfl) (by simp) ?_
          refine AllReadyF.cons (o := _) rfl (fun K hK => ?_) AllReadyF.nil
          go_simp
          (go_at_call 12)
          refine (rencode14_any cnt n c5 A5 es HCL.out (mayG_k hM) (by omega) _ (by have := (HQ.out.below HC2.out).v; rw [← HN9.out] at this; exact this)).mono ?_
          rintro e v6 ⟨gE, cE, rfl, hblk6, hb6⟩
          rw [← HN9.out]
          obtain ⟨Ah, ch, q1, q2⟩ := hblk6.2 0 (by rw [blks_len]; omega)
          rw [blksL_all, List.getD_cons_zero, head_len] at q1 q2
          have HC6 : Hid (Below wr.heap.size wr v6) := Lib.hid (HC2.out.trans (hb6.mono HC2.out.size))
          have qc := conv_at q2
          obtain ⟨sb, hsb⟩ : ∃ sb, ((str (headL cnt es)).toList == (str F).toList) = sb := ⟨_, rfl⟩
          have HSB : Hid (sb = true ↔ headL cnt es = F) := Lib.hid (by rw [← hsb, str_toList q2.byte HFB.out, decide_eq_true_iff])
          rw [← HSF.out] at hsb
          have hen : (0 : Int) < (n : Int) + 1 := by omega
          generalize str (headL cnt es) = sH at *
          clear hblk6 hb6 q2
          refine hK.out _ _ (HK9.out _ HC6.out) (fun hHeld6 => ?_)
          clear hK K
          (try simp only [Act.put, List.getElem_toArray, List.getElem_cons_succ, List.getElem_cons_zero, List.setIfInBounds_toArray, List.set_cons_zero, List.set_cons_succ])
          refine wpAnyF_ready (rs := [7]) (by kernel_rfl) (by simp) ?_
          refine AllReadyF.cons (o := _) rfl (fun K hK => ?_) AllReadyF.nil
          go_simp
          refine hK.out _ _ (HK9.out _ HC6.out) (fun hHeld7 => ?_)
          clear hK K
          (try simp only [Act.put, List.getElem_toArray, List.getElem_cons_succ, List.getElem_cons_zero, List.setIfInBounds_toArray, List.set_cons_zero, List.set_cons_succ])
          refine wpAnyF_ready (rs := [8]) (by kernel_rfl) (by simp) ?_
          refine AllReadyF.cons (o := _) rfl (fun K hK => ?_) AllReadyF.nil
          go_simp
          refine hK.out _ _ (HK9.out _ HC6.out) (fun hHeld8 => ?_)
          clear hK K
          (try simp only [Act.put, List.getElem_toArray, List.getElem_cons_succ, List.getElem_cons_zero, List.setIfInBounds_toArray, List.set_cons_zero, List.set_cons_succ])
          refine wpAnyF_ready (rs := [9]) (by kernel_rfl) (by simp) ?_
          refine AllReadyF.cons (o := _) rfl (fun K hK => ?_) AllReadyF.nil
          go_simp
          refine hK.out _ _ (HK9.out _ HC6.out) (fun hHeld9 => ?_)
          clear hK K
          (try simp only [Act.put, List.getElem_toArray, List.getElem_cons_succ, List.getElem_cons_zero, List.setIfInBounds_toArray, List.set_cons_zero, List.set_cons_succ])
          refine wpAnyF_take (i := 14) (oi := _) (v := ?_) rfl (by kernel_rfl) (by kernel_rfl) (by kernel_rfl) (by kernel_rfl) (fun _ _ _ h => h) (Or.inl ⟨by rfl, ?_⟩) (by assumption) ?_
          rotate_left 1
          · intro w hSw
            (try dsimp only at hSw)
            (first | (go_simp; done) | (go_simp; with_reducible rfl))
          (try simp only [Act.put, List.getElem_toArray, List.getElem_cons_succ, List.getElem_cons_zero, List.setIfInBounds_toArray, List.set_cons_zero, List.set_cons_succ])
          refine wpAnyF_take (i := 15) (oi := _) (v := ?_) rfl (by kernel_rfl) (by kernel_rfl) (by kernel_rfl) (by kernel_rfl) (fun _ _ _ h => h) (Or.inl ⟨by rfl, ?_⟩) (by assumption) ?_
          rotate_left 1
          · intro w hSw
            (try dsimp only at hSw)
            (first | (go_simp; done) | (go_simp; with_reducible rfl))
          (try simp only [Act.put, List.getElem_toArray, List.getElem_cons_succ, List.getElem_cons_zero, List.setIfInBounds_toArray, List.set_cons_zero, List.set_cons_succ])
          refine wpAnyF_done (by kernel_rfl) ?_ _
          clear hHeld hHeld2 hHeld6 hHeld7 hHeld8 hHeld9 q1 qc
          cases sb with
          | false =>
            have hR : v6.heap[w.heap.size + 1]? = some (.cells #[.int .u64 0, .slice none 0 0] 27 (0, 0)) := (HC6.out.block _ HR1.out.lt).trans HR1.out
            have HRX := Lib.hid hR
            have dd0 : v6.cell? ⟨w.heap.size + 1, 0, none⟩ = some (.int .u64 0) := blk_cell hR 0
            have dd1 : v6.cell? ⟨w.heap.size + 1, 1, none⟩ = some (.slice none 0 0) := blk_cell hR 1
            have ff0 := blk_free hR 0
            have ff1 := blk_free hR 1
            have HFX : Hid (((v6.setCell ⟨w.heap.size + 1, 0, none⟩ (.int .u64 0)).setCell ⟨w.heap.size + 1, 1, none⟩ (.slice none 0 0)).heap[w.heap.size + 1]? = some (.cells #[.int .u64 0, .slice none 0 0] 27 (0, 0))) := Lib.hid (by
              have h := blk_set (blk_set hR 0 (.int .u64 0)) 1 (.slice none 0 0)
              simpa using h)
            have HIL : Hid ((Try.prog.info? 27).map (·.size) = some (#[.int .u64 0, .slice none 0 0] : Array Value).size) := Lib.hid (by rw [show (#[.int .u64 0, .slice none 0 0] : Array Value).size = 2 from rfl]; kernel_rfl)
            have HBFX : Hid (Below w.heap.size w ((v6.setCell ⟨w.heap.size + 1, 0, none⟩ (.int .u64 0)).setCell ⟨w.heap.size + 1, 1, none⟩ (.slice none 0 0))) := Lib.hid (((HB.out.trans (HC6.out.mono HB.out.size)).setCell (p := ⟨w.heap.size + 1, 0, none⟩) (by show w.heap.size ≤ w.heap.size + 1; omega) _).setCell (p := ⟨w.heap.size + 1, 1, none⟩) (by show w.heap.size ≤ w.heap.size + 1; omega) _)
            have HF := Lib.hid (show RPQ w p t F Ls (.returned (.tuple #[.agg #[.int .u64 0, .slice none 0 0], .bool false])) ((v6.setCell ⟨w.heap.size + 1, 0, none⟩ (.int .u64 0)).setCell ⟨w.heap.size + 1, 1, none⟩ (.slice none 0 0)) from ⟨0, [], none, 0, 0, false, rfl, HBFX.out, ⟨rfl, fun h => absurd h (by omega)⟩, fun b o e => (by cases e), .inr ⟨by rw [HEQ.out, HCC.out]; exact fun h => Bool.false_ne_true (HSB.out.mpr h.2), rfl, rfl, rfl⟩⟩)
            clear hR
            go_wp2
            exact bodyPost_ret (v := .tuple #[.agg #[.int .u64 0, .slice none 0 0], .bool false]) (results_row_num rfl _ _ _ 27 _ (0, 0) _ _ rfl rfl HFX.out Try.underlying27 rfl HIL.out) rfl HF.out
          | true =>
            obtain ⟨x0, x1, x2, x3, x4, x5⟩ := HK9.out v6 HC6.out
            clear x0 x1 x4 x5
            have hR : v6.heap[w.heap.size + 1]? = some (.cells #[.int .u64 0, .slice none 0 0] 27 (0, 0)) := (HC6.out.block _ HR1.out.lt).trans HR1.out
            have HRX := Lib.hid hR
            have dd0 : v6.cell? ⟨w.heap.size + 1, 0, none⟩ = some (.int .u64 0) := blk_cell hR 0
            have dd1 : v6.cell? ⟨w.heap.size + 1, 1, none⟩ = some (.slice none 0 0) := blk_cell hR 1
            have ff0 := blk_free hR 0
            have ff1 := blk_free hR 1
            have HFX : Hid (((v6.setCell ⟨w.heap.size + 1, 0, none⟩ (.int .u64 (cnt : Int))).setCell ⟨w.heap.size + 1, 1, none⟩ (.slice A5 n c5)).heap[w.heap.size + 1]? = some (.cells #[.int .u64 (cnt : Int), .slice A5 n c5] 27 (0, 0))) := Lib.hid (by
              have h := blk_set (blk_set hR 0 (.int .u64 (cnt : Int))) 1 (.slice A5 n c5)
              simpa using h)
            have HIL : Hid ((Try.prog.info? 27).map (·.size) = some (#[.int .u64 (cnt : Int), .slice A5 n c5] : Array Value).size) := Lib.hid (by rw [show (#[.int .u64 (cnt : Int), .slice A5 n c5] : Array Value).size = 2 from rfl]; kernel_rfl)
            have HBFX : Hid (Below w.heap.size w ((v6.setCell ⟨w.heap.size + 1, 0, none⟩ (.int .u64 (cnt : Int))).setCell ⟨w.heap.size + 1, 1, none⟩ (.slice A5 n c5))) := Lib.hid (((HB.out.trans (HC6.out.mono HB.out.size)).setCell (p := ⟨w.heap.size + 1, 0, none⟩) (by show w.heap.size ≤ w.heap.size + 1; omega) _).setCell (p := ⟨w.heap.size + 1, 1, none⟩) (by show w.heap.size ≤ w.heap.size + 1; omega) _)
            have HF := Lib.hid (show RPQ w p t F Ls (.returned (.tuple #[.agg #[.int .u64 (cnt : Int), .slice A5 n c5], .bool true])) ((v6.setCell ⟨w.heap.size + 1, 0, none⟩ (.int .u64 (cnt : Int))).setCell ⟨w.heap.size + 1, 1, none⟩ (.slice A5 n c5)) from by
                have hq := (HQ.out.below HC6.out).box (x := 0) HRX.out (w' := ((v6.setCell ⟨w.heap.size + 1, 0, none⟩ (.int .u64 (cnt : Int))).setCell ⟨w.heap.size + 1, 1, none⟩ (.slice A5 n c5))) (fun k hk => (Below.heap_setCell _ _ _ k hk).trans (Below.heap_setCell _ _ _ k hk)) (by rw [size_set, size_set])
                have hv := hq.v
                have hz := hq.z
                rw [← HN9.out] at hv hz
                exact ⟨cnt, es, A5, n, c5, true, rfl, HBFX.out, hv, hz, .inl ⟨by rw [HEQ.out]; exact hM, by rw [HCC.out, HEQ.out]; exact HSB.out.mp rfl, HCC.out.symm, HEQ.out.symm, rfl⟩⟩)
            clear hR
            go_wp2
            exact bodyPost_ret (v := .tuple #[.agg #[.int .u64 (cnt : Int), .slice A5 n c5], .bool true]) (results_row_num rfl _ _ _ 27 _ (0, 0) _ _ rfl rfl HFX.out Try.underlying27 rfl HIL.out) rfl HF.out
end Go.Proofs.Ytnalebocfbbpdaa
