/-
  logf: Encode of a log that may be.
-/
import Derived.Test.YtnalebocfbbpdaaLgJ
namespace Go.Proofs.Ytnalebocfbbpdaa
open Go.RowKit Go
set_option linter.unusedVariables false
set_option linter.unusedSimpArgs false
set_option maxRecDepth 100000
theorem BrO.base {w : World} {B B' : Nat} {v : Value} {Ls : List (List Nat)} (h : BrO w B v Ls) (hB : B' ≤ B) : BrO w B' v Ls := by
  obtain ⟨vs, h1, h2⟩ := h
  exact ⟨vs, ⟨h1.1, h1.2.elim Or.inl (fun ⟨g, cap, cur, hv, hg, r⟩ => Or.inr ⟨g, cap, cur, hv, Nat.le_trans hB hg, r⟩)⟩, h2⟩
def blksL (cnt : Nat) (es : List (Int × List Nat)) (k : Nat) : List (List Nat) := headL cnt es :: (es.take k).map (·.2)
def EncTo (w : World) (cnt : Nat) (es : List (Int × List Nat)) (e : Ending) (w' : World) : Prop :=
  ∃ v, e = .returned (.tuple #[v, .int .i64 0]) ∧ BrO w' w.heap.size v (blksL cnt es es.length) ∧ Below w.heap.size w w'
theorem headL_byte (cnt : Nat) (es : List (Int × List Nat)) (i : Nat) : (headL cnt es).getD i 0 < 256 := by
  unfold headL
  exact padL_byte (app_byte (headF_byte cnt es) (kL_byte es _)) 256 i
theorem mayL_k {t se : Nat} {es : List (Int × List Nat)} (hm : MayL t se es) (hse : se ≤ 65536) : KOk es := by
  obtain ⟨h1, h2, h3⟩ := hm
  have key : ∀ i, i < es.length → 0 ≤ kAt es i ∧ kAt es i < (se : Int) := fun i => by
    induction i with
    | zero => intro hi; have := h3 0 hi; unfold MisAt Mis at this; rw [show prevK es 0 = -1 from rfl] at this; omega
    | succ i ih =>
      intro hi
      have h4 := ih (by omega)
      have := h3 (i + 1) hi
      unfold MisAt Mis at this
      rw [show prevK es (i + 1) = kAt es i from rfl] at this
      omega
  exact fun i hi => ⟨(key i hi).1, by have := (key i hi).2; omega⟩
set_option maxHeartbeats 4000000 in
theorem encode_yes (p t cnt b o c : Nat) (es : List (Int × List Nat)) (hcnt : cnt < 2 ^ 64) (h : Geo.May p t) (hm : MayL t (Geo.se p) es) (hse : Geo.se p ≤ 65536) (w : World) (hE : EsB w b o es) :
    Calls Try.prog 6 #[.agg #[.int .i64 (p : Int), .int .i64 (t : Int)], .agg #[.int .u64 (cnt : Int), .slice (some ⟨b, o, none⟩) es.length c]] w (EncTo w cnt es) := by
  have ht24 : t ≤ 24 := by unfold Geo.May at h; omega
  have hn : es.length ≤ 24 := by have := hm.2.1; omega
  have hn1 := hm.1
  have hd : ∀ i, i < es.length → (dAt es i).length = 256 := fun i hi => by have := hm.2.2 i hi; unfold MisAt Mis at this; omega
  obtain ⟨W0, hW⟩ : ∃ W0, W0 = (w.alloc (.cells #[.int .i64 (p : Int), .int .i64 (t : Int)] 23)).alloc (.cells #[.int .u64 (cnt : Int), .slice (some ⟨b, o, none⟩) es.length c] 35) := ⟨_, rfl⟩
  have hb0 : Below w.heap.size w W0 := by rw [hW]; exact ((Below.refl _ _).alloc (Nat.le_refl _) _).alloc (by simp) _
  have hE0 := hE.below hb0
  have hx0 : W0.heap[w.heap.size]? = some (.cells #[.int .i64 (p : Int), .int .i64 (t : Int)] 23 (0, 0)) := by rw [hW]; exact blk_alloc (heap_alloc_new w _) _
  have hx1 : W0.heap[w.heap.size + 1]? = some (.cells #[.int .u64 (cnt : Int), .slice (some ⟨b, o, none⟩) es.length c] 35 (0, 0)) := by
    have := heap_alloc_new (w.alloc (.cells #[.int .i64 (p : Int), .int .i64 (t : Int)] 23)) (.cells #[.int .u64 (cnt : Int), .slice (some ⟨b, o, none⟩) es.length c] 35)
    rw [show (w.alloc (.cells #[.int .i64 (p : Int), .int .i64 (t : Int)] 23)).heap.size = w.heap.size + 1 by simp, ← hW] at this
    exact this
  have HMAY := Lib.hid (lmay_yes p t cnt b o c es h hm W0 hE0)
  have HHEAD : Hid (∀ W, Below W0.heap.size W0 W → Calls Try.prog 20 #[.agg #[.int .u64 (cnt : Int), .slice (some ⟨b, o, none⟩) es.length c]] W (GivesO W (headL cnt es))) := Lib.hid (fun W hW => head_any cnt es.length c (some ⟨b, o, none⟩) es W hcnt ⟨rfl, fun _ => ⟨b, o, rfl, hE0.below hW⟩⟩ (mayL_k hm hse) (by omega))
  have HE0 := Lib.hid hE0
  have HB0 := Lib.hid hb0
  have HX0 := Lib.hid hx0
  have HX1 := Lib.hid hx1
  have HHB := Lib.hid (headL_byte cnt es)
  have HD := Lib.hid hd
  have HL := Lib.hid (Eq.refl es.length)
  obtain ⟨n, hnn⟩ : ∃ n, n = es.length := ⟨_, rfl⟩
  have HN := Lib.hid hnn.symm
  have HBK0 : Hid (blksL cnt es 0 = [headL cnt es]) := Lib.hid rfl
  have HW := Lib.hid hW
  rw [← hnn] at HMAY HHEAD HX1 HW hn hn1 ⊢
  clear hE hE0 hb0 hx0 hx1 hm h hd hcnt hW hnn
  go_enter Try.func6, Try.ntmps6
  go_wp2_with fail
  rw [← HW.out]
  refine HMAY.out.mono ?_
  rintro e w1 ⟨rfl, hb1⟩
  have HB1 := Lib.hid hb1
  have k0 : w1.cell? ⟨w.heap.size + 1, 0, none⟩ = some (.int .u64 (cnt : Int)) := blk_cell ((hb1.block _ (blk_lt HX1.out)).trans HX1.out) 0
  have k1 : w1.cell? ⟨w.heap.size + 1, 1, none⟩ = some (.slice (some ⟨b, o, none⟩) n c) := blk_cell ((hb1.block _ (blk_lt HX1.out)).trans HX1.out) 1
  clear hb1
  go_wp2_with fail
  refine (HHEAD.out w1 HB1.out).mono ?_
  rintro e w2 ⟨v2, rfl, hown2, hb2⟩
  have HB2 : Hid (Below W0.heap.size W0 w2) := Lib.hid (HB1.out.trans (hb2.mono HB1.out.size))
  have hbq : Below w2.heap.size w2 (w2.alloc (.cells #[v2] 42)) := (Below.refl _ _).alloc (Nat.le_refl _) _
  have HBR : Hid (BrO (w2.alloc (.cells #[v2] 42)) W0.heap.size (.slice (some ⟨w2.heap.size, 0, none⟩) 1 1) (blksL cnt es 0)) := Lib.hid (by rw [HBK0.out]; exact BrO.one HB2.out.size (hown2.base (Nat.zero_le _)) HHB.out)
  have HB3 : Hid (Below W0.heap.size W0 (w2.alloc (.cells #[v2] 42))) := Lib.hid (HB2.out.trans (hbq.mono HB2.out.size))
  have r1 : (w2.alloc (.cells #[v2] 42)).cell? ⟨w.heap.size + 1, 1, none⟩ = some (.slice (some ⟨b, o, none⟩) n c) := blk_cell ((HB3.out.block _ (blk_lt HX1.out)).trans HX1.out) 1
  obtain ⟨Av, cv, rfl, _⟩ := hown2.bs HHB.out
  clear hown2 hb2 hbq k0 k1
  generalize (headL cnt es).length = hl at *
  go_wp2
  go_loopw [6, 19] (fun v iv wr => ∃ k : Nat, iv = .int .i64 (k : Int) ∧ k ≤ n ∧ BrO wr W0.heap.size v (blksL cnt es k) ∧ Below W0.heap.size W0 wr) (fun _ iv _ => n - (intOf iv).toNat)
  case atStart => exact ⟨0, rfl, by omega, HBR.out, HB3.out⟩
  case round =>
    obtain ⟨k, rfl, hk, hbr, hb⟩ := hrel
    have HBK := Lib.hid hbr
    have HB := Lib.hid hb
    clear hbr hb
    by_cases hlt : k < n
    · obtain ⟨A1, c1, q1, q2, q3⟩ := HE0.out.2 k (by rw [HN.out]; exact hlt)
      have p1 : wr.cell? ⟨b, o + k * 2, none⟩ = some (.int .i64 (kAt es k)) := (HB.out.cell (p := ⟨b, o + k * 2, none⟩) HE0.out.1).trans q1
      have p2 : wr.cell? ⟨b, o + k * 2 + 1, none⟩ = some (.slice A1 (dAt es k).length c1) := (HB.out.cell (p := ⟨b, o + k * 2 + 1, none⟩) HE0.out.1).trans q2
      have HS1 : Hid (BS W0 W0.heap.size A1 (dAt es k).length c1 (dAt es k)) := Lib.hid q3
      have hd := HD.out k (by rw [HN.out]; exact hlt)
      have HKS : Hid (blksL cnt es (k + 1) = blksL cnt es k ++ [dAt es k]) := Lib.hid (by
        have hke : k < es.length := by rw [HN.out]; exact hlt
        unfold blksL
        rw [List.take_succ_eq_append_getElem hke, List.map_append]
        have e1 : dAt es k = (es[k]).2 := by unfold dAt; simp [List.getD, List.getElem?_eq_getElem hke]
        rw [e1]; rfl)
      have HKL : Hid ((blksL cnt es k).length < 1000) := Lib.hid (by unfold blksL; rw [List.length_cons, List.length_map, List.length_take]; omega)
      have HDB : Hid (∀ j, (dAt es k).getD j 0 < 256) := Lib.hid q3.byte
      rw [hd] at p2 HS1
      have HDL := Lib.hid hd
      generalize dAt es k = d at *
      generalize kAt es k = X at *
      have HA5 : Hid (Below wr.heap.size wr (wr.alloc (.cells #[.int .i64 X, .slice A1 256 c1] 58))) := Lib.hid ((Below.refl _ _).alloc (Nat.le_refl _) _)
      have HB5 := Lib.hid (HB.out.trans (HA5.out.mono HB.out.size))
      clear q1 q2 q3 hd
      go_wp2_with fail
      generalize wr.alloc (.cells #[.int .i64 X, .slice A1 256 c1] 58) = W5 at *
      refine (bclone_own A1 256 c1 d W5 ((HS1.out.below HB5.out).more HB5.out.size) (by omega)).mono ?_
      rintro e w8 ⟨v8, rfl, hown8, hb8⟩
      have HO8 : Hid (Own w8 0 v8 d) := Lib.hid (hown8.base (Nat.zero_le _))
      have HB8 := Lib.hid (HB5.out.trans (hb8.mono HB5.out.size))
      have HBR8 := Lib.hid ((HBK.out.below HA5.out).below hb8)
      have HSZ : Hid (W0.heap.size ≤ w8.heap.size) := Lib.hid HB8.out.size
      obtain ⟨A8, c8, rfl, _⟩ := hown8.bs HDB.out
      clear hown8 hb8
      go_wp2_with (at_builtin; refine wp_appBr w8 rfl (.tmp 23) (.tmp 27) rfl W0.heap.size u6 (.slice A8 d.length c8) (blksL cnt es k) d rfl HBR8.out HKL.out rfl HO8.out HDB.out HSZ.out ?_; intro v' w9 hbr9 hb9; have HBR9 := Lib.hid hbr9; have HB9 : Hid (Below W0.heap.size W0 w9) := Lib.hid (HB8.out.trans hb9); clear hbr9 hb9)
      go_roundw
      case rel => exact ⟨k + 1, by simp, by omega, by rw [HKS.out]; exact HBR9.out, HB9.out⟩
      case measure => simp [intOf]; omega
    · obtain rfl : k = n := by omega
      have HF : Hid (EncTo w cnt es (.returned (.tuple #[u6, .int .i64 0])) wr) := Lib.hid ⟨u6, rfl, by rw [HN.out]; exact HBK.out.base HB0.out.size, HB0.out.trans (HB.out.mono HB0.out.size)⟩
      go_wp2
      go_ret2
      exact HF.out
end Go.Proofs.Ytnalebocfbbpdaa
