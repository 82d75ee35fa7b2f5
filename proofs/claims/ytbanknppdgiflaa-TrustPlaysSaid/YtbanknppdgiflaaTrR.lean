/-
  TrustPlays' walk.
-/
import Derived.Test.YtbanknppdgiflaaTrQ
import Derived.Deep.DeepCutAuto
import Derived.Deep.CutBlock
import Derived.Deep.LoopGhost
import Derived.BigRegion
namespace Go.Proofs.Ytbanknppdgiflaa
open Go.RowKit Go
set_option linter.unusedVariables false
set_option linter.unusedSimpArgs false
def DuoR (w0 : World) (t g b r rg bp bm n : Nat) (iv : Value) (W : World) : Prop := ∃ (i : Nat) (s : St), iv = .int .i64 (i : Int) ∧ i ≤ 40 ∧ i ≤ n ∧ s.k ≤ i ∧ Duo w0 t g b r rg bp bm nilX s s W
theorem built_rg (f : Nat → Value) (g : Nat) : Try.prog.built RgT [(0, .agg (rowV f 33)), (1, .pointer (some ⟨g, 0, none⟩))] = some (rowV (rgF f (.pointer (some ⟨g, 0, none⟩))) 34) := by kernel_rfl
/-- what region 2 leaves -/
def Two (w0 : World) (g b rg bp bm c0 : Nat) (l0 : List Nat) (tv rv : Value) (W : World) : Prop :=
  ∃ t r, tv = .pointer (some ⟨t, 0, none⟩) ∧ rv = .pointer (some ⟨r, 0, none⟩) ∧ Duo w0 t g b r rg bp bm nilX ⟨c0, l0, false, 0, 0⟩ ⟨c0, l0, false, 0, 0⟩ W
/-- region 2, At ahead of the box -/
theorem two_A {w w2 w3 : World} {g b rg bp bm c0 m : Nat} {l0 : List Nat} {lv : Value} {nA : Option Addr} {gg : Array Value} (hc : c0 < 2 ^ 64) (hB : Below w.heap.size w w2) (hd : DevQ w2 g b 1 1 false (.slice none 0 0) 0 [] 0 (.slice none 0 0)) (hq : RdQ w2 rg bp bm 64 64 lv nA false 0 (.slice none 0 0) (.slice none 0 0) 0 [])
    (hbg : w.heap.size ≤ b ∧ b < g ∧ g < m) (hlt : m ≤ bp ∧ m ≤ bm ∧ m ≤ rg ∧ rg < w2.heap.size) (ht : w3.heap[w2.heap.size + 1]? = some (.cells (rowV (trF (regF c0 l0) (.func (Fn.func 17) #[.pointer (some ⟨g, 0, none⟩)] #[]) (.func (Fn.func 20) #[.pointer (some ⟨g, 0, none⟩)] #[])) 35) 60 (0, 0)))
    (hb : Below w2.heap.size w2.drew w3) (hgg : gg = rowV (rgF (regF c0 l0) (.pointer (some ⟨rg, 0, none⟩))) 34) : Duo w (w2.heap.size + 1) g b w3.heap.size rg bp bm nilX ⟨c0, l0, false, 0, 0⟩ ⟨c0, l0, false, 0, 0⟩ (w3.alloc (.cells gg RgT)) := by
  have hb2 : Below w2.heap.size w2 w3 := ((Below.refl _ _).drew).trans hb
  have hb4 : Below w2.heap.size w2 (w3.alloc (.cells gg RgT)) := hb2.alloc hb2.size _
  have e1 := blk_lt ht
  refine duo_start (m := m) (m2 := w2.heap.size) hc (hB.trans (hb4.mono hB.size)) (Cells.of_blk (blk_alloc ht _) (fun i hi => rowV_at _ hi)) (hd.next hb4) (Cells.of_blk (heap_alloc_new w3 _) (fun i hi => by rw [hgg]; exact rowV_at _ hi)) (hq.next hb4) hbg.1 hbg.2.2 hlt.1 hlt.2.1 hlt.2.2.2 (by omega) (by omega) (by omega)
theorem two_B {w w2 w3 : World} {g b rg bp bm c0 m : Nat} {l0 : List Nat} {lv : Value} {nA : Option Addr} {gg : Array Value} (hc : c0 < 2 ^ 64) (hB : Below w.heap.size w w2) (hd : DevQ w2 g b 1 1 false (.slice none 0 0) 0 [] 0 (.slice none 0 0)) (hq : RdQ w2 rg bp bm 64 64 lv nA false 0 (.slice none 0 0) (.slice none 0 0) 0 [])
    (hbg : w.heap.size ≤ b ∧ b < g ∧ g < m) (hlt : m ≤ bp ∧ m ≤ bm ∧ m ≤ rg ∧ rg < w2.heap.size) (ht : w3.heap[w2.heap.size + 1 + 1]? = some (.cells (rowV (trF (regF c0 l0) (.func (Fn.func 17) #[.pointer (some ⟨g, 0, none⟩)] #[]) (.func (Fn.func 20) #[.pointer (some ⟨g, 0, none⟩)] #[])) 35) 60 (0, 0)))
    (hb : Below (w2.heap.size + 1) (w2.alloc (.cells gg RgT)).drew w3) (hgg : gg = rowV (rgF (regF c0 l0) (.pointer (some ⟨rg, 0, none⟩))) 34) : Duo w (w2.heap.size + 1 + 1) g b w2.heap.size rg bp bm nilX ⟨c0, l0, false, 0, 0⟩ ⟨c0, l0, false, 0, 0⟩ w3 := by
  have hr := heap_alloc_new w2 (.cells gg RgT)
  have hr3 : w3.heap[w2.heap.size]? = some (.cells gg RgT (0, 0)) := (hb.block _ (by omega)).trans hr
  have hb4 : Below w2.heap.size w2 w3 := ((Below.refl _ _).alloc (Nat.le_refl _) _).drew.trans (hb.mono (by omega))
  exact duo_start (m := m) (m2 := w2.heap.size) hc (hB.trans (hb4.mono hB.size)) (Cells.of_blk ht (fun i hi => rowV_at _ hi)) (hd.next hb4) (Cells.of_blk hr3 (fun i hi => by rw [hgg]; exact rowV_at _ hi)) (hq.next hb4) hbg.1 hbg.2.2 hlt.1 hlt.2.1 hlt.2.2.2 (by omega) (by omega) (by omega)
set_option maxHeartbeats 8000000 in
set_option maxRecDepth 100000 in
theorem trustPlays_any (c0 : Nat) (l0 : List Nat) (hc0 : c0 < 2 ^ 64) (A : Option Addr) (n cA : Nat) (w : World) (h : OpsQ w A n) (hn : n ≤ 9223372036854775807) (hnc : n ≤ cA) :
    Calls Try.prog 3 #[.agg (rowV (regF c0 l0) 33), .slice A n cA] w fun e w' => e = .returned (.bool true) ∧ Below w.heap.size w w' := by
  have HAT := Lib.hid (fun g W => at9_any g (regF c0 l0) W)
  have HIR := Lib.hid (info_reg (regF c0 l0))
  have HAW := Lib.hid (fun W => awake9_any W)
  have HOP := Lib.hid h
  obtain ⟨rr, hrr⟩ : ∃ z, z = rowV (regF c0 l0) 33 := ⟨_, rfl⟩
  have HRR := Lib.hid hrr
  rw [← hrr] at HAT HIR ⊢
  obtain ⟨W1, hW1⟩ : ∃ W1, W1 = w.alloc (.cells rr RegT) := ⟨_, rfl⟩
  have HNQ := Lib.hid (newQ1_any W1)
  have HRN := Lib.hid rnew_any
  have HR : Hid (W1.heap[w.heap.size]? = some (.cells rr RegT (0, 0))) := Lib.hid (by rw [hW1]; exact heap_alloc_new w _)
  have HB1 : Hid (Below w.heap.size w W1) := Lib.hid (by rw [hW1]; exact (Below.refl _ _).alloc (Nat.le_refl _) _)
  have HS1 : Hid (W1.heap.size = w.heap.size + 1) := Lib.hid (by rw [hW1]; simp)
  have HW1 := Lib.hid hW1
  obtain ⟨z2, hz2⟩ : ∃ z, z = rowV (regF 0 []) 33 := ⟨_, rfl⟩
  have hzr := zero_reg
  rw [← hz2] at hzr
  have HZ2 : Hid (z2.size = 33) := Lib.hid (by rw [hz2, rowV_size])
  obtain ⟨zz, hzz⟩ : ∃ z, z = rowV opZ 36 := ⟨_, rfl⟩
  have hzo := zero_op
  rw [← hzz] at hzo
  have HZZ : Hid (zz.size = 36) := Lib.hid (by rw [hzz, rowV_size])
  have HC0 := Lib.hid hc0
  clear h hrr hW1 hz2 hzz hc0
  go_enter Try.func3, Try.ntmps3
  go_wp2_with fail
  rw [← HW1.out]
  refine HNQ.out.mono ?_
  rintro e w1 ⟨rfl, hdq, hb1, hs1⟩
  obtain ⟨b, hb⟩ : ∃ b, b = W1.heap.size := ⟨_, rfl⟩
  obtain ⟨g, hg⟩ : ∃ g, g = W1.heap.size + 1 := ⟨_, rfl⟩
  rw [← hg, ← hb] at hdq
  rw [← hg]
  have HR1 : Hid (w1.heap[w.heap.size]? = some (.cells rr RegT (0, 0))) := Lib.hid ((hb1.block _ (by rw [HS1.out]; omega)).trans HR.out)
  have HDQ := Lib.hid hdq
  have HBB : Hid (Below w.heap.size w w1) := Lib.hid (HB1.out.trans (hb1.mono HB1.out.size))
  have HBG : Hid (w.heap.size ≤ b ∧ b < g ∧ g < w1.heap.size) := Lib.hid ⟨by have := HS1.out; omega, by omega, by omega⟩
  clear hdq hb1 hs1 hg hb
  go_wp2_with fail
  refine (HRN.out _).mono ?_
  rintro e w2 ⟨rg, bp, bm, lv, nA, rfl, hrq, hb2, hbp, hbm, hrg⟩
  have HR2 : Hid (w2.heap[w.heap.size]? = some (.cells rr RegT (0, 0))) := Lib.hid ((hb2.block _ (blk_lt HR1.out)).trans HR1.out)
  have HDQ2 := Lib.hid (HDQ.out.next hb2)
  have HRQ := Lib.hid hrq
  have HBB2 : Hid (Below w.heap.size w w2) := Lib.hid (HBB.out.trans (hb2.mono HBB.out.size))
  have HLT : Hid (w1.heap.size ≤ bp ∧ w1.heap.size ≤ bm ∧ w1.heap.size ≤ rg ∧ rg < w2.heap.size) := Lib.hid ⟨hbp, hbm, hrg, hrq.dev.lt⟩
  clear hrq hb2 hbp hbm hrg HDQ HR1 HBB HR HB1 HNQ HRN
  go_upto_region 2 with (fail)
  go_cut [7, 8] (fun tv rv wx => Two w g b rg bp bm c0 l0 tv rv wx)
  case first =>
    obtain ⟨gg, hgg⟩ : ∃ z, z = rowV (rgF (regF c0 l0) (.pointer (some ⟨rg, 0, none⟩))) 34 := ⟨_, rfl⟩
    have HBG2 : Hid (Try.prog.built RgT [(0, .agg rr), (1, .pointer (some ⟨rg, 0, none⟩))] = some gg) := Lib.hid (by rw [HRR.out, hgg]; exact built_rg _ _)
    have HGG := Lib.hid hgg
    clear hgg
    refine wp_region_F (S := (fun W => W.heap[w.heap.size]? = some (.cells rr RegT (0, 0)))) [] (by kernel_rfl) (HR2.out) (fun hHeld => ?_)
    refine wpAnyF_take (i := 0) (oi := _) (v := ?_) rfl (by kernel_rfl) (by kernel_rfl) (by kernel_rfl) (by kernel_rfl) (fun _ _ _ h => h) (Or.inl ⟨by rfl, ?_⟩) (by assumption) ?_
    rotate_left 1
    · intro w hSw
      (try dsimp only at hSw)
      (first | (go_simp; done) | (go_simp; with_reducible rfl))
    (try simp only [Act.put, List.getElem_toArray, List.getElem_cons_succ, List.getElem_cons_zero, List.setIfInBounds_toArray, List.set_cons_zero, List.set_cons_succ])
    refine wpAnyF_take (i := 1) (oi := _) (v := _) rfl (by kernel_rfl) (by kernel_rfl) (by kernel_rfl) (by kernel_rfl) (fun _ _ _ h => h) (yields_rowA (by rfl) RegT (.tmp 2) rfl w.heap.size 0 rfl rr _ (fun W (h : W.heap[w.heap.size]? = some (.cells rr RegT (0, 0))) j v hv => by rw [Nat.zero_add, blk_cell h j]; simpa using hv) Try.underlying26 rfl HIR.out) (by assumption) ?_
    (try simp only [Act.put, List.getElem_toArray, List.getElem_cons_succ, List.getElem_cons_zero, List.setIfInBounds_toArray, List.set_cons_zero, List.set_cons_succ])
    refine wpAnyF_take (i := 3) (oi := _) (v := _) rfl (by kernel_rfl) (by kernel_rfl) (by kernel_rfl) (by kernel_rfl) (fun _ _ _ h => h) (yields_rowA (by rfl) RegT (.tmp 2) rfl w.heap.size 0 rfl rr _ (fun W (h : W.heap[w.heap.size]? = some (.cells rr RegT (0, 0))) j v hv => by rw [Nat.zero_add, blk_cell h j]; simpa using hv) Try.underlying26 rfl HIR.out) (by assumption) ?_
    (try simp only [Act.put, List.getElem_toArray, List.getElem_cons_succ, List.getElem_cons_zero, List.setIfInBounds_toArray, List.set_cons_zero, List.set_cons_succ])
    refine wpAnyF_take (i := 4) (oi := _) (v := ?_) rfl (by kernel_rfl) (by kernel_rfl) (by kernel_rfl) (by kernel_rfl) (fun _ _ _ h => h) (Or.inl ⟨by rfl, ?_⟩) (by assumption) ?_
    rotate_left 1
    · intro w hSw
      (try dsimp only at hSw)
      (first | (go_simp; done) | (go_simp; with_reducible rfl))
    (try simp only [Act.put, List.getElem_toArray, List.getElem_cons_succ, List.getElem_cons_zero, List.setIfInBounds_toArray, List.set_cons_zero, List.set_cons_succ])
    refine wpAnyF_take (i := 5) (oi := _) (v := _) rfl (by kernel_rfl) (by kernel_rfl) (by kernel_rfl) (by kernel_rfl) (fun _ _ _ h => h) (yields_build (by rfl) RgT #[(0, .tmp 17), (1, .tmp 18)] rfl gg (by first | exact HBG2.out | (simp [Act.eval, Act.put]; exact HBG2.out))) (by assumption) ?_
    (try simp only [Act.put, List.getElem_toArray, List.getElem_cons_succ, List.getElem_cons_zero, List.setIfInBounds_toArray, List.set_cons_zero, List.set_cons_succ])
    refine wpAnyF_ready (rs := [2, 6]) (by kernel_rfl) (by simp) ?_
    refine AllReadyF.cons (o := _) rfl (fun K hK => ?_) (AllReadyF.cons (o := _) rfl (fun K hK => ?_) AllReadyF.nil)
    · go_simp
      refine (HAT.out _ _).mono ?_
      rintro e w3 ⟨rfl, htc, hb3⟩
      (try simp only [World.size_drew, World.size_alloc] at htc hb3)
      refine hK.out _ _ ((hb3.block _ (blk_lt hHeld)).trans hHeld) (fun hHeld3 => ?_)
      clear hK K
      (try simp only [Act.put, List.getElem_toArray, List.getElem_cons_succ, List.getElem_cons_zero, List.setIfInBounds_toArray, List.set_cons_zero, List.set_cons_succ])
      refine wpAnyF_take (i := 7) (oi := _) (v := ?_) rfl (by kernel_rfl) (by kernel_rfl) (by kernel_rfl) (by kernel_rfl) (fun _ _ _ h => h) (Or.inl ⟨by rfl, ?_⟩) (by assumption) ?_
      rotate_left 1
      · intro w hSw
        (try dsimp only at hSw)
        (first | (go_simp; done) | (go_simp; with_reducible rfl))
      (try simp only [Act.put, List.getElem_toArray, List.getElem_cons_succ, List.getElem_cons_zero, List.setIfInBounds_toArray, List.set_cons_zero, List.set_cons_succ])
      refine wpAnyF_ready (rs := [6]) (by kernel_rfl) (by simp) ?_
      refine AllReadyF.cons (o := _) rfl (fun K hK => ?_) AllReadyF.nil
      rw [if_pos (by kernel_rfl)]
      refine wp_boxTo RgT (.tmp 19) rfl _ rfl gg rfl ?_
      refine hK.out _ _ ((blk_alloc hHeld3 _)) (fun hHeld4 => ?_)
      clear hK K
      (try simp only [Act.put, List.getElem_toArray, List.getElem_cons_succ, List.getElem_cons_zero, List.setIfInBounds_toArray, List.set_cons_zero, List.set_cons_succ])
      refine wpAnyF_take (i := 8) (oi := _) (v := ?_) rfl (by kernel_rfl) (by kernel_rfl) (by kernel_rfl) (by kernel_rfl) (fun _ _ _ h => h) (Or.inl ⟨by rfl, ?_⟩) (by assumption) ?_
      rotate_left 1
      · intro w hSw
        (try dsimp only at hSw)
        (first | (go_simp; done) | (go_simp; with_reducible rfl))
      (try simp only [Act.put, List.getElem_toArray, List.getElem_cons_succ, List.getElem_cons_zero, List.setIfInBounds_toArray, List.set_cons_zero, List.set_cons_succ])
      refine wpAnyF_done (by kernel_rfl) ?_ _
      have HF := Lib.hid (two_A HC0.out HBB2.out HDQ2.out HRQ.out HBG.out HLT.out htc hb3 HGG.out)
      go_wp2_with fail
      go_meet
      case rel => exact ⟨_, _, rfl, rfl, HF.out⟩
    · rw [if_pos (by kernel_rfl)]
      refine wp_boxTo RgT (.tmp 19) rfl _ rfl gg rfl ?_
      refine hK.out _ _ ((blk_alloc hHeld _)) (fun hHeld4 => ?_)
      clear hK K
      (try simp only [Act.put, List.getElem_toArray, List.getElem_cons_succ, List.getElem_cons_zero, List.setIfInBounds_toArray, List.set_cons_zero, List.set_cons_succ])
      refine wpAnyF_ready (rs := [2]) (by kernel_rfl) (by simp) ?_
      refine AllReadyF.cons (o := _) rfl (fun K hK => ?_) AllReadyF.nil
      go_simp
      refine (HAT.out _ _).mono ?_
      rintro e w3 ⟨rfl, htc, hb3⟩
      (try simp only [World.size_drew, World.size_alloc] at htc hb3)
      refine hK.out _ _ ((hb3.block _ (by simpa using blk_lt hHeld4)).trans hHeld4) (fun hHeld3 => ?_)
      clear hK K
      (try simp only [Act.put, List.getElem_toArray, List.getElem_cons_succ, List.getElem_cons_zero, List.setIfInBounds_toArray, List.set_cons_zero, List.set_cons_succ])
      refine wpAnyF_take (i := 7) (oi := _) (v := ?_) rfl (by kernel_rfl) (by kernel_rfl) (by kernel_rfl) (by kernel_rfl) (fun _ _ _ h => h) (Or.inl ⟨by rfl, ?_⟩) (by assumption) ?_
      rotate_left 1
      · intro w hSw
        (try dsimp only at hSw)
        (first | (go_simp; done) | (go_simp; with_reducible rfl))
      (try simp only [Act.put, List.getElem_toArray, List.getElem_cons_succ, List.getElem_cons_zero, List.setIfInBounds_toArray, List.set_cons_zero, List.set_cons_succ])
      refine wpAnyF_take (i := 8) (oi := _) (v := ?_) rfl (by kernel_rfl) (by kernel_rfl) (by kernel_rfl) (by kernel_rfl) (fun _ _ _ h => h) (Or.inl ⟨by rfl, ?_⟩) (by assumption) ?_
      rotate_left 1
      · intro w hSw
        (try dsimp only at hSw)
        (first | (go_simp; done) | (go_simp; with_reducible rfl))
      (try simp only [Act.put, List.getElem_toArray, List.getElem_cons_succ, List.getElem_cons_zero, List.setIfInBounds_toArray, List.set_cons_zero, List.set_cons_succ])
      refine wpAnyF_done (by kernel_rfl) ?_ _
      have HF := Lib.hid (two_B HC0.out HBB2.out HDQ2.out HRQ.out HBG.out HLT.out htc hb3 HGG.out)
      go_wp2_with fail
      go_meet
      case rel => exact ⟨_, _, rfl, rfl, HF.out⟩
  case rest =>
    obtain ⟨t, r, rfl, rfl, hduo⟩ := hcut
    have HDUO := Lib.hid hduo
    clear hduo HR2 HDQ2 HRQ HBB2 HLT HBG HAT HIR HRR HC0 HW1 HS1
    go_wp2_with fail
    go_loopg [23] n (fun gk iv W => ∃ (i : Nat) (s : St), iv = .int .i64 (i : Int) ∧ i ≤ 40 ∧ i + gk = n ∧ s.k ≤ i ∧ Duo w t g b r rg bp bm nilX s s W)
    case atStart => exact ⟨0, _, rfl, by omega, by omega, by simp, HDUO.out⟩
    case round =>
      obtain ⟨i, s, rfl, hi40, hin, hki, hC⟩ := hrel
      have HC := Lib.hid hC
      have HKI := Lib.hid hki
      clear hC HDUO hki
      by_cases hlt : i < n
      · obtain ⟨bo, oo, hA, hbo, hops⟩ := (HOP.out.below HC.out.below) (by omega)
        obtain ⟨K, B, N, c', l', hcb', hNb, hrg⟩ := hops i hlt
        subst hA
        obtain ⟨cs, hcs⟩ : ∃ cs, cs = opL K c' l' B N := ⟨_, rfl⟩
        have HCS := Lib.hid hcs
        have HRG : Hid (wr.rangeAt bo (oo + i * 36) cs) := Lib.hid (by rw [hcs]; exact hrg)
        have HIL : Hid ((Try.prog.info? OpT9).map (·.size) = some cs.length) := Lib.hid (by rw [hcs, opL_len]; exact info_op9)
        have HIA : Hid ((Try.prog.info? OpT9).map (·.size) = some cs.toArray.size) := Lib.hid (by rw [List.size_toArray, hcs, opL_len]; exact info_op9)
        have HSZ8 : Hid (zz.size = cs.toArray.size) := Lib.hid (HZZ.out.trans (by rw [List.size_toArray, hcs, opL_len]))
        have HON8 : Hid (cs.toArray.all (·.oneCell') = true) := Lib.hid (by rw [hcs]; exact all_oneCell_toArray (opL_one _ _ _ _ _))
        have ho8 := heap_alloc_new wr (.cells zz OpT9)
        have HO8 := Lib.hid ho8
        obtain ⟨V8, hV8⟩ : ∃ V8, V8 = (wr.alloc (.cells zz OpT9)).setRow wr.heap.size cs.toArray := ⟨_, rfl⟩
        have HB8 : Hid (Below wr.heap.size wr V8) := Lib.hid (by rw [hV8]; exact below_setRow (g := wr.heap.size) ((Below.refl _ _).alloc (Nat.le_refl _) _) (Nat.le_refl _) cs.toArray)
        have HP8 : Hid (V8.heap[wr.heap.size]? = some (.cells cs.toArray OpT9 (0, 0))) := Lib.hid (by rw [hV8]; exact setRow_heap _ _ _ cs.toArray _ _ ho8)
        have HV8 := Lib.hid hV8
        have HD8 := Lib.hid (HC.out.more kept_nil HB8.out (Nat.le_refl _) HP8.out)
        clear hops hcs hrg ho8 hV8
        by_cases h40 : i < 40
        · have h40i : (i : Int) < 40 := by omega
          go_upto_region 7 with (first
            | (with_reducible refine wpList_load_mid rfl OpT9 (.tmp 26) rfl bo (oo + i * 36) rfl cs _ HRG.out Try.underlying38 rfl HIL.out ?_)
            | (with_reducible refine wpList_store_row rfl OpT9 (.tmp 10) (.tmp 27) rfl _ _ rfl rfl OpT9 _ HO8.out HIA.out HSZ8.out HON8.out ?_))
          rw [← HV8.out]
          have k0 : V8.cell? ⟨wr.heap.size, 0, none⟩ = some (.int .i64 K) := (blk_cell HP8.out 0).trans (by rw [HCS.out]; rfl)
          have HU0 := Lib.hid HC.out.u
          go_upto_block 2 with (fail)
          go_cut [] (fun wc => ∃ s1 : St, s1.k ≤ i + 1 ∧ Duo w t g b r rg bp bm nilX s1 s1 wc)
          case first =>
            by_cases hk0 : K = 0
            · subst hk0
              obtain ⟨xs, hxs⟩ : ∃ z, z = rowV (regF c' l') 33 := ⟨_, rfl⟩
              have HXR : Hid (∀ W : World, W.heap[wr.heap.size]? = some (Obj.cells cs.toArray OpT9 (0, 0)) → W.rangeAt wr.heap.size 1 xs.toList) := Lib.hid (fun W hW => by rw [hxs]; rw [HCS.out] at hW; exact opL_reg hW)
              have HIX : Hid ((Try.prog.info? RegT).map (·.size) = some xs.size) := Lib.hid (by rw [hxs]; exact info_reg _)
              have HXS := Lib.hid hxs
              have HPB := HP8
              have HCB := Lib.hid hcb'
              have HBLK : Hid (∀ {s s2 : St} {W : World}, Duo w t g b r rg bp bm (fun W F => nilX W F ∧ blkX wr.heap.size (Obj.cells cs.toArray OpT9 (0, 0)) W F) s s2 W → W.heap[wr.heap.size]? = some (Obj.cells cs.toArray OpT9 (0, 0))) := Lib.hid (fun h => by obtain ⟨F, _, hblk, _⟩ := h.x; exact hblk)
              clear hxs
              go_upto_region 11 with (fail)
              refine wp_region_F (S := (fun W => W.heap[wr.heap.size]? = some (Obj.cells cs.toArray OpT9 (0, 0)))) [] (by kernel_rfl) ((show V8.heap[wr.heap.size]? = _ from HPB.out)) (fun hHeld => ?_)
              refine wpAnyF_take (i := 0) (oi := _) (v := ?_) rfl (by kernel_rfl) (by kernel_rfl) (by kernel_rfl) (by kernel_rfl) (fun _ _ _ h => h) (Or.inl ⟨by rfl, ?_⟩) (by assumption) ?_
              rotate_left 1
              · intro w hSw
                (try dsimp only at hSw)
                (first | (go_simp; done) | (go_simp; with_reducible rfl))
              (try simp only [Act.put, List.getElem_toArray, List.getElem_cons_succ, List.getElem_cons_zero, List.setIfInBounds_toArray, List.set_cons_zero, List.set_cons_succ])
              refine wpAnyF_take (i := 1) (oi := _) (v := ?_) rfl (by kernel_rfl) (by kernel_rfl) (by kernel_rfl) (by kernel_rfl) (fun _ _ _ h => h) (Or.inl ⟨by rfl, ?_⟩) (by assumption) ?_
              rotate_left 1
              · intro w hSw
                (try dsimp only at hSw)
                (first | (go_simp; done) | (go_simp; with_reducible rfl))
              (try simp only [Act.put, List.getElem_toArray, List.getElem_cons_succ, List.getElem_cons_zero, List.setIfInBounds_toArray, List.set_cons_zero, List.set_cons_succ])
              refine wpAnyF_take (i := 2) (oi := _) (v := _) rfl (by kernel_rfl) (by kernel_rfl) (by kernel_rfl) (by kernel_rfl) (fun _ _ _ h => h) (yields_rowA (by rfl) RegT (.tmp 37) rfl wr.heap.size 1 rfl xs _ (fun W h => HXR.out W h) Try.underlying26 rfl HIX.out) (by assumption) ?_
              (try simp only [Act.put, List.getElem_toArray, List.getElem_cons_succ, List.getElem_cons_zero, List.setIfInBounds_toArray, List.set_cons_zero, List.set_cons_succ])
              refine wpAnyF_take (i := 4) (oi := _) (v := ?_) rfl (by kernel_rfl) (by kernel_rfl) (by kernel_rfl) (by kernel_rfl) (fun _ _ _ h => h) (Or.inl ⟨by rfl, ?_⟩) (by assumption) ?_
              rotate_left 1
              · intro w hSw
                (try dsimp only at hSw)
                (first | (go_simp; done) | (go_simp; with_reducible rfl))
              (try simp only [Act.put, List.getElem_toArray, List.getElem_cons_succ, List.getElem_cons_zero, List.setIfInBounds_toArray, List.set_cons_zero, List.set_cons_succ])
              refine wpAnyF_take (i := 5) (oi := _) (v := ?_) rfl (by kernel_rfl) (by kernel_rfl) (by kernel_rfl) (by kernel_rfl) (fun _ _ _ h => h) (Or.inl ⟨by rfl, ?_⟩) (by assumption) ?_
              rotate_left 1
              · intro w hSw
                (try dsimp only at hSw)
                (first | (go_simp; done) | (go_simp; with_reducible rfl))
              (try simp only [Act.put, List.getElem_toArray, List.getElem_cons_succ, List.getElem_cons_zero, List.setIfInBounds_toArray, List.set_cons_zero, List.set_cons_succ])
              refine wpAnyF_take (i := 6) (oi := _) (v := _) rfl (by kernel_rfl) (by kernel_rfl) (by kernel_rfl) (by kernel_rfl) (fun _ _ _ h => h) (yields_rowA (by rfl) RegT (.tmp 41) rfl wr.heap.size 1 rfl xs _ (fun W h => HXR.out W h) Try.underlying26 rfl HIX.out) (by assumption) ?_
              (try simp only [Act.put, List.getElem_toArray, List.getElem_cons_succ, List.getElem_cons_zero, List.setIfInBounds_toArray, List.set_cons_zero, List.set_cons_succ])
              refine wpAnyF_ready (rs := [3]) (by kernel_rfl) (by simp) ?_
              refine AllReadyF.cons (o := _) rfl (fun K hK => ?_) AllReadyF.nil
              go_simp
              rw [HXS.out]
              refine (Duo.pset (Duo.next (kept_and kept_nil kept_blk) HD8.out (After.drew V8)) (kept_and kept_nil kept_blk) c' l' HCB.out (by have := HKI.out; omega)).mono ?_
              rintro e W3 ⟨z, s1, rfl, hsx, hd3⟩
              have HD3 := Lib.hid hd3
              have HSX := Lib.hid hsx
              clear hd3 hsx
              refine hK.out _ _ (HBLK.out HD3.out) (fun hHeld3 => ?_)
              clear hK K
              (try simp only [Act.put, List.getElem_toArray, List.getElem_cons_succ, List.getElem_cons_zero, List.setIfInBounds_toArray, List.set_cons_zero, List.set_cons_succ])
              refine wpAnyF_ready (rs := [7]) (by kernel_rfl) (by simp) ?_
              refine AllReadyF.cons (o := _) rfl (fun K hK => ?_) AllReadyF.nil
              go_simp
              (try rw [HXS.out])
              refine (Duo.rset HD3.out (kept_and kept_nil kept_blk) c' l' (by have := HKI.out; omega) HU0.out.1 HU0.out.2.1).mono ?_
              rintro e W4 ⟨z2, s2, rfl, hsx, hd4⟩
              obtain ⟨rfl, rfl⟩ := SXs.det HSX.out hsx
              have HD4 := Lib.hid hd4
              clear hd4 hsx
              refine hK.out _ _ (HBLK.out HD4.out) (fun hHeld4 => ?_)
              clear hK K
              (try simp only [Act.put, List.getElem_toArray, List.getElem_cons_succ, List.getElem_cons_zero, List.setIfInBounds_toArray, List.set_cons_zero, List.set_cons_succ])
              refine wpAnyF_take (i := 8) (oi := _) (v := ?_) rfl (by kernel_rfl) (by kernel_rfl) (by kernel_rfl) (by kernel_rfl) (fun _ _ _ h => h) (Or.inl ⟨by rfl, ?_⟩) (by assumption) ?_
              rotate_left 1
              · intro w hSw
                (try dsimp only at hSw)
                (first | (go_simp; done) | (go_simp; with_reducible rfl))
              (try simp only [Act.put, List.getElem_toArray, List.getElem_cons_succ, List.getElem_cons_zero, List.setIfInBounds_toArray, List.set_cons_zero, List.set_cons_succ])
              refine wpAnyF_done (by kernel_rfl) ?_ _
              clear hHeld hHeld3 hHeld4
              go_wp2_with fail
              go_meet
              case rel => exact ⟨_, (by have h1 := (SX.u HSX.out HU0.out.1 HU0.out.2.1 HU0.out.2.2 HCB.out).2.2.2; have h2 := HKI.out; omega), Duo.less HD4.out (fun _ _ _ => trivial)⟩
            · have hd0 : (K == 0) = false := by rw [beq_eq_false_iff_ne]; exact hk0
              by_cases hk1 : K = 1
              · subst hk1
                obtain ⟨xs, hxs⟩ : ∃ z, z = rowV (regF c' l') 33 := ⟨_, rfl⟩
                have HXR : Hid (∀ W : World, W.heap[wr.heap.size]? = some (Obj.cells cs.toArray OpT9 (0, 0)) → W.rangeAt wr.heap.size 1 xs.toList) := Lib.hid (fun W hW => by rw [hxs]; rw [HCS.out] at hW; exact opL_reg hW)
                have HIX : Hid ((Try.prog.info? RegT).map (·.size) = some xs.size) := Lib.hid (by rw [hxs]; exact info_reg _)
                have HXS := Lib.hid hxs
                have HPB := HP8
                have HCB := Lib.hid hcb'
                have HBLK : Hid (∀ {s s2 : St} {W : World}, Duo w t g b r rg bp bm (fun W F => nilX W F ∧ blkX wr.heap.size (Obj.cells cs.toArray OpT9 (0, 0)) W F) s s2 W → W.heap[wr.heap.size]? = some (Obj.cells cs.toArray OpT9 (0, 0))) := Lib.hid (fun h => by obtain ⟨F, _, hblk, _⟩ := h.x; exact hblk)
                clear hxs
                go_upto_region 11 with (fail)
                refine wp_region_F (S := (fun W => W.heap[wr.heap.size]? = some (Obj.cells cs.toArray OpT9 (0, 0)))) [] (by kernel_rfl) ((show V8.heap[wr.heap.size]? = _ from HPB.out)) (fun hHeld => ?_)
                refine wpAnyF_take (i := 0) (oi := _) (v := ?_) rfl (by kernel_rfl) (by kernel_rfl) (by kernel_rfl) (by kernel_rfl) (fun _ _ _ h => h) (Or.inl ⟨by rfl, ?_⟩) (by assumption) ?_
                rotate_left 1
                · intro w hSw
                  (try dsimp only at hSw)
                  (first | (go_simp; done) | (go_simp; with_reducible rfl))
                (try simp only [Act.put, List.getElem_toArray, List.getElem_cons_succ, List.getElem_cons_zero, List.setIfInBounds_toArray, List.set_cons_zero, List.set_cons_succ])
                refine wpAnyF_take (i := 1) (oi := _) (v := ?_) rfl (by kernel_rfl) (by kernel_rfl) (by kernel_rfl) (by kernel_rfl) (fun _ _ _ h => h) (Or.inl ⟨by rfl, ?_⟩) (by assumption) ?_
                rotate_left 1
                · intro w hSw
                  (try dsimp only at hSw)
                  (first | (go_simp; done) | (go_simp; with_reducible rfl))
                (try simp only [Act.put, List.getElem_toArray, List.getElem_cons_succ, List.getElem_cons_zero, List.setIfInBounds_toArray, List.set_cons_zero, List.set_cons_succ])
                refine wpAnyF_take (i := 2) (oi := _) (v := _) rfl (by kernel_rfl) (by kernel_rfl) (by kernel_rfl) (by kernel_rfl) (fun _ _ _ h => h) (yields_rowA (by rfl) RegT (.tmp 37) rfl wr.heap.size 1 rfl xs _ (fun W h => HXR.out W h) Try.underlying26 rfl HIX.out) (by assumption) ?_
                (try simp only [Act.put, List.getElem_toArray, List.getElem_cons_succ, List.getElem_cons_zero, List.setIfInBounds_toArray, List.set_cons_zero, List.set_cons_succ])
                refine wpAnyF_take (i := 4) (oi := _) (v := ?_) rfl (by kernel_rfl) (by kernel_rfl) (by kernel_rfl) (by kernel_rfl) (fun _ _ _ h => h) (Or.inl ⟨by rfl, ?_⟩) (by assumption) ?_
                rotate_left 1
                · intro w hSw
                  (try dsimp only at hSw)
                  (first | (go_simp; done) | (go_simp; with_reducible rfl))
                (try simp only [Act.put, List.getElem_toArray, List.getElem_cons_succ, List.getElem_cons_zero, List.setIfInBounds_toArray, List.set_cons_zero, List.set_cons_succ])
                refine wpAnyF_take (i := 5) (oi := _) (v := ?_) rfl (by kernel_rfl) (by kernel_rfl) (by kernel_rfl) (by kernel_rfl) (fun _ _ _ h => h) (Or.inl ⟨by rfl, ?_⟩) (by assumption) ?_
                rotate_left 1
                · intro w hSw
                  (try dsimp only at hSw)
                  (first | (go_simp; done) | (go_simp; with_reducible rfl))
                (try simp only [Act.put, List.getElem_toArray, List.getElem_cons_succ, List.getElem_cons_zero, List.setIfInBounds_toArray, List.set_cons_zero, List.set_cons_succ])
                refine wpAnyF_take (i := 6) (oi := _) (v := _) rfl (by kernel_rfl) (by kernel_rfl) (by kernel_rfl) (by kernel_rfl) (fun _ _ _ h => h) (yields_rowA (by rfl) RegT (.tmp 41) rfl wr.heap.size 1 rfl xs _ (fun W h => HXR.out W h) Try.underlying26 rfl HIX.out) (by assumption) ?_
                (try simp only [Act.put, List.getElem_toArray, List.getElem_cons_succ, List.getElem_cons_zero, List.setIfInBounds_toArray, List.set_cons_zero, List.set_cons_succ])
                refine wpAnyF_ready (rs := [3]) (by kernel_rfl) (by simp) ?_
                refine AllReadyF.cons (o := _) rfl (fun K hK => ?_) AllReadyF.nil
                go_simp
                rw [HXS.out]
                refine (Duo.pset (Duo.next (kept_and kept_nil kept_blk) HD8.out (After.drew V8)) (kept_and kept_nil kept_blk) c' l' HCB.out (by have := HKI.out; omega)).mono ?_
                rintro e W3 ⟨z, s1, rfl, hsx, hd3⟩
                have HD3 := Lib.hid hd3
                have HSX := Lib.hid hsx
                clear hd3 hsx
                refine hK.out _ _ (HBLK.out HD3.out) (fun hHeld3 => ?_)
                clear hK K
                (try simp only [Act.put, List.getElem_toArray, List.getElem_cons_succ, List.getElem_cons_zero, List.setIfInBounds_toArray, List.set_cons_zero, List.set_cons_succ])
                refine wpAnyF_ready (rs := [7]) (by kernel_rfl) (by simp) ?_
                refine AllReadyF.cons (o := _) rfl (fun K hK => ?_) AllReadyF.nil
                go_simp
                (try rw [HXS.out])
                refine (Duo.rset HD3.out (kept_and kept_nil kept_blk) c' l' (by have := HKI.out; omega) HU0.out.1 HU0.out.2.1).mono ?_
                rintro e W4 ⟨z2, s2, rfl, hsx, hd4⟩
                obtain ⟨rfl, rfl⟩ := SXs.det HSX.out hsx
                have HD4 := Lib.hid hd4
                clear hd4 hsx
                refine hK.out _ _ (HBLK.out HD4.out) (fun hHeld4 => ?_)
                clear hK K
                (try simp only [Act.put, List.getElem_toArray, List.getElem_cons_succ, List.getElem_cons_zero, List.setIfInBounds_toArray, List.set_cons_zero, List.set_cons_succ])
                refine wpAnyF_take (i := 8) (oi := _) (v := ?_) rfl (by kernel_rfl) (by kernel_rfl) (by kernel_rfl) (by kernel_rfl) (fun _ _ _ h => h) (Or.inl ⟨by rfl, ?_⟩) (by assumption) ?_
                rotate_left 1
                · intro w hSw
                  (try dsimp only at hSw)
                  (first | (go_simp; done) | (go_simp; with_reducible rfl))
                (try simp only [Act.put, List.getElem_toArray, List.getElem_cons_succ, List.getElem_cons_zero, List.setIfInBounds_toArray, List.set_cons_zero, List.set_cons_succ])
                refine wpAnyF_done (by kernel_rfl) ?_ _
                clear hHeld hHeld3 hHeld4
                go_wp2_with fail
                go_meet
                case rel => exact ⟨_, (by have h1 := (SX.u HSX.out HU0.out.1 HU0.out.2.1 HU0.out.2.2 HCB.out).2.2.2; have h2 := HKI.out; omega), Duo.less HD4.out (fun _ _ _ => trivial)⟩
              · have hd1 : (K == 1) = false := by rw [beq_eq_false_iff_ne]; exact hk1
                by_cases hk2 : K = 2
                · subst hk2
                  obtain ⟨xs, hxs⟩ : ∃ z, z = rowV (regF c' l') 33 := ⟨_, rfl⟩
                  have HXR : Hid (∀ W : World, W.heap[wr.heap.size]? = some (Obj.cells cs.toArray OpT9 (0, 0)) → W.rangeAt wr.heap.size 1 xs.toList) := Lib.hid (fun W hW => by rw [hxs]; rw [HCS.out] at hW; exact opL_reg hW)
                  have HIX : Hid ((Try.prog.info? RegT).map (·.size) = some xs.size) := Lib.hid (by rw [hxs]; exact info_reg _)
                  have HXS := Lib.hid hxs
                  have HPB := HP8
                  have HCB := Lib.hid hcb'
                  have HBLK : Hid (∀ {s s2 : St} {W : World}, Duo w t g b r rg bp bm (fun W F => nilX W F ∧ blkX wr.heap.size (Obj.cells cs.toArray OpT9 (0, 0)) W F) s s2 W → W.heap[wr.heap.size]? = some (Obj.cells cs.toArray OpT9 (0, 0))) := Lib.hid (fun h => by obtain ⟨F, _, hblk, _⟩ := h.x; exact hblk)
                  clear hxs
                  go_upto_region 11 with (fail)
                  refine wp_region_F (S := (fun W => W.heap[wr.heap.size]? = some (Obj.cells cs.toArray OpT9 (0, 0)))) [] (by kernel_rfl) ((show V8.heap[wr.heap.size]? = _ from HPB.out)) (fun hHeld => ?_)
                  refine wpAnyF_take (i := 0) (oi := _) (v := ?_) rfl (by kernel_rfl) (by kernel_rfl) (by kernel_rfl) (by kernel_rfl) (fun _ _ _ h => h) (Or.inl ⟨by rfl, ?_⟩) (by assumption) ?_
                  rotate_left 1
                  · intro w hSw
                    (try dsimp only at hSw)
                    (first | (go_simp; done) | (go_simp; with_reducible rfl))
                  (try simp only [Act.put, List.getElem_toArray, List.getElem_cons_succ, List.getElem_cons_zero, List.setIfInBounds_toArray, List.set_cons_zero, List.set_cons_succ])
                  refine wpAnyF_take (i := 1) (oi := _) (v := ?_) rfl (by kernel_rfl) (by kernel_rfl) (by kernel_rfl) (by kernel_rfl) (fun _ _ _ h => h) (Or.inl ⟨by rfl, ?_⟩) (by assumption) ?_
                  rotate_left 1
                  · intro w hSw
                    (try dsimp only at hSw)
                    (first | (go_simp; done) | (go_simp; with_reducible rfl))
                  (try simp only [Act.put, List.getElem_toArray, List.getElem_cons_succ, List.getElem_cons_zero, List.setIfInBounds_toArray, List.set_cons_zero, List.set_cons_succ])
                  refine wpAnyF_take (i := 2) (oi := _) (v := _) rfl (by kernel_rfl) (by kernel_rfl) (by kernel_rfl) (by kernel_rfl) (fun _ _ _ h => h) (yields_rowA (by rfl) RegT (.tmp 37) rfl wr.heap.size 1 rfl xs _ (fun W h => HXR.out W h) Try.underlying26 rfl HIX.out) (by assumption) ?_
                  (try simp only [Act.put, List.getElem_toArray, List.getElem_cons_succ, List.getElem_cons_zero, List.setIfInBounds_toArray, List.set_cons_zero, List.set_cons_succ])
                  refine wpAnyF_take (i := 4) (oi := _) (v := ?_) rfl (by kernel_rfl) (by kernel_rfl) (by kernel_rfl) (by kernel_rfl) (fun _ _ _ h => h) (Or.inl ⟨by rfl, ?_⟩) (by assumption) ?_
                  rotate_left 1
                  · intro w hSw
                    (try dsimp only at hSw)
                    (first | (go_simp; done) | (go_simp; with_reducible rfl))
                  (try simp only [Act.put, List.getElem_toArray, List.getElem_cons_succ, List.getElem_cons_zero, List.setIfInBounds_toArray, List.set_cons_zero, List.set_cons_succ])
                  refine wpAnyF_take (i := 5) (oi := _) (v := ?_) rfl (by kernel_rfl) (by kernel_rfl) (by kernel_rfl) (by kernel_rfl) (fun _ _ _ h => h) (Or.inl ⟨by rfl, ?_⟩) (by assumption) ?_
                  rotate_left 1
                  · intro w hSw
                    (try dsimp only at hSw)
                    (first | (go_simp; done) | (go_simp; with_reducible rfl))
                  (try simp only [Act.put, List.getElem_toArray, List.getElem_cons_succ, List.getElem_cons_zero, List.setIfInBounds_toArray, List.set_cons_zero, List.set_cons_succ])
                  refine wpAnyF_take (i := 6) (oi := _) (v := _) rfl (by kernel_rfl) (by kernel_rfl) (by kernel_rfl) (by kernel_rfl) (fun _ _ _ h => h) (yields_rowA (by rfl) RegT (.tmp 41) rfl wr.heap.size 1 rfl xs _ (fun W h => HXR.out W h) Try.underlying26 rfl HIX.out) (by assumption) ?_
                  (try simp only [Act.put, List.getElem_toArray, List.getElem_cons_succ, List.getElem_cons_zero, List.setIfInBounds_toArray, List.set_cons_zero, List.set_cons_succ])
                  refine wpAnyF_ready (rs := [3]) (by kernel_rfl) (by simp) ?_
                  refine AllReadyF.cons (o := _) rfl (fun K hK => ?_) AllReadyF.nil
                  go_simp
                  rw [HXS.out]
                  refine (Duo.pset (Duo.next (kept_and kept_nil kept_blk) HD8.out (After.drew V8)) (kept_and kept_nil kept_blk) c' l' HCB.out (by have := HKI.out; omega)).mono ?_
                  rintro e W3 ⟨z, s1, rfl, hsx, hd3⟩
                  have HD3 := Lib.hid hd3
                  have HSX := Lib.hid hsx
                  clear hd3 hsx
                  refine hK.out _ _ (HBLK.out HD3.out) (fun hHeld3 => ?_)
                  clear hK K
                  (try simp only [Act.put, List.getElem_toArray, List.getElem_cons_succ, List.getElem_cons_zero, List.setIfInBounds_toArray, List.set_cons_zero, List.set_cons_succ])
                  refine wpAnyF_ready (rs := [7]) (by kernel_rfl) (by simp) ?_
                  refine AllReadyF.cons (o := _) rfl (fun K hK => ?_) AllReadyF.nil
                  go_simp
                  (try rw [HXS.out])
                  refine (Duo.rset HD3.out (kept_and kept_nil kept_blk) c' l' (by have := HKI.out; omega) HU0.out.1 HU0.out.2.1).mono ?_
                  rintro e W4 ⟨z2, s2, rfl, hsx, hd4⟩
                  obtain ⟨rfl, rfl⟩ := SXs.det HSX.out hsx
                  have HD4 := Lib.hid hd4
                  clear hd4 hsx
                  refine hK.out _ _ (HBLK.out HD4.out) (fun hHeld4 => ?_)
                  clear hK K
                  (try simp only [Act.put, List.getElem_toArray, List.getElem_cons_succ, List.getElem_cons_zero, List.setIfInBounds_toArray, List.set_cons_zero, List.set_cons_succ])
                  refine wpAnyF_take (i := 8) (oi := _) (v := ?_) rfl (by kernel_rfl) (by kernel_rfl) (by kernel_rfl) (by kernel_rfl) (fun _ _ _ h => h) (Or.inl ⟨by rfl, ?_⟩) (by assumption) ?_
                  rotate_left 1
                  · intro w hSw
                    (try dsimp only at hSw)
                    (first | (go_simp; done) | (go_simp; with_reducible rfl))
                  (try simp only [Act.put, List.getElem_toArray, List.getElem_cons_succ, List.getElem_cons_zero, List.setIfInBounds_toArray, List.set_cons_zero, List.set_cons_succ])
                  refine wpAnyF_done (by kernel_rfl) ?_ _
                  clear hHeld hHeld3 hHeld4
                  go_wp2_with fail
                  go_meet
                  case rel => exact ⟨_, (by have h1 := (SX.u HSX.out HU0.out.1 HU0.out.2.1 HU0.out.2.2 HCB.out).2.2.2; have h2 := HKI.out; omega), Duo.less HD4.out (fun _ _ _ => trivial)⟩
                · have hd2 : (K == 2) = false := by rw [beq_eq_false_iff_ne]; exact hk2
                  by_cases hk3 : K = 3
                  · subst hk3
                    obtain ⟨c3, hc3, hsum⟩ := sum_reg s.c B
                    have HCB := Lib.hid hc3
                    obtain ⟨xs, hxs⟩ : ∃ z, z = rowV (regF c3 l') 33 := ⟨_, rfl⟩
                    obtain ⟨yr, hyr⟩ : ∃ z, z = rowV (rootF l') 32 := ⟨_, rfl⟩
                    have HYR : Hid (∀ W : World, After V8 W → W.rangeAt wr.heap.size 2 yr.toList) := Lib.hid (fun W hW => by
                      have h9 := (Below.block hW _ (blk_lt HP8.out)).trans HP8.out
                      rw [hyr]; rw [HCS.out] at h9; exact opL_root h9)
                    have HIY : Hid ((Try.prog.info? DigT).map (·.size) = some yr.size) := Lib.hid (by rw [hyr]; exact info_dig _)
                    have HBX : Hid (Try.prog.built RegT [(0, .int .u64 (c3 : Int)), (1, .agg yr)] = some xs) := Lib.hid (by rw [hyr, hxs]; exact built_reg2 _ _)
                    have HIX : Hid ((Try.prog.info? RegT).map (·.size) = some xs.size) := Lib.hid (by rw [hxs]; exact info_reg _)
                    have HSZX : Hid (z2.size = xs.size) := Lib.hid (by rw [hxs, rowV_size]; exact HZ2.out)
                    have HONX : Hid (xs.all (·.oneCell') = true) := Lib.hid (by rw [hxs]; exact one_reg _ _)
                    have HKC : Hid (∀ W, After V8 W → W.cell? ⟨r, 0, none⟩ = some (.int .u64 (s.c : Int))) := Lib.hid (fun W hW => HD8.out.rcount W hW)
                    have HKB : Hid (∀ W, After V8 W → W.cell? ⟨wr.heap.size, 34, none⟩ = some (.int .u64 B)) := Lib.hid (fun W hW => by
                      have h9 := (Below.block hW _ (blk_lt HP8.out)).trans HP8.out
                      exact (blk_cell h9 34).trans (by rw [HCS.out]; kernel_rfl))
                    have HXS := Lib.hid hxs
                    clear hxs hyr hc3
                    go_upto_region 14 with (fail)
                    refine wp_region_F (S := (After V8)) [] (by kernel_rfl) (After.drew V8) (fun hHeld => ?_)
                    refine wpAnyF_take (i := 0) (oi := _) (v := ?_) rfl (by kernel_rfl) (by kernel_rfl) (by kernel_rfl) (by kernel_rfl) (fun _ _ _ h => h) (Or.inl ⟨by rfl, ?_⟩) (by assumption) ?_
                    rotate_left 1
                    · intro w hSw
                      (try dsimp only at hSw)
                      (first | (go_simp; done) | (go_simp; with_reducible rfl))
                    (try simp only [Act.put, List.getElem_toArray, List.getElem_cons_succ, List.getElem_cons_zero, List.setIfInBounds_toArray, List.set_cons_zero, List.set_cons_succ])
                    refine wpAnyF_take (i := 1) (oi := _) (v := ?_) rfl (by kernel_rfl) (by kernel_rfl) (by kernel_rfl) (by kernel_rfl) (fun _ _ _ h => h) (Or.inl ⟨by rfl, ?_⟩) (by assumption) ?_
                    rotate_left 1
                    · intro w hSw
                      (try dsimp only at hSw)
                      (first | (go_simp; done) | (go_simp; with_reducible rfl))
                    (try simp only [Act.put, List.getElem_toArray, List.getElem_cons_succ, List.getElem_cons_zero, List.setIfInBounds_toArray, List.set_cons_zero, List.set_cons_succ])
                    refine wpAnyF_take (i := 2) (oi := _) (v := ?_) rfl (by kernel_rfl) (by kernel_rfl) (by kernel_rfl) (by kernel_rfl) (fun _ _ _ h => h) (Or.inl ⟨by rfl, ?_⟩) (by assumption) ?_
                    rotate_left 1
                    · intro w hSw
                      (try dsimp only at hSw)
                      (first | (go_simp; done) | (go_simp; with_reducible rfl))
                    (try simp only [Act.put, List.getElem_toArray, List.getElem_cons_succ, List.getElem_cons_zero, List.setIfInBounds_toArray, List.set_cons_zero, List.set_cons_succ])
                    refine wpAnyF_take (i := 3) (oi := _) (v := ?_) rfl (by kernel_rfl) (by kernel_rfl) (by kernel_rfl) (by kernel_rfl) (fun _ _ _ h => h) (Or.inl ⟨by rfl, ?_⟩) (by assumption) ?_
                    rotate_left 1
                    · intro w hSw
                      (try dsimp only at hSw)
                      (first | (go_simp; done) | (go_simp; with_reducible rfl))
                    (try simp only [Act.put, List.getElem_toArray, List.getElem_cons_succ, List.getElem_cons_zero, List.setIfInBounds_toArray, List.set_cons_zero, List.set_cons_succ])
                    refine wpAnyF_take (i := 4) (oi := _) (v := _) rfl (by kernel_rfl) (by kernel_rfl) (by kernel_rfl) (by kernel_rfl) (fun _ _ _ h => h) (yields_cell (by rfl) 22 (.tmp 50) rfl r 0 rfl (.int .u64 (s.c : Int)) _ (fun W h => HKC.out W h) Try.underlying22 rfl) (by assumption) ?_
                    (try simp only [Act.put, List.getElem_toArray, List.getElem_cons_succ, List.getElem_cons_zero, List.setIfInBounds_toArray, List.set_cons_zero, List.set_cons_succ])
                    refine wpAnyF_take (i := 5) (oi := _) (v := ?_) rfl (by kernel_rfl) (by kernel_rfl) (by kernel_rfl) (by kernel_rfl) (fun _ _ _ h => h) (Or.inl ⟨by rfl, ?_⟩) (by assumption) ?_
                    rotate_left 1
                    · intro w hSw
                      (try dsimp only at hSw)
                      (first | (go_simp; done) | (go_simp; with_reducible rfl))
                    (try simp only [Act.put, List.getElem_toArray, List.getElem_cons_succ, List.getElem_cons_zero, List.setIfInBounds_toArray, List.set_cons_zero, List.set_cons_succ])
                    refine wpAnyF_take (i := 6) (oi := _) (v := _) rfl (by kernel_rfl) (by kernel_rfl) (by kernel_rfl) (by kernel_rfl) (fun _ _ _ h => h) (yields_cell (by rfl) 22 (.tmp 52) rfl wr.heap.size 34 rfl (.int .u64 B) _ (fun W h => HKB.out W h) Try.underlying22 rfl) (by assumption) ?_
                    (try simp only [Act.put, List.getElem_toArray, List.getElem_cons_succ, List.getElem_cons_zero, List.setIfInBounds_toArray, List.set_cons_zero, List.set_cons_succ])
                    refine wpAnyF_take (i := 7) (oi := _) (v := ?_) rfl (by kernel_rfl) (by kernel_rfl) (by kernel_rfl) (by kernel_rfl) (fun _ _ _ h => h) (Or.inl ⟨by rfl, ?_⟩) (by assumption) ?_
                    rotate_left 1
                    · intro w hSw
                      (try dsimp only at hSw)
                      (first | (go_simp; done) | (go_simp; with_reducible rfl))
                    (try simp only [Act.put, List.getElem_toArray, List.getElem_cons_succ, List.getElem_cons_zero, List.setIfInBounds_toArray, List.set_cons_zero, List.set_cons_succ])
                    refine wpAnyF_take (i := 8) (oi := _) (v := ?_) rfl (by kernel_rfl) (by kernel_rfl) (by kernel_rfl) (by kernel_rfl) (fun _ _ _ h => h) (Or.inl ⟨by rfl, ?_⟩) (by assumption) ?_
                    rotate_left 1
                    · intro w hSw
                      (try dsimp only at hSw)
                      (first | (go_simp; done) | (go_simp; with_reducible rfl))
                    (try simp only [Act.put, List.getElem_toArray, List.getElem_cons_succ, List.getElem_cons_zero, List.setIfInBounds_toArray, List.set_cons_zero, List.set_cons_succ])
                    refine wpAnyF_take (i := 9) (oi := _) (v := ?_) rfl (by kernel_rfl) (by kernel_rfl) (by kernel_rfl) (by kernel_rfl) (fun _ _ _ h => h) (Or.inl ⟨by rfl, ?_⟩) (by assumption) ?_
                    rotate_left 1
                    · intro w hSw
                      (try dsimp only at hSw)
                      (first | (go_simp; done) | (go_simp; with_reducible rfl))
                    (try simp only [Act.put, List.getElem_toArray, List.getElem_cons_succ, List.getElem_cons_zero, List.setIfInBounds_toArray, List.set_cons_zero, List.set_cons_succ])
                    refine wpAnyF_take (i := 10) (oi := _) (v := _) rfl (by kernel_rfl) (by kernel_rfl) (by kernel_rfl) (by kernel_rfl) (fun _ _ _ h => h) (yields_rowA (by rfl) DigT (.tmp 56) rfl wr.heap.size 2 rfl yr _ (fun W h => HYR.out W h) Try.underlying24 rfl HIY.out) (by assumption) ?_
                    (try simp only [Act.put, List.getElem_toArray, List.getElem_cons_succ, List.getElem_cons_zero, List.setIfInBounds_toArray, List.set_cons_zero, List.set_cons_succ])
                    refine wpAnyF_take (i := 11) (oi := _) (v := _) rfl (by kernel_rfl) (by kernel_rfl) (by kernel_rfl) (by kernel_rfl) (fun _ _ _ h => h) (yields_build (by rfl) RegT #[(0, .tmp 54), (1, .tmp 57)] rfl xs (by first | exact HBX.out | (simp [Act.eval, Act.put]; exact HBX.out))) (by assumption) ?_
                    (try simp only [Act.put, List.getElem_toArray, List.getElem_cons_succ, List.getElem_cons_zero, List.setIfInBounds_toArray, List.set_cons_zero, List.set_cons_succ])
                    refine wpAnyF_ready (rs := [12]) (by kernel_rfl) (by simp) ?_
                    refine AllReadyF.cons (o := _) rfl (fun K hK => ?_) AllReadyF.nil
                    go_simp
                    refine hK.out _ _ (After.next (After.drew V8) ((Below.refl _ _).alloc (Nat.le_refl _) _)) (fun hHeld2 => ?_)
                    clear hK K
                    (try simp only [Act.put, List.getElem_toArray, List.getElem_cons_succ, List.getElem_cons_zero, List.setIfInBounds_toArray, List.set_cons_zero, List.set_cons_succ])
                    refine wpAnyF_ready (rs := [13]) (by kernel_rfl) (by simp) ?_
                    refine AllReadyF.cons (o := _) rfl (fun K hK => ?_) AllReadyF.nil
                    rw [if_pos (by kernel_rfl)]
                    refine wp_store_row RegT (.tmp 11) (.tmp 58) rfl V8.heap.size xs rfl rfl RegT z2 (show (V8.alloc (.cells z2 RegT)).drew.heap[V8.heap.size]? = some (.cells z2 RegT (0, 0)) from heap_alloc_new V8 _) HIX.out HSZX.out HONX.out ?_
                    refine hK.out _ _ (below_setRow (g := V8.heap.size) (((Below.refl _ _).alloc (Nat.le_refl _) _).drew) (Nat.le_refl _) xs) (fun hHeld3 => ?_)
                    clear hK K
                    (try simp only [Act.put, List.getElem_toArray, List.getElem_cons_succ, List.getElem_cons_zero, List.setIfInBounds_toArray, List.set_cons_zero, List.set_cons_succ])
                    refine wpAnyF_done (by kernel_rfl) ?_ _
                    clear hHeld hHeld2
                    obtain ⟨V9, hV9⟩ : ∃ V9, V9 = (V8.alloc (.cells z2 RegT)).drew.setRow V8.heap.size xs := ⟨_, rfl⟩
                    rw [← hV9] at hHeld3
                    rw [← hV9]
                    have HP9 : Hid (V9.heap[V8.heap.size]? = some (.cells xs RegT (0, 0))) := Lib.hid (by rw [hV9]; exact setRow_heap _ _ _ xs _ _ (show (V8.alloc (.cells z2 RegT)).drew.heap[V8.heap.size]? = some (.cells z2 RegT (0, 0)) from heap_alloc_new V8 _))
                    have HD9 := Lib.hid (HD8.out.more (kept_and kept_nil kept_blk) hHeld3 (Nat.le_refl _) HP9.out)
                    have HPB := HP9
                    obtain ⟨p9, hp9⟩ : ∃ p, p = V8.heap.size := ⟨_, rfl⟩
                    rw [← hp9] at HPB HD9
                    rw [← hp9]
                    have HXR : Hid (∀ W : World, W.heap[p9]? = some (.cells xs RegT (0, 0)) → W.rangeAt p9 0 xs.toList) := Lib.hid (fun W hW j v hv => by rw [Nat.zero_add, blk_cell hW j]; simpa using hv)
                    have HBLK : Hid (∀ {s s2 : St} {W : World}, Duo w t g b r rg bp bm (fun W F => (nilX W F ∧ blkX wr.heap.size (Obj.cells cs.toArray OpT9 (0, 0)) W F) ∧ blkX p9 (Obj.cells xs RegT (0, 0)) W F) s s2 W → W.heap[p9]? = some (Obj.cells xs RegT (0, 0))) := Lib.hid (fun h => by obtain ⟨F, _, hblk, _⟩ := h.x; exact hblk)
                    clear hHeld3 hV9 hp9
                    go_upto_region 15 with (fail)
                    refine wp_region_F (S := (fun W => W.heap[p9]? = some (Obj.cells xs RegT (0, 0)))) [] (by kernel_rfl) ((show V9.heap[p9]? = _ from HPB.out)) (fun hHeld => ?_)
                    refine wpAnyF_take (i := 0) (oi := _) (v := ?_) rfl (by kernel_rfl) (by kernel_rfl) (by kernel_rfl) (by kernel_rfl) (fun _ _ _ h => h) (Or.inl ⟨by rfl, ?_⟩) (by assumption) ?_
                    rotate_left 1
                    · intro w hSw
                      (try dsimp only at hSw)
                      (first | (go_simp; done) | (go_simp; with_reducible rfl))
                    (try simp only [Act.put, List.getElem_toArray, List.getElem_cons_succ, List.getElem_cons_zero, List.setIfInBounds_toArray, List.set_cons_zero, List.set_cons_succ])
                    refine wpAnyF_take (i := 1) (oi := _) (v := _) rfl (by kernel_rfl) (by kernel_rfl) (by kernel_rfl) (by kernel_rfl) (fun _ _ _ h => h) (yields_rowA (by rfl) RegT (.tmp 11) rfl p9 0 rfl xs _ (fun W h => HXR.out W h) Try.underlying26 rfl HIX.out) (by assumption) ?_
                    (try simp only [Act.put, List.getElem_toArray, List.getElem_cons_succ, List.getElem_cons_zero, List.setIfInBounds_toArray, List.set_cons_zero, List.set_cons_succ])
                    refine wpAnyF_take (i := 3) (oi := _) (v := ?_) rfl (by kernel_rfl) (by kernel_rfl) (by kernel_rfl) (by kernel_rfl) (fun _ _ _ h => h) (Or.inl ⟨by rfl, ?_⟩) (by assumption) ?_
                    rotate_left 1
                    · intro w hSw
                      (try dsimp only at hSw)
                      (first | (go_simp; done) | (go_simp; with_reducible rfl))
                    (try simp only [Act.put, List.getElem_toArray, List.getElem_cons_succ, List.getElem_cons_zero, List.setIfInBounds_toArray, List.set_cons_zero, List.set_cons_succ])
                    refine wpAnyF_take (i := 4) (oi := _) (v := _) rfl (by kernel_rfl) (by kernel_rfl) (by kernel_rfl) (by kernel_rfl) (fun _ _ _ h => h) (yields_rowA (by rfl) RegT (.tmp 11) rfl p9 0 rfl xs _ (fun W h => HXR.out W h) Try.underlying26 rfl HIX.out) (by assumption) ?_
                    (try simp only [Act.put, List.getElem_toArray, List.getElem_cons_succ, List.getElem_cons_zero, List.setIfInBounds_toArray, List.set_cons_zero, List.set_cons_succ])
                    refine wpAnyF_ready (rs := [2]) (by kernel_rfl) (by simp) ?_
                    refine AllReadyF.cons (o := _) rfl (fun K hK => ?_) AllReadyF.nil
                    go_simp
                    rw [HXS.out]
                    refine (Duo.pset (Duo.next (kept_and (kept_and kept_nil kept_blk) kept_blk) HD9.out (After.drew V9)) (kept_and (kept_and kept_nil kept_blk) kept_blk) c3 l' HCB.out (by have := HKI.out; omega)).mono ?_
                    rintro e W3 ⟨z, s1, rfl, hsx, hd3⟩
                    have HD3 := Lib.hid hd3
                    have HSX := Lib.hid hsx
                    clear hd3 hsx
                    refine hK.out _ _ (HBLK.out HD3.out) (fun hHeld3 => ?_)
                    clear hK K
                    (try simp only [Act.put, List.getElem_toArray, List.getElem_cons_succ, List.getElem_cons_zero, List.setIfInBounds_toArray, List.set_cons_zero, List.set_cons_succ])
                    refine wpAnyF_ready (rs := [5]) (by kernel_rfl) (by simp) ?_
                    refine AllReadyF.cons (o := _) rfl (fun K hK => ?_) AllReadyF.nil
                    go_simp
                    (try rw [HXS.out])
                    refine (Duo.rset HD3.out (kept_and (kept_and kept_nil kept_blk) kept_blk) c3 l' (by have := HKI.out; omega) HU0.out.1 HU0.out.2.1).mono ?_
                    rintro e W4 ⟨z2, s2, rfl, hsx, hd4⟩
                    obtain ⟨rfl, rfl⟩ := SXs.det HSX.out hsx
                    have HD4 := Lib.hid hd4
                    clear hd4 hsx
                    refine hK.out _ _ (HBLK.out HD4.out) (fun hHeld4 => ?_)
                    clear hK K
                    (try simp only [Act.put, List.getElem_toArray, List.getElem_cons_succ, List.getElem_cons_zero, List.setIfInBounds_toArray, List.set_cons_zero, List.set_cons_succ])
                    refine wpAnyF_take (i := 6) (oi := _) (v := ?_) rfl (by kernel_rfl) (by kernel_rfl) (by kernel_rfl) (by kernel_rfl) (fun _ _ _ h => h) (Or.inl ⟨by rfl, ?_⟩) (by assumption) ?_
                    rotate_left 1
                    · intro w hSw
                      (try dsimp only at hSw)
                      (first | (go_simp; done) | (go_simp; with_reducible rfl))
                    (try simp only [Act.put, List.getElem_toArray, List.getElem_cons_succ, List.getElem_cons_zero, List.setIfInBounds_toArray, List.set_cons_zero, List.set_cons_succ])
                    refine wpAnyF_done (by kernel_rfl) ?_ _
                    clear hHeld hHeld3 hHeld4
                    go_wp2_with fail
                    go_meet
                    case rel => exact ⟨_, (by have h1 := (SX.u HSX.out HU0.out.1 HU0.out.2.1 HU0.out.2.2 HCB.out).2.2.2; have h2 := HKI.out; omega), Duo.less HD4.out (fun _ _ _ => trivial)⟩
                  · have hd3 : (K == 3) = false := by rw [beq_eq_false_iff_ne]; exact hk3
                    by_cases hk4 : K = 4
                    · subst hk4
                      go_wp2_with fail
                      refine (HD8.out.pcrash (kept_and kept_nil kept_blk)).mono ?_
                      rintro e W3 ⟨rfl, hd3⟩
                      have HD3 := Lib.hid hd3
                      clear hd3
                      go_wp2_with fail
                      refine (HD3.out.rcrash (kept_and kept_nil kept_blk)).mono ?_
                      rintro e W4 ⟨rfl, hd4⟩
                      have HD4 := Lib.hid hd4
                      clear hd4
                      go_wp2_with fail
                      go_meet
                      case rel => exact ⟨_, (by have := HKI.out; show s.k ≤ i + 1; omega), Duo.less HD4.out (fun _ _ _ => trivial)⟩
                    · have hd4 : (K == 4) = false := by rw [beq_eq_false_iff_ne]; exact hk4
                      by_cases hk5 : K = 5
                      · subst hk5
                        go_wp2_with fail
                        refine (HD8.out.pon (kept_and kept_nil kept_blk)).mono ?_
                        rintro e W3 ⟨rfl, hd3⟩
                        have HD3 := Lib.hid hd3
                        clear hd3
                        go_wp2_with fail
                        refine (HD3.out.ron (kept_and kept_nil kept_blk)).mono ?_
                        rintro e W4 ⟨rfl, hd4⟩
                        have HD4 := Lib.hid hd4
                        clear hd4
                        go_wp2_with fail
                        go_meet
                        case rel => exact ⟨_, (by have := HKI.out; show s.k ≤ i + 1; omega), Duo.less HD4.out (fun _ _ _ => trivial)⟩
                      · have hd5 : (K == 5) = false := by rw [beq_eq_false_iff_ne]; exact hk5
                        by_cases hk6 : K = 6
                        · subst hk6
                          have k35 : V8.cell? ⟨wr.heap.size, 35, none⟩ = some (.int .i64 N) := (blk_cell HP8.out 35).trans (by rw [HCS.out]; kernel_rfl)
                          go_wp2_with fail
                          refine (HD8.out.parm (kept_and kept_nil kept_blk) N hNb).mono ?_
                          rintro e W3 ⟨rfl, hd3⟩
                          have HD3 := Lib.hid hd3
                          have k35b : W3.cell? ⟨wr.heap.size, 35, none⟩ = some (.int .i64 N) := by
                            obtain ⟨F, _, hblk, _⟩ := hd3.x
                            exact (blk_cell hblk 35).trans (by rw [HCS.out]; kernel_rfl)
                          clear hd3
                          go_wp2_with fail
                          refine (HD3.out.rarm (kept_and kept_nil kept_blk) N).mono ?_
                          rintro e W4 ⟨rfl, hd4⟩
                          have HD4 := Lib.hid hd4
                          clear hd4
                          go_wp2_with fail
                          go_meet
                          case rel => exact ⟨_, (by have := HKI.out; show s.k ≤ i + 1; omega), Duo.less HD4.out (fun _ _ _ => trivial)⟩
                        · have hd6 : (K == 6) = false := by rw [beq_eq_false_iff_ne]; exact hk6
                          go_wp2_with fail
                          go_meet
                          case rel => exact ⟨_, (by have := HKI.out; omega), Duo.less HD8.out (fun _ _ _ => trivial)⟩
          case rest =>
            obtain ⟨s1, hk1, hdv⟩ := hcut
            have h9 : wc = wc := rfl
            generalize wc = V at *
            clear h9 k0 HD8 HP8 HV8 HO8 HB8 HRG HIL HIA HSZ8 HON8 HCS
            obtain ⟨c1, l1, off1, k1, u1⟩ := s1
            have HDV := Lib.hid hdv
            have HK1 : Hid (k1 ≤ i + 1) := Lib.hid hk1
            obtain ⟨av2, ⟨A2, cA2, rfl⟩, hrac⟩ := hdv.racts
            have HRAC := Lib.hid hrac
            have HROW := Lib.hid hdv.rrow
            have HCNT := Lib.hid hdv.rcount
            have HRDN := Lib.hid hdv.rdown
            have HRD := Lib.hid (fun W (hW : After V W) => (hdv.next kept_nil hW).read)
            have HLA := Lib.hid (fun W (hW : After V W) => (hdv.next kept_nil hW).last)
            have HDN := Lib.hid (fun W (hW : After V W) => (hdv.next kept_nil hW).down)
            have HAC := Lib.hid (fun W (hW : After V W) => (hdv.next kept_nil hW).acts (Nat.lt_of_le_of_lt HK1.out (by omega)))
            have HNE := Lib.hid (neq_reg c1 l1)
            have HIR1 := Lib.hid (info_reg (regF c1 l1))
            have HGR := Lib.hid guard_reg
            dsimp only at HRAC HROW HCNT HRDN HRD HLA HDN HAC
            obtain ⟨r1, hr1⟩ : ∃ z, z = rowV (regF c1 l1) 33 := ⟨_, rfl⟩
            rw [← hr1] at HROW HRD HNE HIR1
            clear hdv hk1 hrac hr1
            go_upto_region 26 with (fail)
            refine wp_region_F (S := (After V)) [] (by kernel_rfl) (After.drew V) (fun hHeld => ?_)
            refine wpAnyF_take (i := 0) (oi := _) (v := ?_) rfl (by kernel_rfl) (by kernel_rfl) (by kernel_rfl) (by kernel_rfl) (fun _ _ _ h => h) (Or.inl ⟨by rfl, ?_⟩) (by assumption) ?_
            rotate_left 1
            · intro w hSw
              (try dsimp only at hSw)
              (first | (go_simp; done) | (go_simp; with_reducible rfl))
            (try simp only [Act.put, List.getElem_toArray, List.getElem_cons_succ, List.getElem_cons_zero, List.setIfInBounds_toArray, List.set_cons_zero, List.set_cons_succ])
            refine wpAnyF_take (i := 2) (oi := _) (v := ?_) rfl (by kernel_rfl) (by kernel_rfl) (by kernel_rfl) (by kernel_rfl) (fun _ _ _ h => h) (Or.inl ⟨by rfl, ?_⟩) (by assumption) ?_
            rotate_left 1
            · intro w hSw
              (try dsimp only at hSw)
              (first | (go_simp; done) | (go_simp; with_reducible rfl))
            (try simp only [Act.put, List.getElem_toArray, List.getElem_cons_succ, List.getElem_cons_zero, List.setIfInBounds_toArray, List.set_cons_zero, List.set_cons_succ])
            refine wpAnyF_take (i := 3) (oi := _) (v := ?_) rfl (by kernel_rfl) (by kernel_rfl) (by kernel_rfl) (by kernel_rfl) (fun _ _ _ h => h) (Or.inl ⟨by rfl, ?_⟩) (by assumption) ?_
            rotate_left 1
            · intro w hSw
              (try dsimp only at hSw)
              (first | (go_simp; done) | (go_simp; with_reducible rfl))
            (try simp only [Act.put, List.getElem_toArray, List.getElem_cons_succ, List.getElem_cons_zero, List.setIfInBounds_toArray, List.set_cons_zero, List.set_cons_succ])
            refine wpAnyF_take (i := 4) (oi := _) (v := ?_) rfl (by kernel_rfl) (by kernel_rfl) (by kernel_rfl) (by kernel_rfl) (fun _ _ _ h => h) (Or.inl ⟨by rfl, ?_⟩) (by assumption) ?_
            rotate_left 1
            · intro w hSw
              (try dsimp only at hSw)
              (first | (go_simp; done) | (go_simp; with_reducible rfl))
            (try simp only [Act.put, List.getElem_toArray, List.getElem_cons_succ, List.getElem_cons_zero, List.setIfInBounds_toArray, List.set_cons_zero, List.set_cons_succ])
            refine wpAnyF_take (i := 5) (oi := _) (v := _) rfl (by kernel_rfl) (by kernel_rfl) (by kernel_rfl) (by kernel_rfl) (fun _ _ _ h => h) (yields_rowA (by rfl) RegT (.tmp 92) rfl r 0 rfl r1 _ (fun W h => HROW.out W h) Try.underlying26 rfl HIR1.out) (by assumption) ?_
            (try simp only [Act.put, List.getElem_toArray, List.getElem_cons_succ, List.getElem_cons_zero, List.setIfInBounds_toArray, List.set_cons_zero, List.set_cons_succ])
            refine wpAnyF_ready (rs := [1]) (by kernel_rfl) (by simp) ?_
            refine AllReadyF.cons (o := _) rfl (fun K hK => ?_) AllReadyF.nil
            go_simp
            refine (HRD.out _ hHeld).mono ?_
            rintro e W3 ⟨rfl, hb3⟩
            refine hK.out _ _ (After.next hHeld hb3) (fun hHeld3 => ?_)
            clear hK K
            (try simp only [Act.put, List.getElem_toArray, List.getElem_cons_succ, List.getElem_cons_zero, List.setIfInBounds_toArray, List.set_cons_zero, List.set_cons_succ])
            refine wpAnyF_take (i := 6) (oi := _) (v := _) rfl (by kernel_rfl) (by kernel_rfl) (by kernel_rfl) (by kernel_rfl) (fun _ _ _ h => h) (yields_bin .neq (.inl rfl) (by rfl) RegT RegT (.tmp 89) (.tmp 93) rfl r1 r1 (.bool false) rfl rfl HGR.out (fun W => HNE.out W)) (by assumption) ?_
            (try simp only [Act.put, List.getElem_toArray, List.getElem_cons_succ, List.getElem_cons_zero, List.setIfInBounds_toArray, List.set_cons_zero, List.set_cons_succ])
            refine wpAnyF_take (i := 7) (oi := _) (v := ?_) rfl (by kernel_rfl) (by kernel_rfl) (by kernel_rfl) (by kernel_rfl) (fun _ _ _ h => h) (Or.inl ⟨by rfl, ?_⟩) (by assumption) ?_
            rotate_left 1
            · intro w hSw
              (try dsimp only at hSw)
              (first | (go_simp; done) | (go_simp; with_reducible rfl))
            (try simp only [Act.put, List.getElem_toArray, List.getElem_cons_succ, List.getElem_cons_zero, List.setIfInBounds_toArray, List.set_cons_zero, List.set_cons_succ])
            refine wpAnyF_take (i := 8) (oi := _) (v := ?_) rfl (by kernel_rfl) (by kernel_rfl) (by kernel_rfl) (by kernel_rfl) (fun _ _ _ h => h) (Or.inl ⟨by rfl, ?_⟩) (by assumption) ?_
            rotate_left 1
            · intro w hSw
              (try dsimp only at hSw)
              (first | (go_simp; done) | (go_simp; with_reducible rfl))
            (try simp only [Act.put, List.getElem_toArray, List.getElem_cons_succ, List.getElem_cons_zero, List.setIfInBounds_toArray, List.set_cons_zero, List.set_cons_succ])
            refine wpAnyF_take (i := 10) (oi := _) (v := ?_) rfl (by kernel_rfl) (by kernel_rfl) (by kernel_rfl) (by kernel_rfl) (fun _ _ _ h => h) (Or.inl ⟨by rfl, ?_⟩) (by assumption) ?_
            rotate_left 1
            · intro w hSw
              (try dsimp only at hSw)
              (first | (go_simp; done) | (go_simp; with_reducible rfl))
            (try simp only [Act.put, List.getElem_toArray, List.getElem_cons_succ, List.getElem_cons_zero, List.setIfInBounds_toArray, List.set_cons_zero, List.set_cons_succ])
            refine wpAnyF_take (i := 11) (oi := _) (v := ?_) rfl (by kernel_rfl) (by kernel_rfl) (by kernel_rfl) (by kernel_rfl) (fun _ _ _ h => h) (Or.inl ⟨by rfl, ?_⟩) (by assumption) ?_
            rotate_left 1
            · intro w hSw
              (try dsimp only at hSw)
              (first | (go_simp; done) | (go_simp; with_reducible rfl))
            (try simp only [Act.put, List.getElem_toArray, List.getElem_cons_succ, List.getElem_cons_zero, List.setIfInBounds_toArray, List.set_cons_zero, List.set_cons_succ])
            refine wpAnyF_take (i := 12) (oi := _) (v := ?_) rfl (by kernel_rfl) (by kernel_rfl) (by kernel_rfl) (by kernel_rfl) (fun _ _ _ h => h) (Or.inl ⟨by rfl, ?_⟩) (by assumption) ?_
            rotate_left 1
            · intro w hSw
              (try dsimp only at hSw)
              (first | (go_simp; done) | (go_simp; with_reducible rfl))
            (try simp only [Act.put, List.getElem_toArray, List.getElem_cons_succ, List.getElem_cons_zero, List.setIfInBounds_toArray, List.set_cons_zero, List.set_cons_succ])
            refine wpAnyF_take (i := 13) (oi := _) (v := ?_) rfl (by kernel_rfl) (by kernel_rfl) (by kernel_rfl) (by kernel_rfl) (fun _ _ _ h => h) (Or.inl ⟨by rfl, ?_⟩) (by assumption) ?_
            rotate_left 1
            · intro w hSw
              (try dsimp only at hSw)
              (first | (go_simp; done) | (go_simp; with_reducible rfl))
            (try simp only [Act.put, List.getElem_toArray, List.getElem_cons_succ, List.getElem_cons_zero, List.setIfInBounds_toArray, List.set_cons_zero, List.set_cons_succ])
            refine wpAnyF_take (i := 14) (oi := _) (v := _) rfl (by kernel_rfl) (by kernel_rfl) (by kernel_rfl) (by kernel_rfl) (fun _ _ _ h => h) (yields_cell (by with_unfolding_all rfl) 22 (.tmp 101) rfl r 0 rfl (.int .u64 (c1 : Int)) _ (fun W h => HCNT.out W h) Try.underlying22 rfl) (by assumption) ?_
            (try simp only [Act.put, List.getElem_toArray, List.getElem_cons_succ, List.getElem_cons_zero, List.setIfInBounds_toArray, List.set_cons_zero, List.set_cons_succ])
            refine wpAnyF_take (i := 15) (oi := _) (v := ?_) rfl (by kernel_rfl) (by kernel_rfl) (by kernel_rfl) (by kernel_rfl) (fun _ _ _ h => h) (Or.inl ⟨by rfl, ?_⟩) (by assumption) ?_
            rotate_left 1
            · intro w hSw
              (try dsimp only at hSw)
              (first | (go_simp; done) | (go_simp; with_reducible rfl))
            (try simp only [Act.put, List.getElem_toArray, List.getElem_cons_succ, List.getElem_cons_zero, List.setIfInBounds_toArray, List.set_cons_zero, List.set_cons_succ])
            refine wpAnyF_ready (rs := [9]) (by kernel_rfl) (by simp) ?_
            refine AllReadyF.cons (o := _) rfl (fun K hK => ?_) AllReadyF.nil
            go_simp
            refine (HLA.out _ hHeld3).mono ?_
            rintro e W4 ⟨rfl, hb4⟩
            refine hK.out _ _ (After.next hHeld3 hb4) (fun hHeld4 => ?_)
            clear hK K
            (try simp only [Act.put, List.getElem_toArray, List.getElem_cons_succ, List.getElem_cons_zero, List.setIfInBounds_toArray, List.set_cons_zero, List.set_cons_succ])
            refine wpAnyF_take (i := 16) (oi := _) (v := ?_) rfl (by kernel_rfl) (by kernel_rfl) (by kernel_rfl) (by kernel_rfl) (fun _ _ _ h => h) (Or.inl ⟨by rfl, ?_⟩) (by assumption) ?_
            rotate_left 1
            · intro w hSw
              (try dsimp only at hSw)
              (first | (go_simp; done) | (go_simp; with_reducible rfl))
            (try simp only [Act.put, List.getElem_toArray, List.getElem_cons_succ, List.getElem_cons_zero, List.setIfInBounds_toArray, List.set_cons_zero, List.set_cons_succ])
            refine wpAnyF_take (i := 17) (oi := _) (v := ?_) rfl (by kernel_rfl) (by kernel_rfl) (by kernel_rfl) (by kernel_rfl) (fun _ _ _ h => h) (Or.inl ⟨by rfl, ?_⟩) (by assumption) ?_
            rotate_left 1
            · intro w hSw
              (try dsimp only at hSw)
              (first | (go_simp; done) | (go_simp; with_reducible rfl))
            (try simp only [Act.put, List.getElem_toArray, List.getElem_cons_succ, List.getElem_cons_zero, List.setIfInBounds_toArray, List.set_cons_zero, List.set_cons_succ])
            refine wpAnyF_take (i := 18) (oi := _) (v := ?_) rfl (by kernel_rfl) (by kernel_rfl) (by kernel_rfl) (by kernel_rfl) (fun _ _ _ h => h) (Or.inl ⟨by rfl, ?_⟩) (by assumption) ?_
            rotate_left 1
            · intro w hSw
              (try dsimp only at hSw)
              (first | (go_simp; done) | (go_simp; with_reducible rfl))
            (try simp only [Act.put, List.getElem_toArray, List.getElem_cons_succ, List.getElem_cons_zero, List.setIfInBounds_toArray, List.set_cons_zero, List.set_cons_succ])
            refine wpAnyF_take (i := 19) (oi := _) (v := ?_) rfl (by kernel_rfl) (by kernel_rfl) (by kernel_rfl) (by kernel_rfl) (fun _ _ _ h => h) (Or.inl ⟨by rfl, ?_⟩) (by assumption) ?_
            rotate_left 1
            · intro w hSw
              (try dsimp only at hSw)
              (first | (go_simp; done) | (go_simp; with_reducible rfl))
            (try simp only [Act.put, List.getElem_toArray, List.getElem_cons_succ, List.getElem_cons_zero, List.setIfInBounds_toArray, List.set_cons_zero, List.set_cons_succ])
            refine wpAnyF_take (i := 21) (oi := _) (v := ?_) rfl (by kernel_rfl) (by kernel_rfl) (by kernel_rfl) (by kernel_rfl) (fun _ _ _ h => h) (Or.inl ⟨by rfl, ?_⟩) (by assumption) ?_
            rotate_left 1
            · intro w hSw
              (try dsimp only at hSw)
              (first | (go_simp; done) | (go_simp; with_reducible rfl))
            (try simp only [Act.put, List.getElem_toArray, List.getElem_cons_succ, List.getElem_cons_zero, List.setIfInBounds_toArray, List.set_cons_zero, List.set_cons_succ])
            refine wpAnyF_take (i := 22) (oi := _) (v := ?_) rfl (by kernel_rfl) (by kernel_rfl) (by kernel_rfl) (by kernel_rfl) (fun _ _ _ h => h) (Or.inl ⟨by rfl, ?_⟩) (by assumption) ?_
            rotate_left 1
            · intro w hSw
              (try dsimp only at hSw)
              (first | (go_simp; done) | (go_simp; with_reducible rfl))
            (try simp only [Act.put, List.getElem_toArray, List.getElem_cons_succ, List.getElem_cons_zero, List.setIfInBounds_toArray, List.set_cons_zero, List.set_cons_succ])
            refine wpAnyF_take (i := 23) (oi := _) (v := ?_) rfl (by kernel_rfl) (by kernel_rfl) (by kernel_rfl) (by kernel_rfl) (fun _ _ _ h => h) (Or.inl ⟨by rfl, ?_⟩) (by assumption) ?_
            rotate_left 1
            · intro w hSw
              (try dsimp only at hSw)
              (first | (go_simp; done) | (go_simp; with_reducible rfl))
            (try simp only [Act.put, List.getElem_toArray, List.getElem_cons_succ, List.getElem_cons_zero, List.setIfInBounds_toArray, List.set_cons_zero, List.set_cons_succ])
            refine wpAnyF_take (i := 24) (oi := _) (v := _) rfl (by kernel_rfl) (by kernel_rfl) (by kernel_rfl) (by kernel_rfl) (fun _ _ _ h => h) (yields_cell (by with_unfolding_all rfl) 4 (.tmp 111) rfl rg 4 rfl (.bool off1) _ (fun W h => HRDN.out W h) Try.underlying4 rfl) (by assumption) ?_
            (try simp only [Act.put, List.getElem_toArray, List.getElem_cons_succ, List.getElem_cons_zero, List.setIfInBounds_toArray, List.set_cons_zero, List.set_cons_succ])
            refine wpAnyF_ready (rs := [20]) (by kernel_rfl) (by simp) ?_
            refine AllReadyF.cons (o := _) rfl (fun K hK => ?_) AllReadyF.nil
            go_simp
            refine (HDN.out _ hHeld4).mono ?_
            rintro e W5 ⟨rfl, hb5⟩
            refine hK.out _ _ (After.next hHeld4 hb5) (fun hHeld5 => ?_)
            clear hK K
            (try simp only [Act.put, List.getElem_toArray, List.getElem_cons_succ, List.getElem_cons_zero, List.setIfInBounds_toArray, List.set_cons_zero, List.set_cons_succ])
            refine wpAnyF_take (i := 25) (oi := _) (v := ?_) rfl (by kernel_rfl) (by kernel_rfl) (by kernel_rfl) (by kernel_rfl) (fun _ _ _ h => h) (Or.inl ⟨by rfl, ?_⟩) (by assumption) ?_
            rotate_left 1
            · intro w hSw
              (try dsimp only at hSw)
              (first | (go_simp; done) | (go_simp; with_reducible rfl))
            (try simp only [Act.put, List.getElem_toArray, List.getElem_cons_succ, List.getElem_cons_zero, List.setIfInBounds_toArray, List.set_cons_zero, List.set_cons_succ])
            refine wpAnyF_take (i := 26) (oi := _) (v := ?_) rfl (by kernel_rfl) (by kernel_rfl) (by kernel_rfl) (by kernel_rfl) (fun _ _ _ h => h) (Or.inl ⟨by rfl, ?_⟩) (by assumption) ?_
            rotate_left 1
            · intro w hSw
              (try dsimp only at hSw)
              (first | (go_simp; done) | (go_simp; with_reducible rfl))
            (try simp only [Act.put, List.getElem_toArray, List.getElem_cons_succ, List.getElem_cons_zero, List.setIfInBounds_toArray, List.set_cons_zero, List.set_cons_succ])
            refine wpAnyF_take (i := 27) (oi := _) (v := ?_) rfl (by kernel_rfl) (by kernel_rfl) (by kernel_rfl) (by kernel_rfl) (fun _ _ _ h => h) (Or.inl ⟨by rfl, ?_⟩) (by assumption) ?_
            rotate_left 1
            · intro w hSw
              (try dsimp only at hSw)
              (first | (go_simp; done) | (go_simp; with_reducible rfl))
            (try simp only [Act.put, List.getElem_toArray, List.getElem_cons_succ, List.getElem_cons_zero, List.setIfInBounds_toArray, List.set_cons_zero, List.set_cons_succ])
            refine wpAnyF_take (i := 28) (oi := _) (v := ?_) rfl (by kernel_rfl) (by kernel_rfl) (by kernel_rfl) (by kernel_rfl) (fun _ _ _ h => h) (Or.inl ⟨by rfl, ?_⟩) (by assumption) ?_
            rotate_left 1
            · intro w hSw
              (try dsimp only at hSw)
              (first | (go_simp; done) | (go_simp; with_reducible rfl))
            (try simp only [Act.put, List.getElem_toArray, List.getElem_cons_succ, List.getElem_cons_zero, List.setIfInBounds_toArray, List.set_cons_zero, List.set_cons_succ])
            refine wpAnyF_take (i := 31) (oi := _) (v := ?_) rfl (by kernel_rfl) (by kernel_rfl) (by kernel_rfl) (by kernel_rfl) (fun _ _ _ h => h) (Or.inl ⟨by rfl, ?_⟩) (by assumption) ?_
            rotate_left 1
            · intro w hSw
              (try dsimp only at hSw)
              (first | (go_simp; done) | (go_simp; with_reducible rfl))
            (try simp only [Act.put, List.getElem_toArray, List.getElem_cons_succ, List.getElem_cons_zero, List.setIfInBounds_toArray, List.set_cons_zero, List.set_cons_succ])
            refine wpAnyF_take (i := 32) (oi := _) (v := ?_) rfl (by kernel_rfl) (by kernel_rfl) (by kernel_rfl) (by kernel_rfl) (fun _ _ _ h => h) (Or.inl ⟨by rfl, ?_⟩) (by assumption) ?_
            rotate_left 1
            · intro w hSw
              (try dsimp only at hSw)
              (first | (go_simp; done) | (go_simp; with_reducible rfl))
            (try simp only [Act.put, List.getElem_toArray, List.getElem_cons_succ, List.getElem_cons_zero, List.setIfInBounds_toArray, List.set_cons_zero, List.set_cons_succ])
            refine wpAnyF_take (i := 33) (oi := _) (v := ?_) rfl (by kernel_rfl) (by kernel_rfl) (by kernel_rfl) (by kernel_rfl) (fun _ _ _ h => h) (Or.inl ⟨by rfl, ?_⟩) (by assumption) ?_
            rotate_left 1
            · intro w hSw
              (try dsimp only at hSw)
              (first | (go_simp; done) | (go_simp; with_reducible rfl))
            (try simp only [Act.put, List.getElem_toArray, List.getElem_cons_succ, List.getElem_cons_zero, List.setIfInBounds_toArray, List.set_cons_zero, List.set_cons_succ])
            refine wpAnyF_take (i := 34) (oi := _) (v := _) rfl (by kernel_rfl) (by kernel_rfl) (by kernel_rfl) (by kernel_rfl) (fun _ _ _ h => h) (yields_cell (by with_unfolding_all rfl) 49 (.tmp 121) rfl rg 7 rfl (.slice A2 k1 cA2) _ (fun W h => HRAC.out W h) Try.underlying49 rfl) (by assumption) ?_
            (try simp only [Act.put, List.getElem_toArray, List.getElem_cons_succ, List.getElem_cons_zero, List.setIfInBounds_toArray, List.set_cons_zero, List.set_cons_succ])
            refine wpAnyF_take (i := 35) (oi := _) (v := ?_) rfl (by kernel_rfl) (by kernel_rfl) (by kernel_rfl) (by kernel_rfl) (fun _ _ _ h => h) (Or.inl ⟨by rfl, ?_⟩) (by assumption) ?_
            rotate_left 1
            · intro w hSw
              (try dsimp only at hSw)
              (first | (go_simp; done) | (go_simp; with_reducible rfl))
            (try simp only [Act.put, List.getElem_toArray, List.getElem_cons_succ, List.getElem_cons_zero, List.setIfInBounds_toArray, List.set_cons_zero, List.set_cons_succ])
            refine wpAnyF_ready (rs := [29]) (by kernel_rfl) (by simp) ?_
            refine AllReadyF.cons (o := _) rfl (fun K hK => ?_) AllReadyF.nil
            go_simp
            refine (HAC.out _ hHeld5).mono ?_
            rintro e W6 ⟨⟨A6, c6, rfl⟩, hb6⟩
            refine hK.out _ _ (After.next hHeld5 hb6) (fun hHeld6 => ?_)
            clear hK K
            (try simp only [Act.put, List.getElem_toArray, List.getElem_cons_succ, List.getElem_cons_zero, List.setIfInBounds_toArray, List.set_cons_zero, List.set_cons_succ])
            refine wpAnyF_take (i := 30) (oi := _) (v := ?_) rfl (by kernel_rfl) (by kernel_rfl) (by kernel_rfl) (by kernel_rfl) (fun _ _ _ h => h) (Or.inl ⟨by rfl, ?_⟩) (by assumption) ?_
            rotate_left 1
            · intro w hSw
              (try dsimp only at hSw)
              (first | (go_simp; done) | (go_simp; with_reducible rfl))
            (try simp only [Act.put, List.getElem_toArray, List.getElem_cons_succ, List.getElem_cons_zero, List.setIfInBounds_toArray, List.set_cons_zero, List.set_cons_succ])
            refine wpAnyF_take (i := 36) (oi := _) (v := ?_) rfl (by kernel_rfl) (by kernel_rfl) (by kernel_rfl) (by kernel_rfl) (fun _ _ _ h => h) (Or.inl ⟨by rfl, ?_⟩) (by assumption) ?_
            rotate_left 1
            · intro w hSw
              (try dsimp only at hSw)
              (first | (go_simp; done) | (go_simp; with_reducible rfl))
            (try simp only [Act.put, List.getElem_toArray, List.getElem_cons_succ, List.getElem_cons_zero, List.setIfInBounds_toArray, List.set_cons_zero, List.set_cons_succ])
            refine wpAnyF_take (i := 37) (oi := _) (v := ?_) rfl (by kernel_rfl) (by kernel_rfl) (by kernel_rfl) (by kernel_rfl) (fun _ _ _ h => h) (Or.inl ⟨by rfl, ?_⟩) (by assumption) ?_
            rotate_left 1
            · intro w hSw
              (try dsimp only at hSw)
              (first | (go_simp; done) | (go_simp; with_reducible rfl))
            (try simp only [Act.put, List.getElem_toArray, List.getElem_cons_succ, List.getElem_cons_zero, List.setIfInBounds_toArray, List.set_cons_zero, List.set_cons_succ])
            refine wpAnyF_done (by kernel_rfl) ?_ _
            have HEN := Lib.hid (HDV.out.next kept_nil hHeld6)
            clear hHeld hHeld3 hHeld4 hHeld5 hHeld6 hb3 hb4 hb5 hb6
            go_wp2_with fail
            go_roundg (n - (i + 1))
            case measure => omega
            case rel => exact ⟨i + 1, _, by go_num, by omega, by omega, HK1.out, HEN.out⟩
        · have h40i : (40 : Int) ≤ (i : Int) := by omega
          go_wp2_with (first
            | (with_reducible refine wpList_load_mid rfl OpT9 (.tmp 26) rfl bo (oo + i * 36) rfl cs _ HRG.out Try.underlying38 rfl HIL.out ?_)
            | (with_reducible refine wpList_store_row rfl OpT9 (.tmp 10) (.tmp 27) rfl _ _ rfl rfl OpT9 _ HO8.out HIA.out HSZ8.out HON8.out ?_))
          rw [← HV8.out]
          have hdv := HD8.out.less (Y := nilX) (fun _ _ _ => trivial)
          generalize V8 = V at *
          clear HD8 HP8 HV8 HO8 HB8 HRG HIL HIA HSZ8 HON8 HCS
          obtain ⟨c1, l1, off1, k1, u1⟩ := s
          have HBV := Lib.hid hdv.below
          have HROW := Lib.hid hdv.rrow
          have HRD := Lib.hid (fun W (hW : After V W) => (hdv.next kept_nil hW).read)
          have HEQ := Lib.hid (eql_reg c1 l1)
          have HIR1 := Lib.hid (info_reg (regF c1 l1))
          have HGR := Lib.hid guard_reg
          dsimp only at HROW HRD
          obtain ⟨r1, hr1⟩ : ∃ z, z = rowV (regF c1 l1) 33 := ⟨_, rfl⟩
          rw [← hr1] at HROW HRD HEQ HIR1
          clear hdv hr1
          refine wp_region_F (S := (After V)) [] (by kernel_rfl) (After.drew V) (fun hHeld => ?_)
          refine wpAnyF_take (i := 0) (oi := _) (v := ?_) rfl (by kernel_rfl) (by kernel_rfl) (by kernel_rfl) (by kernel_rfl) (fun _ _ _ h => h) (Or.inl ⟨by rfl, ?_⟩) (by assumption) ?_
          rotate_left 1
          · intro w hSw
            (try dsimp only at hSw)
            (first | (go_simp; done) | (go_simp; with_reducible rfl))
          (try simp only [Act.put, List.getElem_toArray, List.getElem_cons_succ, List.getElem_cons_zero, List.setIfInBounds_toArray, List.set_cons_zero, List.set_cons_succ])
          refine wpAnyF_take (i := 2) (oi := _) (v := ?_) rfl (by kernel_rfl) (by kernel_rfl) (by kernel_rfl) (by kernel_rfl) (fun _ _ _ h => h) (Or.inl ⟨by rfl, ?_⟩) (by assumption) ?_
          rotate_left 1
          · intro w hSw
            (try dsimp only at hSw)
            (first | (go_simp; done) | (go_simp; with_reducible rfl))
          (try simp only [Act.put, List.getElem_toArray, List.getElem_cons_succ, List.getElem_cons_zero, List.setIfInBounds_toArray, List.set_cons_zero, List.set_cons_succ])
          refine wpAnyF_take (i := 3) (oi := _) (v := ?_) rfl (by kernel_rfl) (by kernel_rfl) (by kernel_rfl) (by kernel_rfl) (fun _ _ _ h => h) (Or.inl ⟨by rfl, ?_⟩) (by assumption) ?_
          rotate_left 1
          · intro w hSw
            (try dsimp only at hSw)
            (first | (go_simp; done) | (go_simp; with_reducible rfl))
          (try simp only [Act.put, List.getElem_toArray, List.getElem_cons_succ, List.getElem_cons_zero, List.setIfInBounds_toArray, List.set_cons_zero, List.set_cons_succ])
          refine wpAnyF_take (i := 4) (oi := _) (v := ?_) rfl (by kernel_rfl) (by kernel_rfl) (by kernel_rfl) (by kernel_rfl) (fun _ _ _ h => h) (Or.inl ⟨by rfl, ?_⟩) (by assumption) ?_
          rotate_left 1
          · intro w hSw
            (try dsimp only at hSw)
            (first | (go_simp; done) | (go_simp; with_reducible rfl))
          (try simp only [Act.put, List.getElem_toArray, List.getElem_cons_succ, List.getElem_cons_zero, List.setIfInBounds_toArray, List.set_cons_zero, List.set_cons_succ])
          refine wpAnyF_take (i := 5) (oi := _) (v := _) rfl (by kernel_rfl) (by kernel_rfl) (by kernel_rfl) (by kernel_rfl) (fun _ _ _ h => h) (yields_rowA (by rfl) RegT (.tmp 131) rfl r 0 rfl r1 _ (fun W h => HROW.out W h) Try.underlying26 rfl HIR1.out) (by assumption) ?_
          (try simp only [Act.put, List.getElem_toArray, List.getElem_cons_succ, List.getElem_cons_zero, List.setIfInBounds_toArray, List.set_cons_zero, List.set_cons_succ])
          refine wpAnyF_ready (rs := [1]) (by kernel_rfl) (by simp) ?_
          refine AllReadyF.cons (o := _) rfl (fun K hK => ?_) AllReadyF.nil
          go_simp
          refine (HRD.out _ hHeld).mono ?_
          rintro e W3 ⟨rfl, hb3⟩
          refine hK.out _ _ (After.next hHeld hb3) (fun hHeld3 => ?_)
          clear hK K
          (try simp only [Act.put, List.getElem_toArray, List.getElem_cons_succ, List.getElem_cons_zero, List.setIfInBounds_toArray, List.set_cons_zero, List.set_cons_succ])
          refine wpAnyF_take (i := 6) (oi := _) (v := _) rfl (by kernel_rfl) (by kernel_rfl) (by kernel_rfl) (by kernel_rfl) (fun _ _ _ h => h) (yields_bin .eql (.inr rfl) (by rfl) RegT RegT (.tmp 128) (.tmp 132) rfl r1 r1 (.bool true) rfl rfl HGR.out (fun W => HEQ.out W)) (by assumption) ?_
          (try simp only [Act.put, List.getElem_toArray, List.getElem_cons_succ, List.getElem_cons_zero, List.setIfInBounds_toArray, List.set_cons_zero, List.set_cons_succ])
          refine wpAnyF_take (i := 7) (oi := _) (v := ?_) rfl (by kernel_rfl) (by kernel_rfl) (by kernel_rfl) (by kernel_rfl) (fun _ _ _ h => h) (Or.inl ⟨by rfl, ?_⟩) (by assumption) ?_
          rotate_left 1
          · intro w hSw
            (try dsimp only at hSw)
            (first | (go_simp; done) | (go_simp; with_reducible rfl))
          (try simp only [Act.put, List.getElem_toArray, List.getElem_cons_succ, List.getElem_cons_zero, List.setIfInBounds_toArray, List.set_cons_zero, List.set_cons_succ])
          refine wpAnyF_ready (rs := [8]) (by kernel_rfl) (by simp) ?_
          refine AllReadyF.cons (o := _) rfl (fun K hK => ?_) AllReadyF.nil
          go_simp
          refine (HAW.out _).mono ?_
          rintro e W4 ⟨rfl, hb4⟩
          refine hK.out _ _ (After.next hHeld3 hb4) (fun hHeld4 => ?_)
          clear hK K
          (try simp only [Act.put, List.getElem_toArray, List.getElem_cons_succ, List.getElem_cons_zero, List.setIfInBounds_toArray, List.set_cons_zero, List.set_cons_succ])
          refine wpAnyF_take (i := 9) (oi := _) (v := ?_) rfl (by kernel_rfl) (by kernel_rfl) (by kernel_rfl) (by kernel_rfl) (fun _ _ _ h => h) (Or.inl ⟨by rfl, ?_⟩) (by assumption) ?_
          rotate_left 1
          · intro w hSw
            (try dsimp only at hSw)
            (first | (go_simp; done) | (go_simp; with_reducible rfl))
          (try simp only [Act.put, List.getElem_toArray, List.getElem_cons_succ, List.getElem_cons_zero, List.setIfInBounds_toArray, List.set_cons_zero, List.set_cons_succ])
          refine wpAnyF_take (i := 10) (oi := _) (v := ?_) rfl (by kernel_rfl) (by kernel_rfl) (by kernel_rfl) (by kernel_rfl) (fun _ _ _ h => h) (Or.inl ⟨by rfl, ?_⟩) (by assumption) ?_
          rotate_left 1
          · intro w hSw
            (try dsimp only at hSw)
            (first | (go_simp; done) | (go_simp; with_reducible rfl))
          (try simp only [Act.put, List.getElem_toArray, List.getElem_cons_succ, List.getElem_cons_zero, List.setIfInBounds_toArray, List.set_cons_zero, List.set_cons_succ])
          refine wpAnyF_done (by kernel_rfl) ?_ _
          have HB4 := Lib.hid (Below.trans HBV.out (Below.mono hHeld4 HBV.out.size))
          clear hHeld hHeld3 hHeld4 hb3 hb4
          go_wp2
          go_ret
          exact ⟨rfl, HB4.out⟩
      · have hni : n = i := by omega
        subst hni
        go_wp2_with fail
        have hdv := HC.out
        generalize wr = V at *
        clear HC
        obtain ⟨c1, l1, off1, k1, u1⟩ := s
        have HBV := Lib.hid hdv.below
        have HROW := Lib.hid hdv.rrow
        have HRD := Lib.hid (fun W (hW : After V W) => (hdv.next kept_nil hW).read)
        have HEQ := Lib.hid (eql_reg c1 l1)
        have HIR1 := Lib.hid (info_reg (regF c1 l1))
        have HGR := Lib.hid guard_reg
        dsimp only at HROW HRD
        obtain ⟨r1, hr1⟩ : ∃ z, z = rowV (regF c1 l1) 33 := ⟨_, rfl⟩
        rw [← hr1] at HROW HRD HEQ HIR1
        clear hdv hr1
        refine wp_region_F (S := (After V)) [] (by kernel_rfl) (After.drew V) (fun hHeld => ?_)
        refine wpAnyF_take (i := 0) (oi := _) (v := ?_) rfl (by kernel_rfl) (by kernel_rfl) (by kernel_rfl) (by kernel_rfl) (fun _ _ _ h => h) (Or.inl ⟨by rfl, ?_⟩) (by assumption) ?_
        rotate_left 1
        · intro w hSw
          (try dsimp only at hSw)
          (first | (go_simp; done) | (go_simp; with_reducible rfl))
        (try simp only [Act.put, List.getElem_toArray, List.getElem_cons_succ, List.getElem_cons_zero, List.setIfInBounds_toArray, List.set_cons_zero, List.set_cons_succ])
        refine wpAnyF_take (i := 2) (oi := _) (v := ?_) rfl (by kernel_rfl) (by kernel_rfl) (by kernel_rfl) (by kernel_rfl) (fun _ _ _ h => h) (Or.inl ⟨by rfl, ?_⟩) (by assumption) ?_
        rotate_left 1
        · intro w hSw
          (try dsimp only at hSw)
          (first | (go_simp; done) | (go_simp; with_reducible rfl))
        (try simp only [Act.put, List.getElem_toArray, List.getElem_cons_succ, List.getElem_cons_zero, List.setIfInBounds_toArray, List.set_cons_zero, List.set_cons_succ])
        refine wpAnyF_take (i := 3) (oi := _) (v := ?_) rfl (by kernel_rfl) (by kernel_rfl) (by kernel_rfl) (by kernel_rfl) (fun _ _ _ h => h) (Or.inl ⟨by rfl, ?_⟩) (by assumption) ?_
        rotate_left 1
        · intro w hSw
          (try dsimp only at hSw)
          (first | (go_simp; done) | (go_simp; with_reducible rfl))
        (try simp only [Act.put, List.getElem_toArray, List.getElem_cons_succ, List.getElem_cons_zero, List.setIfInBounds_toArray, List.set_cons_zero, List.set_cons_succ])
        refine wpAnyF_take (i := 4) (oi := _) (v := ?_) rfl (by kernel_rfl) (by kernel_rfl) (by kernel_rfl) (by kernel_rfl) (fun _ _ _ h => h) (Or.inl ⟨by rfl, ?_⟩) (by assumption) ?_
        rotate_left 1
        · intro w hSw
          (try dsimp only at hSw)
          (first | (go_simp; done) | (go_simp; with_reducible rfl))
        (try simp only [Act.put, List.getElem_toArray, List.getElem_cons_succ, List.getElem_cons_zero, List.setIfInBounds_toArray, List.set_cons_zero, List.set_cons_succ])
        refine wpAnyF_take (i := 5) (oi := _) (v := _) rfl (by kernel_rfl) (by kernel_rfl) (by kernel_rfl) (by kernel_rfl) (fun _ _ _ h => h) (yields_rowA (by rfl) RegT (.tmp 131) rfl r 0 rfl r1 _ (fun W h => HROW.out W h) Try.underlying26 rfl HIR1.out) (by assumption) ?_
        (try simp only [Act.put, List.getElem_toArray, List.getElem_cons_succ, List.getElem_cons_zero, List.setIfInBounds_toArray, List.set_cons_zero, List.set_cons_succ])
        refine wpAnyF_ready (rs := [1]) (by kernel_rfl) (by simp) ?_
        refine AllReadyF.cons (o := _) rfl (fun K hK => ?_) AllReadyF.nil
        go_simp
        refine (HRD.out _ hHeld).mono ?_
        rintro e W3 ⟨rfl, hb3⟩
        refine hK.out _ _ (After.next hHeld hb3) (fun hHeld3 => ?_)
        clear hK K
        (try simp only [Act.put, List.getElem_toArray, List.getElem_cons_succ, List.getElem_cons_zero, List.setIfInBounds_toArray, List.set_cons_zero, List.set_cons_succ])
        refine wpAnyF_take (i := 6) (oi := _) (v := _) rfl (by kernel_rfl) (by kernel_rfl) (by kernel_rfl) (by kernel_rfl) (fun _ _ _ h => h) (yields_bin .eql (.inr rfl) (by rfl) RegT RegT (.tmp 128) (.tmp 132) rfl r1 r1 (.bool true) rfl rfl HGR.out (fun W => HEQ.out W)) (by assumption) ?_
        (try simp only [Act.put, List.getElem_toArray, List.getElem_cons_succ, List.getElem_cons_zero, List.setIfInBounds_toArray, List.set_cons_zero, List.set_cons_succ])
        refine wpAnyF_take (i := 7) (oi := _) (v := ?_) rfl (by kernel_rfl) (by kernel_rfl) (by kernel_rfl) (by kernel_rfl) (fun _ _ _ h => h) (Or.inl ⟨by rfl, ?_⟩) (by assumption) ?_
        rotate_left 1
        · intro w hSw
          (try dsimp only at hSw)
          (first | (go_simp; done) | (go_simp; with_reducible rfl))
        (try simp only [Act.put, List.getElem_toArray, List.getElem_cons_succ, List.getElem_cons_zero, List.setIfInBounds_toArray, List.set_cons_zero, List.set_cons_succ])
        refine wpAnyF_ready (rs := [8]) (by kernel_rfl) (by simp) ?_
        refine AllReadyF.cons (o := _) rfl (fun K hK => ?_) AllReadyF.nil
        go_simp
        refine (HAW.out _).mono ?_
        rintro e W4 ⟨rfl, hb4⟩
        refine hK.out _ _ (After.next hHeld3 hb4) (fun hHeld4 => ?_)
        clear hK K
        (try simp only [Act.put, List.getElem_toArray, List.getElem_cons_succ, List.getElem_cons_zero, List.setIfInBounds_toArray, List.set_cons_zero, List.set_cons_succ])
        refine wpAnyF_take (i := 9) (oi := _) (v := ?_) rfl (by kernel_rfl) (by kernel_rfl) (by kernel_rfl) (by kernel_rfl) (fun _ _ _ h => h) (Or.inl ⟨by rfl, ?_⟩) (by assumption) ?_
        rotate_left 1
        · intro w hSw
          (try dsimp only at hSw)
          (first | (go_simp; done) | (go_simp; with_reducible rfl))
        (try simp only [Act.put, List.getElem_toArray, List.getElem_cons_succ, List.getElem_cons_zero, List.setIfInBounds_toArray, List.set_cons_zero, List.set_cons_succ])
        refine wpAnyF_take (i := 10) (oi := _) (v := ?_) rfl (by kernel_rfl) (by kernel_rfl) (by kernel_rfl) (by kernel_rfl) (fun _ _ _ h => h) (Or.inl ⟨by rfl, ?_⟩) (by assumption) ?_
        rotate_left 1
        · intro w hSw
          (try dsimp only at hSw)
          (first | (go_simp; done) | (go_simp; with_reducible rfl))
        (try simp only [Act.put, List.getElem_toArray, List.getElem_cons_succ, List.getElem_cons_zero, List.setIfInBounds_toArray, List.set_cons_zero, List.set_cons_succ])
        refine wpAnyF_done (by kernel_rfl) ?_ _
        have HB4 := Lib.hid (Below.trans HBV.out (Below.mono hHeld4 HBV.out.size))
        clear hHeld hHeld3 hHeld4 hb3 hb4
        go_wp2
        go_ret
        exact ⟨rfl, HB4.out⟩
end Go.Proofs.Ytbanknppdgiflaa
