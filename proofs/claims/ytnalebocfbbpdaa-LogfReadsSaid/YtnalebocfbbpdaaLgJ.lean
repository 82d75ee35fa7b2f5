/-
  logf: the first block of a log.
-/
import Derived.Test.YtnalebocfbbpdaaLgP
import Derived.Test.YtnalebocfbbpdaaPgV
import Derived.Lib.SlBytesConst
namespace Go.Proofs.Ytnalebocfbbpdaa
open Go.RowKit Go
set_option linter.unusedVariables false
set_option linter.unusedSimpArgs false
set_option maxRecDepth 100000
/-- a constant's bytes get their mark: no cell is another one -/
theorem conv_mark {P : Program} (w : World) (t e : TypeId) (C : Array Value) (g n c : Nat) (hh : w.heap[g]? = some (.cells C e (0, 0))) (ht : P.underlying t = some (.slice e)) (he : P.underlying e = some (.int .u8)) :
    ∃ w', (convert t t (.slice (some ⟨g, 0, none⟩) n c)).run P w = .ok (.slice (some ⟨g, 0, none⟩) n c) w' ∧ (∀ p, w'.cell? p = w.cell? p) ∧ w.grownBy w' (some g) ∧ w'.heap.size = w.heap.size := by
  have hsh : w.shape? g = some (e, C.size) := by unfold World.shape?; rw [hh]
  refine ⟨w.freeze ⟨g, C.size, none⟩ 1, ?_, fun p => ?_, ⟨?_, ?_, ?_, ?_, fun k hk hne => ?_⟩, ?_⟩
  · simp [convert, run_underlying ht, run_underlying he, markStringish, hsh]
  all_goals unfold World.freeze
  all_goals rw [if_neg (by decide)]
  · unfold World.cell?
    by_cases hp : g = p.block
    · subst hp
      simp only [Array.getElem?_modify, if_true, hh, Option.map_some]
    · simp only [Array.getElem?_modify, if_neg hp]
  · exact Nat.le_of_eq (by simp)
  · simp only [Array.getElem?_modify]
    rw [if_neg (fun q => hne (by rw [q]))]
  · simp
theorem BS.same {w w' : World} {B n c : Nat} {A : Option Addr} {l : List Nat} (h : BS w B A n c l) (hk : ∀ p, w'.cell? p = w.cell? p) : BS w' B A n c l := h.keep fun p _ => hk p
def sig : List Nat := [82, 69, 68, 79, 45, 76, 79, 71]
def sigV : Array Value := #[.int .u8 82, .int .u8 69, .int .u8 68, .int .u8 79, .int .u8 45, .int .u8 76, .int .u8 79, .int .u8 71]
theorem sig_bs {W : World} : BS (W.alloc (.cells sigV 5)) (W.alloc (.cells sigV 5)).heap.size (some ⟨W.heap.size, 0, none⟩) 8 8 sig :=
  BS.of_blk (heap_alloc_new W _) (by simp) rfl (Nat.le_refl _) (by omega) (fun i => by
    rcases Nat.lt_or_ge i 8 with h | h
    · have : ∀ j : Fin 8, sig.getD j 0 < 256 := by decide
      exact this ⟨i, h⟩
    · rw [List.getD_eq_getElem?_getD, List.getElem?_eq_none (by exact h)]; decide) (fun i hi => by
    have : ∀ j : Fin 8, sigV[(j : Nat)]? = some (.int .u8 ((sig.getD j 0 : Nat) : Int)) := by intro j; match j with | 0 => rfl | 1 => rfl | 2 => rfl | 3 => rfl | 4 => rfl | 5 => rfl | 6 => rfl | 7 => rfl
    exact this ⟨i, hi⟩)
def kL (es : List (Int × List Nat)) (k : Nat) : List Nat := ((es.take k).map fun e => putL 2 e.1.toNat).flatten
def headF (cnt : Nat) (es : List (Int × List Nat)) : List Nat := [sig, putL 8 cnt, putL 2 es.length].flatten
def headL (cnt : Nat) (es : List (Int × List Nat)) : List Nat := padL (headF cnt es ++ kL es es.length) 256
theorem kL_len (es : List (Int × List Nat)) : ∀ k, k ≤ es.length → (kL es k).length = 2 * k
  | 0, _ => rfl
  | k + 1, h => by
    have ih := kL_len es k (by omega)
    unfold kL at ih ⊢
    rw [List.take_succ_eq_append_getElem (by omega), List.map_append, List.flatten_append, List.length_append, ih]
    simp [putL]; omega
theorem kL_step (es : List (Int × List Nat)) {k : Nat} (h : k < es.length) : kL es (k + 1) = kL es k ++ putL 2 (kAt es k).toNat := by
  unfold kL
  rw [List.take_succ_eq_append_getElem h, List.map_append, List.flatten_append]
  have e1 : kAt es k = (es[k]).1 := by unfold kAt; simp [List.getD, List.getElem?_eq_getElem h]
  rw [e1]; simp
theorem headF_len (cnt : Nat) (es : List (Int × List Nat)) : (headF cnt es).length = 18 := by simp [headF, sig, putL]
theorem app_byte {a b : List Nat} (ha : ∀ i, a.getD i 0 < 256) (hb : ∀ i, b.getD i 0 < 256) (i : Nat) : (a ++ b).getD i 0 < 256 := by
  rw [List.getD_eq_getElem?_getD]
  rcases Nat.lt_or_ge i a.length with h | h
  · rw [List.getElem?_append_left h, ← List.getD_eq_getElem?_getD]; exact ha i
  · rw [List.getElem?_append_right h, ← List.getD_eq_getElem?_getD]; exact hb _
theorem sig_byte (i : Nat) : sig.getD i 0 < 256 := by
  rcases Nat.lt_or_ge i 8 with h | h
  · have : ∀ j : Fin 8, sig.getD j 0 < 256 := by decide
    exact this ⟨i, h⟩
  · rw [List.getD_eq_getElem?_getD, List.getElem?_eq_none (by exact h)]; decide
theorem headF_byte (cnt : Nat) (es : List (Int × List Nat)) (i : Nat) : (headF cnt es).getD i 0 < 256 := by
  unfold headF
  simp only [List.flatten_cons, List.flatten_nil, List.append_nil]
  exact app_byte sig_byte (fun i => app_byte (fun i => putL_byte _ _ i) (fun i => putL_byte _ _ i) i) i
theorem kL_byte (es : List (Int × List Nat)) : ∀ k i, (kL es k).getD i 0 < 256
  | 0, i => by unfold kL; simp
  | k + 1, i => by
    rcases Nat.lt_or_ge k es.length with h | h
    · rw [kL_step es h]; exact app_byte (kL_byte es k) (fun i => putL_byte _ _ i) i
    · have e : kL es (k + 1) = kL es k := by unfold kL; rw [List.take_of_length_le (by omega), List.take_of_length_le h]
      rw [e]; exact kL_byte es k i
theorem rows_three {w w' : World} {x y z : List Nat} {A1 A2 A3 : Option Addr} {c1 c2 c3 : Nat} (hx : 0 < x.length ∧ x.length ≤ 100) (hy : 0 < y.length ∧ y.length ≤ 100) (hz : 0 < z.length ∧ z.length ≤ 100)
    (h1 : BS w w.heap.size A1 x.length c1 x) (h2 : BS w w.heap.size A2 y.length c2 y) (h3 : BS w w.heap.size A3 z.length c3 z) (t : TypeId) :
    RowsAt (w.alloc (.cells #[.slice A1 x.length c1, .slice A2 y.length c2, .slice A3 z.length c3] t)) w.heap.size [x, y, z] := by
  have hb : Below w.heap.size w (w.alloc (.cells #[.slice A1 x.length c1, .slice A2 y.length c2, .slice A3 z.length c3] t)) := (Below.refl _ _).alloc (Nat.le_refl _) _
  have hn := heap_alloc_new w (.cells #[.slice A1 x.length c1, .slice A2 y.length c2, .slice A3 z.length c3] t)
  refine ⟨by simp, fun k hk => ?_⟩
  match k, hk with
  | 0, _ => exact ⟨hx.1, hx.2, A1, c1, blk_cell hn 0, (h1.below hb).more hb.size⟩
  | 1, _ => exact ⟨hy.1, hy.2, A2, c2, blk_cell hn 1, (h2.below hb).more hb.size⟩
  | 2, _ => exact ⟨hz.1, hz.2, A3, c3, blk_cell hn 2, (h3.below hb).more hb.size⟩
/-- numbers that fit -/
def KOk (es : List (Int × List Nat)) : Prop := ∀ i, i < es.length → 0 ≤ kAt es i ∧ kAt es i < 65536
set_option maxHeartbeats 8000000 in
theorem head_any (cnt n c : Nat) (A : Option Addr) (es : List (Int × List Nat)) (w : World) (hcnt : cnt < 2 ^ 64) (hE : EsV w A n es) (hK : KOk es) (hn9 : n ≤ 100) :
    Calls Try.prog 20 #[.agg #[.int .u64 (cnt : Int), .slice A n c]] w (GivesO w (headL cnt es)) := by
  have hl := hE.1
  have HE := Lib.hid hE
  have HL := Lib.hid hl
  have HKO := Lib.hid hK
  have hb0 : Below w.heap.size w (w.alloc (.cells #[.int .u64 (cnt : Int), .slice A n c] 35)) := (Below.refl _ _).alloc (Nat.le_refl _) _
  have hx0 := heap_alloc_new w (.cells #[.int .u64 (cnt : Int), .slice A n c] 35)
  have HB0 := Lib.hid hb0
  have HX0 := Lib.hid hx0
  have HP8 := Lib.hid (fun W => put_yes 8 cnt (by omega) (by omega) hcnt W)
  have HP2 := Lib.hid (fun W => put_yes 2 n (by omega) (by omega) (by omega) W)
  have HPK : Hid (∀ k, k < n → ∀ W, Calls Try.prog 34 #[.int .i64 2, .int .u64 (kAt es k)] W (Gives W (putL 2 (kAt es k).toNat))) := Lib.hid (fun k hk W => by
    have := hK k (by omega)
    have h := put_yes 2 (kAt es k).toNat (by omega) (by omega) (by omega) W
    rw [Int.toNat_of_nonneg this.1] at h
    exact h)
  have HWK : Hid (∀ k, k < n → IntKind.u64.wrap (kAt es k) = kAt es k) := Lib.hid (fun k hk => by
    have := hK k (by omega)
    unfold IntKind.wrap
    simp [IntKind.signed, IntKind.bits]
    omega)
  have hwn : IntKind.u64.wrap (n : Int) = (n : Int) := by unfold IntKind.wrap; simp [IntKind.signed, IntKind.bits]; omega
  have e8 : (putL 8 cnt).length = 8 := putL_len _ _
  have e2 : (putL 2 n).length = 2 := putL_len _ _
  have HE8 := Lib.hid e8
  have HE2 := Lib.hid e2
  have HFE : Hid (headF cnt es = [sig, putL 8 cnt, putL 2 n].flatten) := Lib.hid (by unfold headF; rw [hl])
  have hE' := HE.out.below hb0
  have HEE := Lib.hid hE'
  clear hE hl hK hb0 hx0 e8 e2 hE' hcnt
  generalize putL 8 cnt = x8 at *
  generalize putL 2 n = x2 at *
  go_enter Try.func20, Try.ntmps20
  go_wp2_with fail
  generalize w.alloc (.cells #[.int .u64 (cnt : Int), .slice A n c] 35) = W0 at *
  have HK0 : Hid (∀ W : World, (∀ j, W.cell? ⟨w.heap.size, j, none⟩ = W0.cell? ⟨w.heap.size, j, none⟩) → W.cell? ⟨w.heap.size, 0, none⟩ = some (.int .u64 (cnt : Int)) ∧ W.cell? ⟨w.heap.size, 1, none⟩ = some (.slice A n c)) := Lib.hid (fun W h => ⟨(h 0).trans (blk_cell HX0.out 0), (h 1).trans (blk_cell HX0.out 1)⟩)
  have HKB : Hid (∀ W, Below W0.heap.size W0 W → ∀ j, W.cell? ⟨w.heap.size, j, none⟩ = W0.cell? ⟨w.heap.size, j, none⟩) := Lib.hid (fun W h j => h.cell (p := ⟨w.heap.size, j, none⟩) (blk_lt HX0.out))
  refine wp_region_F (S := fun (W : World) => W.cell? ⟨w.heap.size, 0, none⟩ = some (.int .u64 (cnt : Int)) ∧ W.cell? ⟨w.heap.size, 1, none⟩ = some (.slice A n c)) [] (by kernel_rfl) (HK0.out _ (HKB.out _ ((Below.refl _ _).drew))) (fun hHeld => ?_)
  have HBD : Hid (Below W0.heap.size W0 W0.drew) := Lib.hid ((Below.refl _ _).drew)
  generalize W0.drew = Wd at *
  refine wpAnyF_take (i := 2) (oi := _) (v := ?_) rfl (by kernel_rfl) (by kernel_rfl) (by kernel_rfl) (by kernel_rfl) (fun _ _ _ h => h) (Or.inl ⟨by rfl, ?_⟩) (by assumption) ?_
  rotate_left 1
  · intro w hSw
    (try dsimp only at hSw)
    (first | (go_simp; done) | (go_simp; with_reducible rfl))
  (try simp only [Act.put, List.getElem_toArray, List.getElem_cons_succ, List.getElem_cons_zero, List.setIfInBounds_toArray, List.set_cons_zero, List.set_cons_succ])
  refine wpAnyF_take (i := 3) (oi := _) (v := ?_) rfl (by kernel_rfl) (by kernel_rfl) (by kernel_rfl) (by kernel_rfl) (fun _ _ _ h => h) (Or.inl ⟨by rfl, ?_⟩) (by assumption) ?_
  rotate_left 1
  · intro w hSw
    (try dsimp only at hSw)
    (first | (go_simp; done) | (go_simp; with_reducible rfl))
  (try simp only [Act.put, List.getElem_toArray, List.getElem_cons_succ, List.getElem_cons_zero, List.setIfInBounds_toArray, List.set_cons_zero, List.set_cons_succ])
  refine wpAnyF_take (i := 5) (oi := _) (v := ?_) rfl (by kernel_rfl) (by kernel_rfl) (by kernel_rfl) (by kernel_rfl) (fun _ _ _ h => h) (Or.inl ⟨by rfl, ?_⟩) (by assumption) ?_
  rotate_left 1
  · intro w hSw
    (try dsimp only at hSw)
    (first | (go_simp; done) | (go_simp; with_reducible rfl))
  (try simp only [Act.put, List.getElem_toArray, List.getElem_cons_succ, List.getElem_cons_zero, List.setIfInBounds_toArray, List.set_cons_zero, List.set_cons_succ])
  refine wpAnyF_take (i := 6) (oi := _) (v := ?_) rfl (by kernel_rfl) (by kernel_rfl) (by kernel_rfl) (by kernel_rfl) (fun _ _ _ h => h) (Or.inl ⟨by rfl, ?_⟩) (by assumption) ?_
  rotate_left 1
  · intro w hSw
    (try dsimp only at hSw)
    (first | (go_simp; done) | (go_simp; with_reducible rfl))
  (try simp only [Act.put, List.getElem_toArray, List.getElem_cons_succ, List.getElem_cons_zero, List.setIfInBounds_toArray, List.set_cons_zero, List.set_cons_succ])
  refine wpAnyF_take (i := 7) (oi := _) (v := ?_) rfl (by kernel_rfl) (by kernel_rfl) (by kernel_rfl) (by kernel_rfl) (fun _ _ _ h => h) (Or.inl ⟨by rfl, ?_⟩) (by assumption) ?_
  rotate_left 1
  · intro w hSw
    (try dsimp only at hSw)
    (first | (go_simp; done) | (go_simp; with_reducible rfl))
  (try simp only [Act.put, List.getElem_toArray, List.getElem_cons_succ, List.getElem_cons_zero, List.setIfInBounds_toArray, List.set_cons_zero, List.set_cons_succ])
  refine wpAnyF_take (i := 8) (oi := _) (v := ?_) rfl (by kernel_rfl) (by kernel_rfl) (by kernel_rfl) (by kernel_rfl) (fun _ _ _ h => h) (Or.inl ⟨by rfl, ?_⟩) (by assumption) ?_
  rotate_left 1
  · intro w hSw
    (try dsimp only at hSw)
    (first | (go_simp; done) | (go_simp; with_reducible rfl))
  (try simp only [Act.put, List.getElem_toArray, List.getElem_cons_succ, List.getElem_cons_zero, List.setIfInBounds_toArray, List.set_cons_zero, List.set_cons_succ])
  refine wpAnyF_ready (rs := [0, 4]) (by kernel_rfl) (by simp) ?_
  refine AllReadyF.cons (o := _) rfl (fun K hK => ?_) (AllReadyF.cons (o := _) rfl (fun K hK => ?_) AllReadyF.nil)
  · have hst1 : BS (Wd.alloc (.cells sigV 5)) (Wd.alloc (.cells sigV 5)).heap.size (some ⟨Wd.heap.size, 0, none⟩) 8 8 sig := sig_bs
    have hbl1 : Below Wd.heap.size Wd (Wd.alloc (.cells sigV 5)) := (Below.refl _ _).alloc (Nat.le_refl _) _
    have hcl1 := heap_alloc_new Wd (.cells sigV 5)
    have HBA1 : Hid (Below W0.heap.size W0 (Wd.alloc (.cells sigV 5))) := Lib.hid (HBD.out.trans (hbl1.mono HBD.out.size))
    unfold sigV at hst1 hbl1 hcl1 HBA1
    go_simp
    obtain ⟨g1, hg1⟩ : ∃ g, g = Wd.heap.size := ⟨_, rfl⟩
    have HGE1 : Hid (W0.heap.size ≤ g1) := Lib.hid (by rw [hg1]; exact HBD.out.size)
    rw [← hg1] at hst1 hcl1 ⊢
    generalize (Wd.alloc (.cells #[.int .u8 82, .int .u8 69, .int .u8 68, .int .u8 79, .int .u8 45, .int .u8 76, .int .u8 79, .int .u8 71] 5)) = v1 at *
    clear hbl1 hg1
    have HST1 := Lib.hid hst1
    have HCL1 := Lib.hid hcl1
    clear hst1 hcl1
    refine hK.out _ _ (HK0.out _ (HKB.out _ HBA1.out)) (fun hHeld1 => ?_)
    clear hK K
    (try simp only [Act.put, List.getElem_toArray, List.getElem_cons_succ, List.getElem_cons_zero, List.setIfInBounds_toArray, List.set_cons_zero, List.set_cons_succ])
    refine wpAnyF_ready (rs := [1, 4]) (by kernel_rfl) (by simp) ?_
    refine AllReadyF.cons (o := _) rfl (fun K hK => ?_) (AllReadyF.cons (o := _) rfl (fun K hK => ?_) AllReadyF.nil)
    · obtain ⟨v2, hrun2, hcell2, hgr2, hsz2⟩ := conv_mark (P := Try.prog) v1 42 5 _ g1 8 8 HCL1.out Try.underlying42 Try.underlying5
      have HBA2 : Hid (Below W0.heap.size W0 v2) := Lib.hid (HBA1.out.grown hgr2 HBA1.out.size (fun j hj => by injection hj with hj; rw [← hj]; exact HGE1.out))
      have HST1x2 := Lib.hid ((HST1.out.same hcell2).more (Nat.le_of_eq hsz2.symm))
      go_simp
      clear hrun2 hcell2 hgr2 hsz2
      refine hK.out _ _ (HK0.out _ (HKB.out _ HBA2.out)) (fun hHeld2 => ?_)
      clear hK K
      (try simp only [Act.put, List.getElem_toArray, List.getElem_cons_succ, List.getElem_cons_zero, List.setIfInBounds_toArray, List.set_cons_zero, List.set_cons_succ])
      refine wpAnyF_ready (rs := [4]) (by kernel_rfl) (by simp) ?_
      refine AllReadyF.cons (o := _) rfl (fun K hK => ?_) AllReadyF.nil
      go_simp
      (go_at_call 34)
      refine (HP8.out _).mono ?_
      rintro e v3 ⟨A3, c3, rfl, hb3, hs3⟩
      rw [HE8.out] at hs3 ⊢
      have HBA3 : Hid (Below W0.heap.size W0 v3) := Lib.hid (HBA2.out.trans (hb3.mono HBA2.out.size))
      have HST1x2x3 := Lib.hid ((HST1x2.out.below hb3).more hb3.size)
      have HQ3 := Lib.hid hs3
      clear hb3 hs3
      refine hK.out _ _ (HK0.out _ (HKB.out _ HBA3.out)) (fun hHeld3 => ?_)
      clear hK K
      (try simp only [Act.put, List.getElem_toArray, List.getElem_cons_succ, List.getElem_cons_zero, List.setIfInBounds_toArray, List.set_cons_zero, List.set_cons_succ])
      refine wpAnyF_ready (rs := [9]) (by kernel_rfl) (by simp) ?_
      refine AllReadyF.cons (o := _) rfl (fun K hK => ?_) AllReadyF.nil
      go_simp
      (go_at_call 34)
      refine (HP2.out _).mono ?_
      rintro e v4 ⟨A4, c4, rfl, hb4, hs4⟩
      rw [HE2.out] at hs4 ⊢
      have HBA4 : Hid (Below W0.heap.size W0 v4) := Lib.hid (HBA3.out.trans (hb4.mono HBA3.out.size))
      have HST1x2x3x4 := Lib.hid ((HST1x2x3.out.below hb4).more hb4.size)
      have HQ3x4 := Lib.hid ((HQ3.out.below hb4).more hb4.size)
      have HQ4 := Lib.hid hs4
      clear hb4 hs4
      refine hK.out _ _ (HK0.out _ (HKB.out _ HBA4.out)) (fun hHeld4 => ?_)
      clear hK K
      (try simp only [Act.put, List.getElem_toArray, List.getElem_cons_succ, List.getElem_cons_zero, List.setIfInBounds_toArray, List.set_cons_zero, List.set_cons_succ])
      refine wpAnyF_ready (rs := [10]) (by kernel_rfl) (by simp) ?_
      refine AllReadyF.cons (o := _) rfl (fun K hK => ?_) AllReadyF.nil
      have hrw : RowsAt (v4.alloc (.cells #[.slice (some ⟨g1, 0, none⟩) 8 8, .slice A3 8 c3, .slice A4 2 c4] 42)) v4.heap.size [sig, x8, x2] := by
        have h := rows_three (w := v4) (w' := v4) (x := sig) (y := x8) (z := x2) (A1 := (some ⟨g1, 0, none⟩)) (A2 := A3) (A3 := A4) (c1 := 8) (c2 := c3) (c3 := c4) (by decide) (by rw [HE8.out]; omega) (by rw [HE2.out]; omega) HST1x2x3x4.out (by rw [HE8.out]; exact HQ3x4.out) (by rw [HE2.out]; exact HQ4.out) 42
        rw [HE8.out, HE2.out] at h
        exact h
      have HRW := Lib.hid hrw
      have HBL : Hid (Below W0.heap.size W0 (v4.alloc (.cells #[.slice (some ⟨g1, 0, none⟩) 8 8, .slice A3 8 c3, .slice A4 2 c4] 42))) := Lib.hid (HBA4.out.alloc HBA4.out.size _)
      clear hrw
      go_simp
      refine hK.out _ _ (HK0.out _ (HKB.out _ HBL.out)) (fun hHeld10 => ?_)
      clear hK K
      (try simp only [Act.put, List.getElem_toArray, List.getElem_cons_succ, List.getElem_cons_zero, List.setIfInBounds_toArray, List.set_cons_zero, List.set_cons_succ])
      refine wpAnyF_ready (rs := [11]) (by kernel_rfl) (by simp) ?_
      refine AllReadyF.cons (o := _) rfl (fun K hK => ?_) AllReadyF.nil
      go_simp
      (go_at_call 33)
      refine (concat_any _ 3 3 [sig, x8, x2] _ HRW.out rfl (by omega) (by omega)).mono ?_
      rintro e w6 ⟨v6, rfl, hown6, hb6⟩
      have HB6 : Hid (Below W0.heap.size W0 w6) := Lib.hid (HBL.out.trans (hb6.mono HBL.out.size))
      have HO6 : Hid (Own w6 w.heap.size v6 (headF cnt es)) := Lib.hid (by rw [HFE.out]; exact hown6.base (by have := HBL.out.size; have := HB0.out.size; omega))
      clear hown6 hb6
      refine hK.out _ _ (HK0.out _ (HKB.out _ HB6.out)) (fun hHeld11 => ?_)
      clear hK K
      (try simp only [Act.put, List.getElem_toArray, List.getElem_cons_succ, List.getElem_cons_zero, List.setIfInBounds_toArray, List.set_cons_zero, List.set_cons_succ])
      refine wpAnyF_take (i := 12) (oi := _) (v := ?_) rfl (by kernel_rfl) (by kernel_rfl) (by kernel_rfl) (by kernel_rfl) (fun _ _ _ h => h) (Or.inl ⟨by rfl, ?_⟩) (by assumption) ?_
      rotate_left 1
      · intro w hSw
        (try dsimp only at hSw)
        (first | (go_simp; done) | (go_simp; with_reducible rfl))
      (try simp only [Act.put, List.getElem_toArray, List.getElem_cons_succ, List.getElem_cons_zero, List.setIfInBounds_toArray, List.set_cons_zero, List.set_cons_succ])
      refine wpAnyF_done (by kernel_rfl) ?_ _
      have HB7 := Lib.hid (HB0.out.trans (HB6.out.mono HB0.out.size))
      have d1 : w6.cell? ⟨w.heap.size, 1, none⟩ = some (.slice A n c) := (HK0.out _ (HKB.out _ HB6.out)).2
      obtain ⟨F, hF⟩ : ∃ F, F = headF cnt es := ⟨_, rfl⟩
      have HFL : Hid (F.length = 18) := Lib.hid (by rw [hF]; exact headF_len _ _)
      have HFB : Hid (∀ i, F.getD i 0 < 256) := Lib.hid (by rw [hF]; exact headF_byte _ _)
      have HHL : Hid (headL cnt es = padL (F ++ kL es n) 256) := Lib.hid (by unfold headL; rw [hF, HL.out])
      rw [← hF] at HO6
      clear hF
      obtain ⟨n6, A6, cc6, rfl⟩ : ∃ n A c, v6 = .slice A n c := by
        obtain ⟨A, c, e, _⟩ := HO6.out.bs HFB.out
        exact ⟨_, A, c, e⟩
      go_wp2
      go_loopw [3, 21] (fun v iv wr => ∃ k : Nat, iv = .int .i64 (k : Int) ∧ k ≤ n ∧ Own wr w.heap.size v (F ++ kL es k) ∧ Below w.heap.size w wr) (fun _ iv _ => n - (intOf iv).toNat)
      case atStart => exact ⟨0, rfl, by omega, by have h : kL es 0 = [] := rfl; rw [h, List.append_nil]; exact HO6.out, HB7.out⟩
      case round =>
        obtain ⟨k, rfl, hk, hown, hb⟩ := hrel
        have HOW := Lib.hid hown
        have HB := Lib.hid hb
        have HBY : Hid (∀ i, (F ++ kL es k).getD i 0 < 256) := Lib.hid (app_byte HFB.out (kL_byte es k))
        have HLE : Hid ((F ++ kL es k).length = 18 + 2 * k) := Lib.hid (by rw [List.length_append, HFL.out, kL_len es k (by rw [HL.out]; exact hk)])
        clear hown hb
        by_cases hlt : k < n
        · obtain ⟨b, o, rfl, hEs⟩ := HE.out.2 (by omega)
          obtain ⟨A1, c1, q1, q2, q3⟩ := hEs.2 k (by rw [HL.out]; exact hlt)
          have p1 : wr.cell? ⟨b, o + k * 2, none⟩ = some (.int .i64 (kAt es k)) := (HB.out.cell (p := ⟨b, o + k * 2, none⟩) hEs.1).trans q1
          have p2 : wr.cell? ⟨b, o + k * 2 + 1, none⟩ = some (.slice A1 (dAt es k).length c1) := (HB.out.cell (p := ⟨b, o + k * 2 + 1, none⟩) hEs.1).trans q2
          have hwk := HWK.out k hlt
          have HPK1 := Lib.hid (HPK.out k hlt)
          have HKS : Hid (F ++ kL es (k + 1) = (F ++ kL es k) ++ putL 2 (kAt es k).toNat) := Lib.hid (by rw [kL_step es (by rw [HL.out]; exact hlt), List.append_assoc])
          have HL2 : Hid ((putL 2 (kAt es k).toNat).length = 2) := Lib.hid (putL_len _ _)
          have HB5 := Lib.hid (HB.out.trans (((Below.refl wr.heap.size wr).alloc (Nat.le_refl _) (.cells #[.int .i64 (kAt es k), .slice A1 (dAt es k).length c1] 58)).mono HB.out.size))
          have HO5 := Lib.hid (HOW.out.alloc (.cells #[.int .i64 (kAt es k), .slice A1 (dAt es k).length c1] 58))
          generalize putL 2 (kAt es k).toNat = y at *
          generalize kAt es k = X at *
          generalize (dAt es k).length = nl at *
          clear q1 q2 q3 hEs
          go_wp2_with fail
          generalize wr.alloc (.cells #[.int .i64 X, .slice A1 nl c1] 58) = W5 at *
          refine (HPK1.out _).mono ?_
          rintro e w8 ⟨A8, c8, rfl, hb8, hs8⟩
          rw [HL2.out] at hs8 ⊢
          have HB8 := Lib.hid (HB5.out.trans (hb8.mono HB5.out.size))
          have HO8 := Lib.hid (HO5.out.below hb8)
          have HS8 := Lib.hid hs8
          obtain ⟨b8, o8, hA8, _, _⟩ := hs8.at_ (by omega)
          subst hA8
          clear hb8 hs8
          go_wp2_with (at_builtin; refine wp_apps _ rfl _ _ rfl w.heap.size _ _ rfl HO8.out _ _ 2 _ _ rfl HS8.out (fun h => by cases h) (by rw [HLE.out]; omega) HB8.out.size ?_; intro v' w9 hown9 hb9; have HO9 := Lib.hid hown9; have HB9 := Lib.hid (HB8.out.trans hb9); clear hown9 hb9)
          go_roundw
          case rel => exact ⟨k + 1, by simp, by omega, by rw [HKS.out]; exact HO9.out, HB9.out⟩
          case measure => simp [intOf]; omega
        · obtain rfl : k = n := by omega
          obtain ⟨Ab, cb, hv, hbs⟩ := HOW.out.bs HBY.out
          rw [HLE.out] at hv hbs
          subst hv
          have HPD := Lib.hid (pad_own Ab (18 + 2 * k) cb 256 (F ++ kL es k) wr hbs (by omega) (by omega) (by omega))
          rw [← HHL.out] at HPD
          clear hbs
          go_wp2_with fail
          refine HPD.out.mono ?_
          rintro e w9 ⟨v9, rfl, hown9, hb9⟩
          have HF : Hid (GivesO w (headL cnt es) (.returned v9) w9) := Lib.hid ⟨v9, rfl, hown9.base HB.out.size, HB.out.trans (hb9.mono HB.out.size)⟩
          clear hb9 hown9
          go_wp2
          go_ret
          exact HF.out
    · go_simp
      (go_at_call 34)
      refine (HP8.out _).mono ?_
      rintro e v5 ⟨A5, c5, rfl, hb5, hs5⟩
      rw [HE8.out] at hs5 ⊢
      have HBA5 : Hid (Below W0.heap.size W0 v5) := Lib.hid (HBA1.out.trans (hb5.mono HBA1.out.size))
      have HST1x5 := Lib.hid ((HST1.out.below hb5).more hb5.size)
      have HCL5 := Lib.hid ((hb5.block _ (blk_lt HCL1.out)).trans HCL1.out)
      have HQ5 := Lib.hid hs5
      clear hb5 hs5
      refine hK.out _ _ (HK0.out _ (HKB.out _ HBA5.out)) (fun hHeld5 => ?_)
      clear hK K
      (try simp only [Act.put, List.getElem_toArray, List.getElem_cons_succ, List.getElem_cons_zero, List.setIfInBounds_toArray, List.set_cons_zero, List.set_cons_succ])
      refine wpAnyF_ready (rs := [1, 9]) (by kernel_rfl) (by simp) ?_
      refine AllReadyF.cons (o := _) rfl (fun K hK => ?_) (AllReadyF.cons (o := _) rfl (fun K hK => ?_) AllReadyF.nil)
      · obtain ⟨v6, hrun6, hcell6, hgr6, hsz6⟩ := conv_mark (P := Try.prog) v5 42 5 _ g1 8 8 HCL5.out Try.underlying42 Try.underlying5
        have HBA6 : Hid (Below W0.heap.size W0 v6) := Lib.hid (HBA5.out.grown hgr6 HBA5.out.size (fun j hj => by injection hj with hj; rw [← hj]; exact HGE1.out))
        have HST1x5x6 := Lib.hid ((HST1x5.out.same hcell6).more (Nat.le_of_eq hsz6.symm))
        have HQ5x6 := Lib.hid ((HQ5.out.same hcell6).more (Nat.le_of_eq hsz6.symm))
        go_simp
        clear hrun6 hcell6 hgr6 hsz6
        refine hK.out _ _ (HK0.out _ (HKB.out _ HBA6.out)) (fun hHeld6 => ?_)
        clear hK K
        (try simp only [Act.put, List.getElem_toArray, List.getElem_cons_succ, List.getElem_cons_zero, List.setIfInBounds_toArray, List.set_cons_zero, List.set_cons_succ])
        refine wpAnyF_ready (rs := [9]) (by kernel_rfl) (by simp) ?_
        refine AllReadyF.cons (o := _) rfl (fun K hK => ?_) AllReadyF.nil
        go_simp
        (go_at_call 34)
        refine (HP2.out _).mono ?_
        rintro e v7 ⟨A7, c7, rfl, hb7, hs7⟩
        rw [HE2.out] at hs7 ⊢
        have HBA7 : Hid (Below W0.heap.size W0 v7) := Lib.hid (HBA6.out.trans (hb7.mono HBA6.out.size))
        have HST1x5x6x7 := Lib.hid ((HST1x5x6.out.below hb7).more hb7.size)
        have HQ5x6x7 := Lib.hid ((HQ5x6.out.below hb7).more hb7.size)
        have HQ7 := Lib.hid hs7
        clear hb7 hs7
        refine hK.out _ _ (HK0.out _ (HKB.out _ HBA7.out)) (fun hHeld7 => ?_)
        clear hK K
        (try simp only [Act.put, List.getElem_toArray, List.getElem_cons_succ, List.getElem_cons_zero, List.setIfInBounds_toArray, List.set_cons_zero, List.set_cons_succ])
        refine wpAnyF_ready (rs := [10]) (by kernel_rfl) (by simp) ?_
        refine AllReadyF.cons (o := _) rfl (fun K hK => ?_) AllReadyF.nil
        have hrw : RowsAt (v7.alloc (.cells #[.slice (some ⟨g1, 0, none⟩) 8 8, .slice A5 8 c5, .slice A7 2 c7] 42)) v7.heap.size [sig, x8, x2] := by
          have h := rows_three (w := v7) (w' := v7) (x := sig) (y := x8) (z := x2) (A1 := (some ⟨g1, 0, none⟩)) (A2 := A5) (A3 := A7) (c1 := 8) (c2 := c5) (c3 := c7) (by decide) (by rw [HE8.out]; omega) (by rw [HE2.out]; omega) HST1x5x6x7.out (by rw [HE8.out]; exact HQ5x6x7.out) (by rw [HE2.out]; exact HQ7.out) 42
          rw [HE8.out, HE2.out] at h
          exact h
        have HRW := Lib.hid hrw
        have HBL : Hid (Below W0.heap.size W0 (v7.alloc (.cells #[.slice (some ⟨g1, 0, none⟩) 8 8, .slice A5 8 c5, .slice A7 2 c7] 42))) := Lib.hid (HBA7.out.alloc HBA7.out.size _)
        clear hrw
        go_simp
        refine hK.out _ _ (HK0.out _ (HKB.out _ HBL.out)) (fun hHeld10 => ?_)
        clear hK K
        (try simp only [Act.put, List.getElem_toArray, List.getElem_cons_succ, List.getElem_cons_zero, List.setIfInBounds_toArray, List.set_cons_zero, List.set_cons_succ])
        refine wpAnyF_ready (rs := [11]) (by kernel_rfl) (by simp) ?_
        refine AllReadyF.cons (o := _) rfl (fun K hK => ?_) AllReadyF.nil
        go_simp
        (go_at_call 33)
        refine (concat_any _ 3 3 [sig, x8, x2] _ HRW.out rfl (by omega) (by omega)).mono ?_
        rintro e w6 ⟨v6, rfl, hown6, hb6⟩
        have HB6 : Hid (Below W0.heap.size W0 w6) := Lib.hid (HBL.out.trans (hb6.mono HBL.out.size))
        have HO6 : Hid (Own w6 w.heap.size v6 (headF cnt es)) := Lib.hid (by rw [HFE.out]; exact hown6.base (by have := HBL.out.size; have := HB0.out.size; omega))
        clear hown6 hb6
        refine hK.out _ _ (HK0.out _ (HKB.out _ HB6.out)) (fun hHeld11 => ?_)
        clear hK K
        (try simp only [Act.put, List.getElem_toArray, List.getElem_cons_succ, List.getElem_cons_zero, List.setIfInBounds_toArray, List.set_cons_zero, List.set_cons_succ])
        refine wpAnyF_take (i := 12) (oi := _) (v := ?_) rfl (by kernel_rfl) (by kernel_rfl) (by kernel_rfl) (by kernel_rfl) (fun _ _ _ h => h) (Or.inl ⟨by rfl, ?_⟩) (by assumption) ?_
        rotate_left 1
        · intro w hSw
          (try dsimp only at hSw)
          (first | (go_simp; done) | (go_simp; with_reducible rfl))
        (try simp only [Act.put, List.getElem_toArray, List.getElem_cons_succ, List.getElem_cons_zero, List.setIfInBounds_toArray, List.set_cons_zero, List.set_cons_succ])
        refine wpAnyF_done (by kernel_rfl) ?_ _
        have HB7 := Lib.hid (HB0.out.trans (HB6.out.mono HB0.out.size))
        have d1 : w6.cell? ⟨w.heap.size, 1, none⟩ = some (.slice A n c) := (HK0.out _ (HKB.out _ HB6.out)).2
        obtain ⟨F, hF⟩ : ∃ F, F = headF cnt es := ⟨_, rfl⟩
        have HFL : Hid (F.length = 18) := Lib.hid (by rw [hF]; exact headF_len _ _)
        have HFB : Hid (∀ i, F.getD i 0 < 256) := Lib.hid (by rw [hF]; exact headF_byte _ _)
        have HHL : Hid (headL cnt es = padL (F ++ kL es n) 256) := Lib.hid (by unfold headL; rw [hF, HL.out])
        rw [← hF] at HO6
        clear hF
        obtain ⟨n6, A6, cc6, rfl⟩ : ∃ n A c, v6 = .slice A n c := by
          obtain ⟨A, c, e, _⟩ := HO6.out.bs HFB.out
          exact ⟨_, A, c, e⟩
        go_wp2
        go_loopw [3, 21] (fun v iv wr => ∃ k : Nat, iv = .int .i64 (k : Int) ∧ k ≤ n ∧ Own wr w.heap.size v (F ++ kL es k) ∧ Below w.heap.size w wr) (fun _ iv _ => n - (intOf iv).toNat)
        case atStart => exact ⟨0, rfl, by omega, by have h : kL es 0 = [] := rfl; rw [h, List.append_nil]; exact HO6.out, HB7.out⟩
        case round =>
          obtain ⟨k, rfl, hk, hown, hb⟩ := hrel
          have HOW := Lib.hid hown
          have HB := Lib.hid hb
          have HBY : Hid (∀ i, (F ++ kL es k).getD i 0 < 256) := Lib.hid (app_byte HFB.out (kL_byte es k))
          have HLE : Hid ((F ++ kL es k).length = 18 + 2 * k) := Lib.hid (by rw [List.length_append, HFL.out, kL_len es k (by rw [HL.out]; exact hk)])
          clear hown hb
          by_cases hlt : k < n
          · obtain ⟨b, o, rfl, hEs⟩ := HE.out.2 (by omega)
            obtain ⟨A1, c1, q1, q2, q3⟩ := hEs.2 k (by rw [HL.out]; exact hlt)
            have p1 : wr.cell? ⟨b, o + k * 2, none⟩ = some (.int .i64 (kAt es k)) := (HB.out.cell (p := ⟨b, o + k * 2, none⟩) hEs.1).trans q1
            have p2 : wr.cell? ⟨b, o + k * 2 + 1, none⟩ = some (.slice A1 (dAt es k).length c1) := (HB.out.cell (p := ⟨b, o + k * 2 + 1, none⟩) hEs.1).trans q2
            have hwk := HWK.out k hlt
            have HPK1 := Lib.hid (HPK.out k hlt)
            have HKS : Hid (F ++ kL es (k + 1) = (F ++ kL es k) ++ putL 2 (kAt es k).toNat) := Lib.hid (by rw [kL_step es (by rw [HL.out]; exact hlt), List.append_assoc])
            have HL2 : Hid ((putL 2 (kAt es k).toNat).length = 2) := Lib.hid (putL_len _ _)
            have HB5 := Lib.hid (HB.out.trans (((Below.refl wr.heap.size wr).alloc (Nat.le_refl _) (.cells #[.int .i64 (kAt es k), .slice A1 (dAt es k).length c1] 58)).mono HB.out.size))
            have HO5 := Lib.hid (HOW.out.alloc (.cells #[.int .i64 (kAt es k), .slice A1 (dAt es k).length c1] 58))
            generalize putL 2 (kAt es k).toNat = y at *
            generalize kAt es k = X at *
            generalize (dAt es k).length = nl at *
            clear q1 q2 q3 hEs
            go_wp2_with fail
            generalize wr.alloc (.cells #[.int .i64 X, .slice A1 nl c1] 58) = W5 at *
            refine (HPK1.out _).mono ?_
            rintro e w8 ⟨A8, c8, rfl, hb8, hs8⟩
            rw [HL2.out] at hs8 ⊢
            have HB8 := Lib.hid (HB5.out.trans (hb8.mono HB5.out.size))
            have HO8 := Lib.hid (HO5.out.below hb8)
            have HS8 := Lib.hid hs8
            obtain ⟨b8, o8, hA8, _, _⟩ := hs8.at_ (by omega)
            subst hA8
            clear hb8 hs8
            go_wp2_with (at_builtin; refine wp_apps _ rfl _ _ rfl w.heap.size _ _ rfl HO8.out _ _ 2 _ _ rfl HS8.out (fun h => by cases h) (by rw [HLE.out]; omega) HB8.out.size ?_; intro v' w9 hown9 hb9; have HO9 := Lib.hid hown9; have HB9 := Lib.hid (HB8.out.trans hb9); clear hown9 hb9)
            go_roundw
            case rel => exact ⟨k + 1, by simp, by omega, by rw [HKS.out]; exact HO9.out, HB9.out⟩
            case measure => simp [intOf]; omega
          · obtain rfl : k = n := by omega
            obtain ⟨Ab, cb, hv, hbs⟩ := HOW.out.bs HBY.out
            rw [HLE.out] at hv hbs
            subst hv
            have HPD := Lib.hid (pad_own Ab (18 + 2 * k) cb 256 (F ++ kL es k) wr hbs (by omega) (by omega) (by omega))
            rw [← HHL.out] at HPD
            clear hbs
            go_wp2_with fail
            refine HPD.out.mono ?_
            rintro e w9 ⟨v9, rfl, hown9, hb9⟩
            have HF : Hid (GivesO w (headL cnt es) (.returned v9) w9) := Lib.hid ⟨v9, rfl, hown9.base HB.out.size, HB.out.trans (hb9.mono HB.out.size)⟩
            clear hb9 hown9
            go_wp2
            go_ret
            exact HF.out
      · go_simp
        (go_at_call 34)
        refine (HP2.out _).mono ?_
        rintro e v8 ⟨A8, c8, rfl, hb8, hs8⟩
        rw [HE2.out] at hs8 ⊢
        have HBA8 : Hid (Below W0.heap.size W0 v8) := Lib.hid (HBA5.out.trans (hb8.mono HBA5.out.size))
        have HST1x5x8 := Lib.hid ((HST1x5.out.below hb8).more hb8.size)
        have HQ5x8 := Lib.hid ((HQ5.out.below hb8).more hb8.size)
        have HCL8 := Lib.hid ((hb8.block _ (blk_lt HCL5.out)).trans HCL5.out)
        have HQ8 := Lib.hid hs8
        clear hb8 hs8
        refine hK.out _ _ (HK0.out _ (HKB.out _ HBA8.out)) (fun hHeld8 => ?_)
        clear hK K
        (try simp only [Act.put, List.getElem_toArray, List.getElem_cons_succ, List.getElem_cons_zero, List.setIfInBounds_toArray, List.set_cons_zero, List.set_cons_succ])
        refine wpAnyF_ready (rs := [1]) (by kernel_rfl) (by simp) ?_
        refine AllReadyF.cons (o := _) rfl (fun K hK => ?_) AllReadyF.nil
        obtain ⟨v9, hrun9, hcell9, hgr9, hsz9⟩ := conv_mark (P := Try.prog) v8 42 5 _ g1 8 8 HCL8.out Try.underlying42 Try.underlying5
        have HBA9 : Hid (Below W0.heap.size W0 v9) := Lib.hid (HBA8.out.grown hgr9 HBA8.out.size (fun j hj => by injection hj with hj; rw [← hj]; exact HGE1.out))
        have HST1x5x8x9 := Lib.hid ((HST1x5x8.out.same hcell9).more (Nat.le_of_eq hsz9.symm))
        have HQ5x8x9 := Lib.hid ((HQ5x8.out.same hcell9).more (Nat.le_of_eq hsz9.symm))
        have HQ8x9 := Lib.hid ((HQ8.out.same hcell9).more (Nat.le_of_eq hsz9.symm))
        go_simp
        clear hrun9 hcell9 hgr9 hsz9
        refine hK.out _ _ (HK0.out _ (HKB.out _ HBA9.out)) (fun hHeld9 => ?_)
        clear hK K
        (try simp only [Act.put, List.getElem_toArray, List.getElem_cons_succ, List.getElem_cons_zero, List.setIfInBounds_toArray, List.set_cons_zero, List.set_cons_succ])
        refine wpAnyF_ready (rs := [10]) (by kernel_rfl) (by simp) ?_
        refine AllReadyF.cons (o := _) rfl (fun K hK => ?_) AllReadyF.nil
        have hrw : RowsAt (v9.alloc (.cells #[.slice (some ⟨g1, 0, none⟩) 8 8, .slice A5 8 c5, .slice A8 2 c8] 42)) v9.heap.size [sig, x8, x2] := by
          have h := rows_three (w := v9) (w' := v9) (x := sig) (y := x8) (z := x2) (A1 := (some ⟨g1, 0, none⟩)) (A2 := A5) (A3 := A8) (c1 := 8) (c2 := c5) (c3 := c8) (by decide) (by rw [HE8.out]; omega) (by rw [HE2.out]; omega) HST1x5x8x9.out (by rw [HE8.out]; exact HQ5x8x9.out) (by rw [HE2.out]; exact HQ8x9.out) 42
          rw [HE8.out, HE2.out] at h
          exact h
        have HRW := Lib.hid hrw
        have HBL : Hid (Below W0.heap.size W0 (v9.alloc (.cells #[.slice (some ⟨g1, 0, none⟩) 8 8, .slice A5 8 c5, .slice A8 2 c8] 42))) := Lib.hid (HBA9.out.alloc HBA9.out.size _)
        clear hrw
        go_simp
        refine hK.out _ _ (HK0.out _ (HKB.out _ HBL.out)) (fun hHeld10 => ?_)
        clear hK K
        (try simp only [Act.put, List.getElem_toArray, List.getElem_cons_succ, List.getElem_cons_zero, List.setIfInBounds_toArray, List.set_cons_zero, List.set_cons_succ])
        refine wpAnyF_ready (rs := [11]) (by kernel_rfl) (by simp) ?_
        refine AllReadyF.cons (o := _) rfl (fun K hK => ?_) AllReadyF.nil
        go_simp
        (go_at_call 33)
        refine (concat_any _ 3 3 [sig, x8, x2] _ HRW.out rfl (by omega) (by omega)).mono ?_
        rintro e w6 ⟨v6, rfl, hown6, hb6⟩
        have HB6 : Hid (Below W0.heap.size W0 w6) := Lib.hid (HBL.out.trans (hb6.mono HBL.out.size))
        have HO6 : Hid (Own w6 w.heap.size v6 (headF cnt es)) := Lib.hid (by rw [HFE.out]; exact hown6.base (by have := HBL.out.size; have := HB0.out.size; omega))
        clear hown6 hb6
        refine hK.out _ _ (HK0.out _ (HKB.out _ HB6.out)) (fun hHeld11 => ?_)
        clear hK K
        (try simp only [Act.put, List.getElem_toArray, List.getElem_cons_succ, List.getElem_cons_zero, List.setIfInBounds_toArray, List.set_cons_zero, List.set_cons_succ])
        refine wpAnyF_take (i := 12) (oi := _) (v := ?_) rfl (by kernel_rfl) (by kernel_rfl) (by kernel_rfl) (by kernel_rfl) (fun _ _ _ h => h) (Or.inl ⟨by rfl, ?_⟩) (by assumption) ?_
        rotate_left 1
        · intro w hSw
          (try dsimp only at hSw)
          (first | (go_simp; done) | (go_simp; with_reducible rfl))
        (try simp only [Act.put, List.getElem_toArray, List.getElem_cons_succ, List.getElem_cons_zero, List.setIfInBounds_toArray, List.set_cons_zero, List.set_cons_succ])
        refine wpAnyF_done (by kernel_rfl) ?_ _
        have HB7 := Lib.hid (HB0.out.trans (HB6.out.mono HB0.out.size))
        have d1 : w6.cell? ⟨w.heap.size, 1, none⟩ = some (.slice A n c) := (HK0.out _ (HKB.out _ HB6.out)).2
        obtain ⟨F, hF⟩ : ∃ F, F = headF cnt es := ⟨_, rfl⟩
        have HFL : Hid (F.length = 18) := Lib.hid (by rw [hF]; exact headF_len _ _)
        have HFB : Hid (∀ i, F.getD i 0 < 256) := Lib.hid (by rw [hF]; exact headF_byte _ _)
        have HHL : Hid (headL cnt es = padL (F ++ kL es n) 256) := Lib.hid (by unfold headL; rw [hF, HL.out])
        rw [← hF] at HO6
        clear hF
        obtain ⟨n6, A6, cc6, rfl⟩ : ∃ n A c, v6 = .slice A n c := by
          obtain ⟨A, c, e, _⟩ := HO6.out.bs HFB.out
          exact ⟨_, A, c, e⟩
        go_wp2
        go_loopw [3, 21] (fun v iv wr => ∃ k : Nat, iv = .int .i64 (k : Int) ∧ k ≤ n ∧ Own wr w.heap.size v (F ++ kL es k) ∧ Below w.heap.size w wr) (fun _ iv _ => n - (intOf iv).toNat)
        case atStart => exact ⟨0, rfl, by omega, by have h : kL es 0 = [] := rfl; rw [h, List.append_nil]; exact HO6.out, HB7.out⟩
        case round =>
          obtain ⟨k, rfl, hk, hown, hb⟩ := hrel
          have HOW := Lib.hid hown
          have HB := Lib.hid hb
          have HBY : Hid (∀ i, (F ++ kL es k).getD i 0 < 256) := Lib.hid (app_byte HFB.out (kL_byte es k))
          have HLE : Hid ((F ++ kL es k).length = 18 + 2 * k) := Lib.hid (by rw [List.length_append, HFL.out, kL_len es k (by rw [HL.out]; exact hk)])
          clear hown hb
          by_cases hlt : k < n
          · obtain ⟨b, o, rfl, hEs⟩ := HE.out.2 (by omega)
            obtain ⟨A1, c1, q1, q2, q3⟩ := hEs.2 k (by rw [HL.out]; exact hlt)
            have p1 : wr.cell? ⟨b, o + k * 2, none⟩ = some (.int .i64 (kAt es k)) := (HB.out.cell (p := ⟨b, o + k * 2, none⟩) hEs.1).trans q1
            have p2 : wr.cell? ⟨b, o + k * 2 + 1, none⟩ = some (.slice A1 (dAt es k).length c1) := (HB.out.cell (p := ⟨b, o + k * 2 + 1, none⟩) hEs.1).trans q2
            have hwk := HWK.out k hlt
            have HPK1 := Lib.hid (HPK.out k hlt)
            have HKS : Hid (F ++ kL es (k + 1) = (F ++ kL es k) ++ putL 2 (kAt es k).toNat) := Lib.hid (by rw [kL_step es (by rw [HL.out]; exact hlt), List.append_assoc])
            have HL2 : Hid ((putL 2 (kAt es k).toNat).length = 2) := Lib.hid (putL_len _ _)
            have HB5 := Lib.hid (HB.out.trans (((Below.refl wr.heap.size wr).alloc (Nat.le_refl _) (.cells #[.int .i64 (kAt es k), .slice A1 (dAt es k).length c1] 58)).mono HB.out.size))
            have HO5 := Lib.hid (HOW.out.alloc (.cells #[.int .i64 (kAt es k), .slice A1 (dAt es k).length c1] 58))
            generalize putL 2 (kAt es k).toNat = y at *
            generalize kAt es k = X at *
            generalize (dAt es k).length = nl at *
            clear q1 q2 q3 hEs
            go_wp2_with fail
            generalize wr.alloc (.cells #[.int .i64 X, .slice A1 nl c1] 58) = W5 at *
            refine (HPK1.out _).mono ?_
            rintro e w8 ⟨A8, c8, rfl, hb8, hs8⟩
            rw [HL2.out] at hs8 ⊢
            have HB8 := Lib.hid (HB5.out.trans (hb8.mono HB5.out.size))
            have HO8 := Lib.hid (HO5.out.below hb8)
            have HS8 := Lib.hid hs8
            obtain ⟨b8, o8, hA8, _, _⟩ := hs8.at_ (by omega)
            subst hA8
            clear hb8 hs8
            go_wp2_with (at_builtin; refine wp_apps _ rfl _ _ rfl w.heap.size _ _ rfl HO8.out _ _ 2 _ _ rfl HS8.out (fun h => by cases h) (by rw [HLE.out]; omega) HB8.out.size ?_; intro v' w9 hown9 hb9; have HO9 := Lib.hid hown9; have HB9 := Lib.hid (HB8.out.trans hb9); clear hown9 hb9)
            go_roundw
            case rel => exact ⟨k + 1, by simp, by omega, by rw [HKS.out]; exact HO9.out, HB9.out⟩
            case measure => simp [intOf]; omega
          · obtain rfl : k = n := by omega
            obtain ⟨Ab, cb, hv, hbs⟩ := HOW.out.bs HBY.out
            rw [HLE.out] at hv hbs
            subst hv
            have HPD := Lib.hid (pad_own Ab (18 + 2 * k) cb 256 (F ++ kL es k) wr hbs (by omega) (by omega) (by omega))
            rw [← HHL.out] at HPD
            clear hbs
            go_wp2_with fail
            refine HPD.out.mono ?_
            rintro e w9 ⟨v9, rfl, hown9, hb9⟩
            have HF : Hid (GivesO w (headL cnt es) (.returned v9) w9) := Lib.hid ⟨v9, rfl, hown9.base HB.out.size, HB.out.trans (hb9.mono HB.out.size)⟩
            clear hb9 hown9
            go_wp2
            go_ret
            exact HF.out
  · go_simp
    (go_at_call 34)
    refine (HP8.out _).mono ?_
    rintro e v10 ⟨A10, c10, rfl, hb10, hs10⟩
    rw [HE8.out] at hs10 ⊢
    have HBA10 : Hid (Below W0.heap.size W0 v10) := Lib.hid (HBD.out.trans (hb10.mono HBD.out.size))
    have HQ10 := Lib.hid hs10
    clear hb10 hs10
    refine hK.out _ _ (HK0.out _ (HKB.out _ HBA10.out)) (fun hHeld10 => ?_)
    clear hK K
    (try simp only [Act.put, List.getElem_toArray, List.getElem_cons_succ, List.getElem_cons_zero, List.setIfInBounds_toArray, List.set_cons_zero, List.set_cons_succ])
    refine wpAnyF_ready (rs := [0, 9]) (by kernel_rfl) (by simp) ?_
    refine AllReadyF.cons (o := _) rfl (fun K hK => ?_) (AllReadyF.cons (o := _) rfl (fun K hK => ?_) AllReadyF.nil)
    · have hst11 : BS (v10.alloc (.cells sigV 5)) (v10.alloc (.cells sigV 5)).heap.size (some ⟨v10.heap.size, 0, none⟩) 8 8 sig := sig_bs
      have hbl11 : Below v10.heap.size v10 (v10.alloc (.cells sigV 5)) := (Below.refl _ _).alloc (Nat.le_refl _) _
      have hcl11 := heap_alloc_new v10 (.cells sigV 5)
      have HBA11 : Hid (Below W0.heap.size W0 (v10.alloc (.cells sigV 5))) := Lib.hid (HBA10.out.trans (hbl11.mono HBA10.out.size))
      have HQ10_11 := (HQ10.out.below hbl11).more hbl11.size
      unfold sigV at hst11 hbl11 hcl11 HBA11 HQ10_11
      go_simp
      obtain ⟨g11, hg11⟩ : ∃ g, g = v10.heap.size := ⟨_, rfl⟩
      have HGE11 : Hid (W0.heap.size ≤ g11) := Lib.hid (by rw [hg11]; exact HBA10.out.size)
      rw [← hg11] at hst11 hcl11 ⊢
      generalize (v10.alloc (.cells #[.int .u8 82, .int .u8 69, .int .u8 68, .int .u8 79, .int .u8 45, .int .u8 76, .int .u8 79, .int .u8 71] 5)) = v11 at *
      clear hbl11 hg11
      have HQ10x11 := Lib.hid HQ10_11
      clear HQ10_11
      have HST11 := Lib.hid hst11
      have HCL11 := Lib.hid hcl11
      clear hst11 hcl11
      refine hK.out _ _ (HK0.out _ (HKB.out _ HBA11.out)) (fun hHeld11 => ?_)
      clear hK K
      (try simp only [Act.put, List.getElem_toArray, List.getElem_cons_succ, List.getElem_cons_zero, List.setIfInBounds_toArray, List.set_cons_zero, List.set_cons_succ])
      refine wpAnyF_ready (rs := [1, 9]) (by kernel_rfl) (by simp) ?_
      refine AllReadyF.cons (o := _) rfl (fun K hK => ?_) (AllReadyF.cons (o := _) rfl (fun K hK => ?_) AllReadyF.nil)
      · obtain ⟨v12, hrun12, hcell12, hgr12, hsz12⟩ := conv_mark (P := Try.prog) v11 42 5 _ g11 8 8 HCL11.out Try.underlying42 Try.underlying5
        have HBA12 : Hid (Below W0.heap.size W0 v12) := Lib.hid (HBA11.out.grown hgr12 HBA11.out.size (fun j hj => by injection hj with hj; rw [← hj]; exact HGE11.out))
        have HQ10x11x12 := Lib.hid ((HQ10x11.out.same hcell12).more (Nat.le_of_eq hsz12.symm))
        have HST11x12 := Lib.hid ((HST11.out.same hcell12).more (Nat.le_of_eq hsz12.symm))
        go_simp
        clear hrun12 hcell12 hgr12 hsz12
        refine hK.out _ _ (HK0.out _ (HKB.out _ HBA12.out)) (fun hHeld12 => ?_)
        clear hK K
        (try simp only [Act.put, List.getElem_toArray, List.getElem_cons_succ, List.getElem_cons_zero, List.setIfInBounds_toArray, List.set_cons_zero, List.set_cons_succ])
        refine wpAnyF_ready (rs := [9]) (by kernel_rfl) (by simp) ?_
        refine AllReadyF.cons (o := _) rfl (fun K hK => ?_) AllReadyF.nil
        go_simp
        (go_at_call 34)
        refine (HP2.out _).mono ?_
        rintro e v13 ⟨A13, c13, rfl, hb13, hs13⟩
        rw [HE2.out] at hs13 ⊢
        have HBA13 : Hid (Below W0.heap.size W0 v13) := Lib.hid (HBA12.out.trans (hb13.mono HBA12.out.size))
        have HQ10x11x12x13 := Lib.hid ((HQ10x11x12.out.below hb13).more hb13.size)
        have HST11x12x13 := Lib.hid ((HST11x12.out.below hb13).more hb13.size)
        have HQ13 := Lib.hid hs13
        clear hb13 hs13
        refine hK.out _ _ (HK0.out _ (HKB.out _ HBA13.out)) (fun hHeld13 => ?_)
        clear hK K
        (try simp only [Act.put, List.getElem_toArray, List.getElem_cons_succ, List.getElem_cons_zero, List.setIfInBounds_toArray, List.set_cons_zero, List.set_cons_succ])
        refine wpAnyF_ready (rs := [10]) (by kernel_rfl) (by simp) ?_
        refine AllReadyF.cons (o := _) rfl (fun K hK => ?_) AllReadyF.nil
        have hrw : RowsAt (v13.alloc (.cells #[.slice (some ⟨g11, 0, none⟩) 8 8, .slice A10 8 c10, .slice A13 2 c13] 42)) v13.heap.size [sig, x8, x2] := by
          have h := rows_three (w := v13) (w' := v13) (x := sig) (y := x8) (z := x2) (A1 := (some ⟨g11, 0, none⟩)) (A2 := A10) (A3 := A13) (c1 := 8) (c2 := c10) (c3 := c13) (by decide) (by rw [HE8.out]; omega) (by rw [HE2.out]; omega) HST11x12x13.out (by rw [HE8.out]; exact HQ10x11x12x13.out) (by rw [HE2.out]; exact HQ13.out) 42
          rw [HE8.out, HE2.out] at h
          exact h
        have HRW := Lib.hid hrw
        have HBL : Hid (Below W0.heap.size W0 (v13.alloc (.cells #[.slice (some ⟨g11, 0, none⟩) 8 8, .slice A10 8 c10, .slice A13 2 c13] 42))) := Lib.hid (HBA13.out.alloc HBA13.out.size _)
        clear hrw
        go_simp
        refine hK.out _ _ (HK0.out _ (HKB.out _ HBL.out)) (fun hHeld10 => ?_)
        clear hK K
        (try simp only [Act.put, List.getElem_toArray, List.getElem_cons_succ, List.getElem_cons_zero, List.setIfInBounds_toArray, List.set_cons_zero, List.set_cons_succ])
        refine wpAnyF_ready (rs := [11]) (by kernel_rfl) (by simp) ?_
        refine AllReadyF.cons (o := _) rfl (fun K hK => ?_) AllReadyF.nil
        go_simp
        (go_at_call 33)
        refine (concat_any _ 3 3 [sig, x8, x2] _ HRW.out rfl (by omega) (by omega)).mono ?_
        rintro e w6 ⟨v6, rfl, hown6, hb6⟩
        have HB6 : Hid (Below W0.heap.size W0 w6) := Lib.hid (HBL.out.trans (hb6.mono HBL.out.size))
        have HO6 : Hid (Own w6 w.heap.size v6 (headF cnt es)) := Lib.hid (by rw [HFE.out]; exact hown6.base (by have := HBL.out.size; have := HB0.out.size; omega))
        clear hown6 hb6
        refine hK.out _ _ (HK0.out _ (HKB.out _ HB6.out)) (fun hHeld11 => ?_)
        clear hK K
        (try simp only [Act.put, List.getElem_toArray, List.getElem_cons_succ, List.getElem_cons_zero, List.setIfInBounds_toArray, List.set_cons_zero, List.set_cons_succ])
        refine wpAnyF_take (i := 12) (oi := _) (v := ?_) rfl (by kernel_rfl) (by kernel_rfl) (by kernel_rfl) (by kernel_rfl) (fun _ _ _ h => h) (Or.inl ⟨by rfl, ?_⟩) (by assumption) ?_
        rotate_left 1
        · intro w hSw
          (try dsimp only at hSw)
          (first | (go_simp; done) | (go_simp; with_reducible rfl))
        (try simp only [Act.put, List.getElem_toArray, List.getElem_cons_succ, List.getElem_cons_zero, List.setIfInBounds_toArray, List.set_cons_zero, List.set_cons_succ])
        refine wpAnyF_done (by kernel_rfl) ?_ _
        have HB7 := Lib.hid (HB0.out.trans (HB6.out.mono HB0.out.size))
        have d1 : w6.cell? ⟨w.heap.size, 1, none⟩ = some (.slice A n c) := (HK0.out _ (HKB.out _ HB6.out)).2
        obtain ⟨F, hF⟩ : ∃ F, F = headF cnt es := ⟨_, rfl⟩
        have HFL : Hid (F.length = 18) := Lib.hid (by rw [hF]; exact headF_len _ _)
        have HFB : Hid (∀ i, F.getD i 0 < 256) := Lib.hid (by rw [hF]; exact headF_byte _ _)
        have HHL : Hid (headL cnt es = padL (F ++ kL es n) 256) := Lib.hid (by unfold headL; rw [hF, HL.out])
        rw [← hF] at HO6
        clear hF
        obtain ⟨n6, A6, cc6, rfl⟩ : ∃ n A c, v6 = .slice A n c := by
          obtain ⟨A, c, e, _⟩ := HO6.out.bs HFB.out
          exact ⟨_, A, c, e⟩
        go_wp2
        go_loopw [3, 21] (fun v iv wr => ∃ k : Nat, iv = .int .i64 (k : Int) ∧ k ≤ n ∧ Own wr w.heap.size v (F ++ kL es k) ∧ Below w.heap.size w wr) (fun _ iv _ => n - (intOf iv).toNat)
        case atStart => exact ⟨0, rfl, by omega, by have h : kL es 0 = [] := rfl; rw [h, List.append_nil]; exact HO6.out, HB7.out⟩
        case round =>
          obtain ⟨k, rfl, hk, hown, hb⟩ := hrel
          have HOW := Lib.hid hown
          have HB := Lib.hid hb
          have HBY : Hid (∀ i, (F ++ kL es k).getD i 0 < 256) := Lib.hid (app_byte HFB.out (kL_byte es k))
          have HLE : Hid ((F ++ kL es k).length = 18 + 2 * k) := Lib.hid (by rw [List.length_append, HFL.out, kL_len es k (by rw [HL.out]; exact hk)])
          clear hown hb
          by_cases hlt : k < n
          · obtain ⟨b, o, rfl, hEs⟩ := HE.out.2 (by omega)
            obtain ⟨A1, c1, q1, q2, q3⟩ := hEs.2 k (by rw [HL.out]; exact hlt)
            have p1 : wr.cell? ⟨b, o + k * 2, none⟩ = some (.int .i64 (kAt es k)) := (HB.out.cell (p := ⟨b, o + k * 2, none⟩) hEs.1).trans q1
            have p2 : wr.cell? ⟨b, o + k * 2 + 1, none⟩ = some (.slice A1 (dAt es k).length c1) := (HB.out.cell (p := ⟨b, o + k * 2 + 1, none⟩) hEs.1).trans q2
            have hwk := HWK.out k hlt
            have HPK1 := Lib.hid (HPK.out k hlt)
            have HKS : Hid (F ++ kL es (k + 1) = (F ++ kL es k) ++ putL 2 (kAt es k).toNat) := Lib.hid (by rw [kL_step es (by rw [HL.out]; exact hlt), List.append_assoc])
            have HL2 : Hid ((putL 2 (kAt es k).toNat).length = 2) := Lib.hid (putL_len _ _)
            have HB5 := Lib.hid (HB.out.trans (((Below.refl wr.heap.size wr).alloc (Nat.le_refl _) (.cells #[.int .i64 (kAt es k), .slice A1 (dAt es k).length c1] 58)).mono HB.out.size))
            have HO5 := Lib.hid (HOW.out.alloc (.cells #[.int .i64 (kAt es k), .slice A1 (dAt es k).length c1] 58))
            generalize putL 2 (kAt es k).toNat = y at *
            generalize kAt es k = X at *
            generalize (dAt es k).length = nl at *
            clear q1 q2 q3 hEs
            go_wp2_with fail
            generalize wr.alloc (.cells #[.int .i64 X, .slice A1 nl c1] 58) = W5 at *
            refine (HPK1.out _).mono ?_
            rintro e w8 ⟨A8, c8, rfl, hb8, hs8⟩
            rw [HL2.out] at hs8 ⊢
            have HB8 := Lib.hid (HB5.out.trans (hb8.mono HB5.out.size))
            have HO8 := Lib.hid (HO5.out.below hb8)
            have HS8 := Lib.hid hs8
            obtain ⟨b8, o8, hA8, _, _⟩ := hs8.at_ (by omega)
            subst hA8
            clear hb8 hs8
            go_wp2_with (at_builtin; refine wp_apps _ rfl _ _ rfl w.heap.size _ _ rfl HO8.out _ _ 2 _ _ rfl HS8.out (fun h => by cases h) (by rw [HLE.out]; omega) HB8.out.size ?_; intro v' w9 hown9 hb9; have HO9 := Lib.hid hown9; have HB9 := Lib.hid (HB8.out.trans hb9); clear hown9 hb9)
            go_roundw
            case rel => exact ⟨k + 1, by simp, by omega, by rw [HKS.out]; exact HO9.out, HB9.out⟩
            case measure => simp [intOf]; omega
          · obtain rfl : k = n := by omega
            obtain ⟨Ab, cb, hv, hbs⟩ := HOW.out.bs HBY.out
            rw [HLE.out] at hv hbs
            subst hv
            have HPD := Lib.hid (pad_own Ab (18 + 2 * k) cb 256 (F ++ kL es k) wr hbs (by omega) (by omega) (by omega))
            rw [← HHL.out] at HPD
            clear hbs
            go_wp2_with fail
            refine HPD.out.mono ?_
            rintro e w9 ⟨v9, rfl, hown9, hb9⟩
            have HF : Hid (GivesO w (headL cnt es) (.returned v9) w9) := Lib.hid ⟨v9, rfl, hown9.base HB.out.size, HB.out.trans (hb9.mono HB.out.size)⟩
            clear hb9 hown9
            go_wp2
            go_ret
            exact HF.out
      · go_simp
        (go_at_call 34)
        refine (HP2.out _).mono ?_
        rintro e v14 ⟨A14, c14, rfl, hb14, hs14⟩
        rw [HE2.out] at hs14 ⊢
        have HBA14 : Hid (Below W0.heap.size W0 v14) := Lib.hid (HBA11.out.trans (hb14.mono HBA11.out.size))
        have HQ10x11x14 := Lib.hid ((HQ10x11.out.below hb14).more hb14.size)
        have HST11x14 := Lib.hid ((HST11.out.below hb14).more hb14.size)
        have HCL14 := Lib.hid ((hb14.block _ (blk_lt HCL11.out)).trans HCL11.out)
        have HQ14 := Lib.hid hs14
        clear hb14 hs14
        refine hK.out _ _ (HK0.out _ (HKB.out _ HBA14.out)) (fun hHeld14 => ?_)
        clear hK K
        (try simp only [Act.put, List.getElem_toArray, List.getElem_cons_succ, List.getElem_cons_zero, List.setIfInBounds_toArray, List.set_cons_zero, List.set_cons_succ])
        refine wpAnyF_ready (rs := [1]) (by kernel_rfl) (by simp) ?_
        refine AllReadyF.cons (o := _) rfl (fun K hK => ?_) AllReadyF.nil
        obtain ⟨v15, hrun15, hcell15, hgr15, hsz15⟩ := conv_mark (P := Try.prog) v14 42 5 _ g11 8 8 HCL14.out Try.underlying42 Try.underlying5
        have HBA15 : Hid (Below W0.heap.size W0 v15) := Lib.hid (HBA14.out.grown hgr15 HBA14.out.size (fun j hj => by injection hj with hj; rw [← hj]; exact HGE11.out))
        have HQ10x11x14x15 := Lib.hid ((HQ10x11x14.out.same hcell15).more (Nat.le_of_eq hsz15.symm))
        have HST11x14x15 := Lib.hid ((HST11x14.out.same hcell15).more (Nat.le_of_eq hsz15.symm))
        have HQ14x15 := Lib.hid ((HQ14.out.same hcell15).more (Nat.le_of_eq hsz15.symm))
        go_simp
        clear hrun15 hcell15 hgr15 hsz15
        refine hK.out _ _ (HK0.out _ (HKB.out _ HBA15.out)) (fun hHeld15 => ?_)
        clear hK K
        (try simp only [Act.put, List.getElem_toArray, List.getElem_cons_succ, List.getElem_cons_zero, List.setIfInBounds_toArray, List.set_cons_zero, List.set_cons_succ])
        refine wpAnyF_ready (rs := [10]) (by kernel_rfl) (by simp) ?_
        refine AllReadyF.cons (o := _) rfl (fun K hK => ?_) AllReadyF.nil
        have hrw : RowsAt (v15.alloc (.cells #[.slice (some ⟨g11, 0, none⟩) 8 8, .slice A10 8 c10, .slice A14 2 c14] 42)) v15.heap.size [sig, x8, x2] := by
          have h := rows_three (w := v15) (w' := v15) (x := sig) (y := x8) (z := x2) (A1 := (some ⟨g11, 0, none⟩)) (A2 := A10) (A3 := A14) (c1 := 8) (c2 := c10) (c3 := c14) (by decide) (by rw [HE8.out]; omega) (by rw [HE2.out]; omega) HST11x14x15.out (by rw [HE8.out]; exact HQ10x11x14x15.out) (by rw [HE2.out]; exact HQ14x15.out) 42
          rw [HE8.out, HE2.out] at h
          exact h
        have HRW := Lib.hid hrw
        have HBL : Hid (Below W0.heap.size W0 (v15.alloc (.cells #[.slice (some ⟨g11, 0, none⟩) 8 8, .slice A10 8 c10, .slice A14 2 c14] 42))) := Lib.hid (HBA15.out.alloc HBA15.out.size _)
        clear hrw
        go_simp
        refine hK.out _ _ (HK0.out _ (HKB.out _ HBL.out)) (fun hHeld10 => ?_)
        clear hK K
        (try simp only [Act.put, List.getElem_toArray, List.getElem_cons_succ, List.getElem_cons_zero, List.setIfInBounds_toArray, List.set_cons_zero, List.set_cons_succ])
        refine wpAnyF_ready (rs := [11]) (by kernel_rfl) (by simp) ?_
        refine AllReadyF.cons (o := _) rfl (fun K hK => ?_) AllReadyF.nil
        go_simp
        (go_at_call 33)
        refine (concat_any _ 3 3 [sig, x8, x2] _ HRW.out rfl (by omega) (by omega)).mono ?_
        rintro e w6 ⟨v6, rfl, hown6, hb6⟩
        have HB6 : Hid (Below W0.heap.size W0 w6) := Lib.hid (HBL.out.trans (hb6.mono HBL.out.size))
        have HO6 : Hid (Own w6 w.heap.size v6 (headF cnt es)) := Lib.hid (by rw [HFE.out]; exact hown6.base (by have := HBL.out.size; have := HB0.out.size; omega))
        clear hown6 hb6
        refine hK.out _ _ (HK0.out _ (HKB.out _ HB6.out)) (fun hHeld11 => ?_)
        clear hK K
        (try simp only [Act.put, List.getElem_toArray, List.getElem_cons_succ, List.getElem_cons_zero, List.setIfInBounds_toArray, List.set_cons_zero, List.set_cons_succ])
        refine wpAnyF_take (i := 12) (oi := _) (v := ?_) rfl (by kernel_rfl) (by kernel_rfl) (by kernel_rfl) (by kernel_rfl) (fun _ _ _ h => h) (Or.inl ⟨by rfl, ?_⟩) (by assumption) ?_
        rotate_left 1
        · intro w hSw
          (try dsimp only at hSw)
          (first | (go_simp; done) | (go_simp; with_reducible rfl))
        (try simp only [Act.put, List.getElem_toArray, List.getElem_cons_succ, List.getElem_cons_zero, List.setIfInBounds_toArray, List.set_cons_zero, List.set_cons_succ])
        refine wpAnyF_done (by kernel_rfl) ?_ _
        have HB7 := Lib.hid (HB0.out.trans (HB6.out.mono HB0.out.size))
        have d1 : w6.cell? ⟨w.heap.size, 1, none⟩ = some (.slice A n c) := (HK0.out _ (HKB.out _ HB6.out)).2
        obtain ⟨F, hF⟩ : ∃ F, F = headF cnt es := ⟨_, rfl⟩
        have HFL : Hid (F.length = 18) := Lib.hid (by rw [hF]; exact headF_len _ _)
        have HFB : Hid (∀ i, F.getD i 0 < 256) := Lib.hid (by rw [hF]; exact headF_byte _ _)
        have HHL : Hid (headL cnt es = padL (F ++ kL es n) 256) := Lib.hid (by unfold headL; rw [hF, HL.out])
        rw [← hF] at HO6
        clear hF
        obtain ⟨n6, A6, cc6, rfl⟩ : ∃ n A c, v6 = .slice A n c := by
          obtain ⟨A, c, e, _⟩ := HO6.out.bs HFB.out
          exact ⟨_, A, c, e⟩
        go_wp2
        go_loopw [3, 21] (fun v iv wr => ∃ k : Nat, iv = .int .i64 (k : Int) ∧ k ≤ n ∧ Own wr w.heap.size v (F ++ kL es k) ∧ Below w.heap.size w wr) (fun _ iv _ => n - (intOf iv).toNat)
        case atStart => exact ⟨0, rfl, by omega, by have h : kL es 0 = [] := rfl; rw [h, List.append_nil]; exact HO6.out, HB7.out⟩
        case round =>
          obtain ⟨k, rfl, hk, hown, hb⟩ := hrel
          have HOW := Lib.hid hown
          have HB := Lib.hid hb
          have HBY : Hid (∀ i, (F ++ kL es k).getD i 0 < 256) := Lib.hid (app_byte HFB.out (kL_byte es k))
          have HLE : Hid ((F ++ kL es k).length = 18 + 2 * k) := Lib.hid (by rw [List.length_append, HFL.out, kL_len es k (by rw [HL.out]; exact hk)])
          clear hown hb
          by_cases hlt : k < n
          · obtain ⟨b, o, rfl, hEs⟩ := HE.out.2 (by omega)
            obtain ⟨A1, c1, q1, q2, q3⟩ := hEs.2 k (by rw [HL.out]; exact hlt)
            have p1 : wr.cell? ⟨b, o + k * 2, none⟩ = some (.int .i64 (kAt es k)) := (HB.out.cell (p := ⟨b, o + k * 2, none⟩) hEs.1).trans q1
            have p2 : wr.cell? ⟨b, o + k * 2 + 1, none⟩ = some (.slice A1 (dAt es k).length c1) := (HB.out.cell (p := ⟨b, o + k * 2 + 1, none⟩) hEs.1).trans q2
            have hwk := HWK.out k hlt
            have HPK1 := Lib.hid (HPK.out k hlt)
            have HKS : Hid (F ++ kL es (k + 1) = (F ++ kL es k) ++ putL 2 (kAt es k).toNat) := Lib.hid (by rw [kL_step es (by rw [HL.out]; exact hlt), List.append_assoc])
            have HL2 : Hid ((putL 2 (kAt es k).toNat).length = 2) := Lib.hid (putL_len _ _)
            have HB5 := Lib.hid (HB.out.trans (((Below.refl wr.heap.size wr).alloc (Nat.le_refl _) (.cells #[.int .i64 (kAt es k), .slice A1 (dAt es k).length c1] 58)).mono HB.out.size))
            have HO5 := Lib.hid (HOW.out.alloc (.cells #[.int .i64 (kAt es k), .slice A1 (dAt es k).length c1] 58))
            generalize putL 2 (kAt es k).toNat = y at *
            generalize kAt es k = X at *
            generalize (dAt es k).length = nl at *
            clear q1 q2 q3 hEs
            go_wp2_with fail
            generalize wr.alloc (.cells #[.int .i64 X, .slice A1 nl c1] 58) = W5 at *
            refine (HPK1.out _).mono ?_
            rintro e w8 ⟨A8, c8, rfl, hb8, hs8⟩
            rw [HL2.out] at hs8 ⊢
            have HB8 := Lib.hid (HB5.out.trans (hb8.mono HB5.out.size))
            have HO8 := Lib.hid (HO5.out.below hb8)
            have HS8 := Lib.hid hs8
            obtain ⟨b8, o8, hA8, _, _⟩ := hs8.at_ (by omega)
            subst hA8
            clear hb8 hs8
            go_wp2_with (at_builtin; refine wp_apps _ rfl _ _ rfl w.heap.size _ _ rfl HO8.out _ _ 2 _ _ rfl HS8.out (fun h => by cases h) (by rw [HLE.out]; omega) HB8.out.size ?_; intro v' w9 hown9 hb9; have HO9 := Lib.hid hown9; have HB9 := Lib.hid (HB8.out.trans hb9); clear hown9 hb9)
            go_roundw
            case rel => exact ⟨k + 1, by simp, by omega, by rw [HKS.out]; exact HO9.out, HB9.out⟩
            case measure => simp [intOf]; omega
          · obtain rfl : k = n := by omega
            obtain ⟨Ab, cb, hv, hbs⟩ := HOW.out.bs HBY.out
            rw [HLE.out] at hv hbs
            subst hv
            have HPD := Lib.hid (pad_own Ab (18 + 2 * k) cb 256 (F ++ kL es k) wr hbs (by omega) (by omega) (by omega))
            rw [← HHL.out] at HPD
            clear hbs
            go_wp2_with fail
            refine HPD.out.mono ?_
            rintro e w9 ⟨v9, rfl, hown9, hb9⟩
            have HF : Hid (GivesO w (headL cnt es) (.returned v9) w9) := Lib.hid ⟨v9, rfl, hown9.base HB.out.size, HB.out.trans (hb9.mono HB.out.size)⟩
            clear hb9 hown9
            go_wp2
            go_ret
            exact HF.out
    · go_simp
      (go_at_call 34)
      refine (HP2.out _).mono ?_
      rintro e v16 ⟨A16, c16, rfl, hb16, hs16⟩
      rw [HE2.out] at hs16 ⊢
      have HBA16 : Hid (Below W0.heap.size W0 v16) := Lib.hid (HBA10.out.trans (hb16.mono HBA10.out.size))
      have HQ10x16 := Lib.hid ((HQ10.out.below hb16).more hb16.size)
      have HQ16 := Lib.hid hs16
      clear hb16 hs16
      refine hK.out _ _ (HK0.out _ (HKB.out _ HBA16.out)) (fun hHeld16 => ?_)
      clear hK K
      (try simp only [Act.put, List.getElem_toArray, List.getElem_cons_succ, List.getElem_cons_zero, List.setIfInBounds_toArray, List.set_cons_zero, List.set_cons_succ])
      refine wpAnyF_ready (rs := [0]) (by kernel_rfl) (by simp) ?_
      refine AllReadyF.cons (o := _) rfl (fun K hK => ?_) AllReadyF.nil
      have hst17 : BS (v16.alloc (.cells sigV 5)) (v16.alloc (.cells sigV 5)).heap.size (some ⟨v16.heap.size, 0, none⟩) 8 8 sig := sig_bs
      have hbl17 : Below v16.heap.size v16 (v16.alloc (.cells sigV 5)) := (Below.refl _ _).alloc (Nat.le_refl _) _
      have hcl17 := heap_alloc_new v16 (.cells sigV 5)
      have HBA17 : Hid (Below W0.heap.size W0 (v16.alloc (.cells sigV 5))) := Lib.hid (HBA16.out.trans (hbl17.mono HBA16.out.size))
      have HQ10x16_17 := (HQ10x16.out.below hbl17).more hbl17.size
      have HQ16_17 := (HQ16.out.below hbl17).more hbl17.size
      unfold sigV at hst17 hbl17 hcl17 HBA17 HQ10x16_17 HQ16_17
      go_simp
      obtain ⟨g17, hg17⟩ : ∃ g, g = v16.heap.size := ⟨_, rfl⟩
      have HGE17 : Hid (W0.heap.size ≤ g17) := Lib.hid (by rw [hg17]; exact HBA16.out.size)
      rw [← hg17] at hst17 hcl17 ⊢
      generalize (v16.alloc (.cells #[.int .u8 82, .int .u8 69, .int .u8 68, .int .u8 79, .int .u8 45, .int .u8 76, .int .u8 79, .int .u8 71] 5)) = v17 at *
      clear hbl17 hg17
      have HQ10x16x17 := Lib.hid HQ10x16_17
      clear HQ10x16_17
      have HQ16x17 := Lib.hid HQ16_17
      clear HQ16_17
      have HST17 := Lib.hid hst17
      have HCL17 := Lib.hid hcl17
      clear hst17 hcl17
      refine hK.out _ _ (HK0.out _ (HKB.out _ HBA17.out)) (fun hHeld17 => ?_)
      clear hK K
      (try simp only [Act.put, List.getElem_toArray, List.getElem_cons_succ, List.getElem_cons_zero, List.setIfInBounds_toArray, List.set_cons_zero, List.set_cons_succ])
      refine wpAnyF_ready (rs := [1]) (by kernel_rfl) (by simp) ?_
      refine AllReadyF.cons (o := _) rfl (fun K hK => ?_) AllReadyF.nil
      obtain ⟨v18, hrun18, hcell18, hgr18, hsz18⟩ := conv_mark (P := Try.prog) v17 42 5 _ g17 8 8 HCL17.out Try.underlying42 Try.underlying5
      have HBA18 : Hid (Below W0.heap.size W0 v18) := Lib.hid (HBA17.out.grown hgr18 HBA17.out.size (fun j hj => by injection hj with hj; rw [← hj]; exact HGE17.out))
      have HQ10x16x17x18 := Lib.hid ((HQ10x16x17.out.same hcell18).more (Nat.le_of_eq hsz18.symm))
      have HQ16x17x18 := Lib.hid ((HQ16x17.out.same hcell18).more (Nat.le_of_eq hsz18.symm))
      have HST17x18 := Lib.hid ((HST17.out.same hcell18).more (Nat.le_of_eq hsz18.symm))
      go_simp
      clear hrun18 hcell18 hgr18 hsz18
      refine hK.out _ _ (HK0.out _ (HKB.out _ HBA18.out)) (fun hHeld18 => ?_)
      clear hK K
      (try simp only [Act.put, List.getElem_toArray, List.getElem_cons_succ, List.getElem_cons_zero, List.setIfInBounds_toArray, List.set_cons_zero, List.set_cons_succ])
      refine wpAnyF_ready (rs := [10]) (by kernel_rfl) (by simp) ?_
      refine AllReadyF.cons (o := _) rfl (fun K hK => ?_) AllReadyF.nil
      have hrw : RowsAt (v18.alloc (.cells #[.slice (some ⟨g17, 0, none⟩) 8 8, .slice A10 8 c10, .slice A16 2 c16] 42)) v18.heap.size [sig, x8, x2] := by
        have h := rows_three (w := v18) (w' := v18) (x := sig) (y := x8) (z := x2) (A1 := (some ⟨g17, 0, none⟩)) (A2 := A10) (A3 := A16) (c1 := 8) (c2 := c10) (c3 := c16) (by decide) (by rw [HE8.out]; omega) (by rw [HE2.out]; omega) HST17x18.out (by rw [HE8.out]; exact HQ10x16x17x18.out) (by rw [HE2.out]; exact HQ16x17x18.out) 42
        rw [HE8.out, HE2.out] at h
        exact h
      have HRW := Lib.hid hrw
      have HBL : Hid (Below W0.heap.size W0 (v18.alloc (.cells #[.slice (some ⟨g17, 0, none⟩) 8 8, .slice A10 8 c10, .slice A16 2 c16] 42))) := Lib.hid (HBA18.out.alloc HBA18.out.size _)
      clear hrw
      go_simp
      refine hK.out _ _ (HK0.out _ (HKB.out _ HBL.out)) (fun hHeld10 => ?_)
      clear hK K
      (try simp only [Act.put, List.getElem_toArray, List.getElem_cons_succ, List.getElem_cons_zero, List.setIfInBounds_toArray, List.set_cons_zero, List.set_cons_succ])
      refine wpAnyF_ready (rs := [11]) (by kernel_rfl) (by simp) ?_
      refine AllReadyF.cons (o := _) rfl (fun K hK => ?_) AllReadyF.nil
      go_simp
      (go_at_call 33)
      refine (concat_any _ 3 3 [sig, x8, x2] _ HRW.out rfl (by omega) (by omega)).mono ?_
      rintro e w6 ⟨v6, rfl, hown6, hb6⟩
      have HB6 : Hid (Below W0.heap.size W0 w6) := Lib.hid (HBL.out.trans (hb6.mono HBL.out.size))
      have HO6 : Hid (Own w6 w.heap.size v6 (headF cnt es)) := Lib.hid (by rw [HFE.out]; exact hown6.base (by have := HBL.out.size; have := HB0.out.size; omega))
      clear hown6 hb6
      refine hK.out _ _ (HK0.out _ (HKB.out _ HB6.out)) (fun hHeld11 => ?_)
      clear hK K
      (try simp only [Act.put, List.getElem_toArray, List.getElem_cons_succ, List.getElem_cons_zero, List.setIfInBounds_toArray, List.set_cons_zero, List.set_cons_succ])
      refine wpAnyF_take (i := 12) (oi := _) (v := ?_) rfl (by kernel_rfl) (by kernel_rfl) (by kernel_rfl) (by kernel_rfl) (fun _ _ _ h => h) (Or.inl ⟨by rfl, ?_⟩) (by assumption) ?_
      rotate_left 1
      · intro w hSw
        (try dsimp only at hSw)
        (first | (go_simp; done) | (go_simp; with_reducible rfl))
      (try simp only [Act.put, List.getElem_toArray, List.getElem_cons_succ, List.getElem_cons_zero, List.setIfInBounds_toArray, List.set_cons_zero, List.set_cons_succ])
      refine wpAnyF_done (by kernel_rfl) ?_ _
      have HB7 := Lib.hid (HB0.out.trans (HB6.out.mono HB0.out.size))
      have d1 : w6.cell? ⟨w.heap.size, 1, none⟩ = some (.slice A n c) := (HK0.out _ (HKB.out _ HB6.out)).2
      obtain ⟨F, hF⟩ : ∃ F, F = headF cnt es := ⟨_, rfl⟩
      have HFL : Hid (F.length = 18) := Lib.hid (by rw [hF]; exact headF_len _ _)
      have HFB : Hid (∀ i, F.getD i 0 < 256) := Lib.hid (by rw [hF]; exact headF_byte _ _)
      have HHL : Hid (headL cnt es = padL (F ++ kL es n) 256) := Lib.hid (by unfold headL; rw [hF, HL.out])
      rw [← hF] at HO6
      clear hF
      obtain ⟨n6, A6, cc6, rfl⟩ : ∃ n A c, v6 = .slice A n c := by
        obtain ⟨A, c, e, _⟩ := HO6.out.bs HFB.out
        exact ⟨_, A, c, e⟩
      go_wp2
      go_loopw [3, 21] (fun v iv wr => ∃ k : Nat, iv = .int .i64 (k : Int) ∧ k ≤ n ∧ Own wr w.heap.size v (F ++ kL es k) ∧ Below w.heap.size w wr) (fun _ iv _ => n - (intOf iv).toNat)
      case atStart => exact ⟨0, rfl, by omega, by have h : kL es 0 = [] := rfl; rw [h, List.append_nil]; exact HO6.out, HB7.out⟩
      case round =>
        obtain ⟨k, rfl, hk, hown, hb⟩ := hrel
        have HOW := Lib.hid hown
        have HB := Lib.hid hb
        have HBY : Hid (∀ i, (F ++ kL es k).getD i 0 < 256) := Lib.hid (app_byte HFB.out (kL_byte es k))
        have HLE : Hid ((F ++ kL es k).length = 18 + 2 * k) := Lib.hid (by rw [List.length_append, HFL.out, kL_len es k (by rw [HL.out]; exact hk)])
        clear hown hb
        by_cases hlt : k < n
        · obtain ⟨b, o, rfl, hEs⟩ := HE.out.2 (by omega)
          obtain ⟨A1, c1, q1, q2, q3⟩ := hEs.2 k (by rw [HL.out]; exact hlt)
          have p1 : wr.cell? ⟨b, o + k * 2, none⟩ = some (.int .i64 (kAt es k)) := (HB.out.cell (p := ⟨b, o + k * 2, none⟩) hEs.1).trans q1
          have p2 : wr.cell? ⟨b, o + k * 2 + 1, none⟩ = some (.slice A1 (dAt es k).length c1) := (HB.out.cell (p := ⟨b, o + k * 2 + 1, none⟩) hEs.1).trans q2
          have hwk := HWK.out k hlt
          have HPK1 := Lib.hid (HPK.out k hlt)
          have HKS : Hid (F ++ kL es (k + 1) = (F ++ kL es k) ++ putL 2 (kAt es k).toNat) := Lib.hid (by rw [kL_step es (by rw [HL.out]; exact hlt), List.append_assoc])
          have HL2 : Hid ((putL 2 (kAt es k).toNat).length = 2) := Lib.hid (putL_len _ _)
          have HB5 := Lib.hid (HB.out.trans (((Below.refl wr.heap.size wr).alloc (Nat.le_refl _) (.cells #[.int .i64 (kAt es k), .slice A1 (dAt es k).length c1] 58)).mono HB.out.size))
          have HO5 := Lib.hid (HOW.out.alloc (.cells #[.int .i64 (kAt es k), .slice A1 (dAt es k).length c1] 58))
          generalize putL 2 (kAt es k).toNat = y at *
          generalize kAt es k = X at *
          generalize (dAt es k).length = nl at *
          clear q1 q2 q3 hEs
          go_wp2_with fail
          generalize wr.alloc (.cells #[.int .i64 X, .slice A1 nl c1] 58) = W5 at *
          refine (HPK1.out _).mono ?_
          rintro e w8 ⟨A8, c8, rfl, hb8, hs8⟩
          rw [HL2.out] at hs8 ⊢
          have HB8 := Lib.hid (HB5.out.trans (hb8.mono HB5.out.size))
          have HO8 := Lib.hid (HO5.out.below hb8)
          have HS8 := Lib.hid hs8
          obtain ⟨b8, o8, hA8, _, _⟩ := hs8.at_ (by omega)
          subst hA8
          clear hb8 hs8
          go_wp2_with (at_builtin; refine wp_apps _ rfl _ _ rfl w.heap.size _ _ rfl HO8.out _ _ 2 _ _ rfl HS8.out (fun h => by cases h) (by rw [HLE.out]; omega) HB8.out.size ?_; intro v' w9 hown9 hb9; have HO9 := Lib.hid hown9; have HB9 := Lib.hid (HB8.out.trans hb9); clear hown9 hb9)
          go_roundw
          case rel => exact ⟨k + 1, by simp, by omega, by rw [HKS.out]; exact HO9.out, HB9.out⟩
          case measure => simp [intOf]; omega
        · obtain rfl : k = n := by omega
          obtain ⟨Ab, cb, hv, hbs⟩ := HOW.out.bs HBY.out
          rw [HLE.out] at hv hbs
          subst hv
          have HPD := Lib.hid (pad_own Ab (18 + 2 * k) cb 256 (F ++ kL es k) wr hbs (by omega) (by omega) (by omega))
          rw [← HHL.out] at HPD
          clear hbs
          go_wp2_with fail
          refine HPD.out.mono ?_
          rintro e w9 ⟨v9, rfl, hown9, hb9⟩
          have HF : Hid (GivesO w (headL cnt es) (.returned v9) w9) := Lib.hid ⟨v9, rfl, hown9.base HB.out.size, HB.out.trans (hb9.mono HB.out.size)⟩
          clear hb9 hown9
          go_wp2
          go_ret
          exact HF.out

end Go.Proofs.Ytnalebocfbbpdaa
