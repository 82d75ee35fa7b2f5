/-
  Sixteen pages out of a block: Parse of the package.
-/
import Derived.Test.YtooahpfeamobcaaDoorPgZ
import Derived.Test.YtooahpfeamobcaaDoorPgQ
import Derived.Test.YtooahpfeamobcaaDoorPgE
import Derived.Deep.Upon
namespace Go.Proofs.YtooahpfeamobcaaDoor
open Go.RowKit Go Go.Shelf
set_option linter.unusedVariables false
set_option linter.unusedSimpArgs false
set_option maxRecDepth 100000
theorem BS.keepA {w w' : World} {B n c : Nat} {A : Option Addr} {l : List Nat} (h : BS w B A n c l) (hk : ∀ b o, A = some ⟨b, o, none⟩ → 0 < n → w'.heap[b]? = w.heap[b]?) : BS w' B A n c l :=
  ⟨h.1, h.2.1, h.2.2.1, h.2.2.2.1, fun hn => by
    obtain ⟨b, o, e, hB, hc⟩ := h.at_ hn
    exact ⟨b, o, e, hB, fun i hi => (World.cell?_of_block (a := ⟨b, o + i, none⟩) (hk b o e hn)).trans (hc i hi)⟩⟩
/-- a block of pages is no row of bytes and no Row -/
theorem row_far {W : World} {B gs gr i : Nat} {xs : List Pg} {l : List Nat} {p : Pg} (hxl : xs.length = 16) (ho : OwnP W B OT (.slice (some ⟨gs, 0, none⟩) 16 16) xs) (hs : RowSt W gr 60 l 0) :
    gs ≠ gr ∧ RowSt (W.setCells gs (i * 5) p.cs) gr 60 l 0 := by
  obtain ⟨A, c, h1, h2⟩ := hs
  obtain ⟨hx, ⟨hv, h0⟩ | ⟨g', cap', cur, hv, hg, hh, hn, hm, hsz, ht⟩⟩ := ho
  · cases hv
  injection hv with e1 e2 e3
  injection e1 with e1
  injection e1 with e1
  subst e1 e3
  have hne : gr ≠ gs := by
    intro e
    rw [e, hh] at h1
    have h3 := Option.some.inj h1
    have h4 : (OT : TypeId) = 60 := by injection h3
    exact absurd h4 (by decide)
  refine ⟨fun e => hne e.symm, A, c, (World.heap_setCells_other _ _ _ _ (blk_lt h1) hne).trans h1, h2.keepA fun b o e h0 => ?_⟩
  obtain ⟨b', o', e', hB, hc⟩ := h2.at_ h0
  rw [e] at e'
  cases e'
  refine World.heap_setCells_other _ _ _ _ (Nat.lt_trans hB (blk_lt h1)) (fun e => ?_)
  subst e
  have h3 := hc 0 h0
  rw [blk_cell hh] at h3
  have ho2 : o + 0 < cur.size := by
    rcases Nat.lt_or_ge (o + 0) cur.size with q | q
    · exact q
    · rw [Array.getElem?_eq_none q] at h3; cases h3
  have h4 : (flatP xs)[o + 0]? = some (.int .u8 ((l.getD 0 0 : Nat) : Int)) := by
    rw [← ht, List.getElem?_take_of_lt (by omega), Array.getElem?_toList]
    exact h3
  have h5 := flatP_get xs ((o + 0) / 5) ((o + 0) % 5) (by omega) (Nat.mod_lt _ (by decide))
  rw [show (o + 0) / 5 * 5 + (o + 0) % 5 = o + 0 by omega, h4] at h5
  have h6 := Nat.mod_lt (o + 0) (show 0 < 5 by decide)
  generalize (o + 0) % 5 = j at h5 h6
  rcases (by omega : j = 0 ∨ j = 1 ∨ j = 2 ∨ j = 3 ∨ j = 4) with rfl | rfl | rfl | rfl | rfl <;> simp [Pg.cs] at h5
theorem OwnP_base {W : World} {B B' : Nat} {E : TypeId} {v : Value} {xs : List Pg} (h : OwnP W B E v xs) (hB : B' ≤ B) : OwnP W B' E v xs := by
  obtain ⟨h1, h2⟩ := h
  refine ⟨h1, ?_⟩
  rcases h2 with h2 | ⟨g, cap, cur, hv, hg, hr⟩
  · exact .inl h2
  · exact .inr ⟨g, cap, cur, hv, Nat.le_trans hB hg, hr⟩
/-- the first k pages are read -/
def mixP (b : List Nat) (k : Nat) : List Pg := (List.range 16).map fun i => if i < k then rdP (b.drop (16 * i)) else pz
theorem mixP_len (b : List Nat) (k : Nat) : (mixP b k).length = 16 := by simp [mixP]
theorem mixP_0 (b : List Nat) : mixP b 0 = List.replicate 16 pz := by
  unfold mixP
  refine List.ext_getElem? fun i => ?_
  rcases Nat.lt_or_ge i 16 with h | h
  · rw [List.getElem?_map, List.getElem?_range h, List.getElem?_replicate, if_pos h]; rfl
  · rw [List.getElem?_eq_none (by simpa using h), List.getElem?_eq_none (by simpa using h)]
theorem mixP_step (b : List Nat) {k : Nat} (hk : k < 16) : (mixP b k).set k (rdP (b.drop (16 * k))) = mixP b (k + 1) := by
  unfold mixP
  refine List.ext_getElem? fun i => ?_
  rw [List.getElem?_set]
  by_cases hi : k = i
  · subst hi
    rw [if_pos rfl, if_pos (by simpa using hk)]
    simp [List.getElem?_map, List.getElem?_range hk]
  · rw [if_neg hi]
    rcases Nat.lt_or_ge i 16 with h | h
    · have e : (i < k) = (i < k + 1) := by apply propext; omega
      simp only [List.getElem?_map, List.getElem?_range h, Option.map_some, e]
    · simp [h]
def rd16 (b : List Nat) : List Pg := mixP b 16
def PInv (w : World) (b : List Nat) (gs gr : Nat) (i : Value) (W : World) : Prop := ∃ k : Nat, i = .int .i64 (k : Int) ∧ k ≤ 16 ∧ OwnP W w.heap.size OT (.slice (some ⟨gs, 0, none⟩) 16 16) (mixP b k) ∧ RowSt W gr 60 (b.drop (16 * k)) 0 ∧ Below w.heap.size w W
def PgParseTo (w : World) (b : List Nat) (e : Ending) (w' : World) : Prop := Below w.heap.size w w' ∧
  (((rd16 b).all oneP = false ∧ e = .returned (.tuple #[.slice none 0 0, .int .i64 4])) ∨
   ((rd16 b).all oneP = true ∧ ∃ A c, e = .returned (.tuple #[.slice A 16 c, .int .i64 0]) ∧ PS w' A 16 c (rd16 b)))
theorem parse_short (A : Option Addr) (n c : Nat) (w : World) (hn : n ≠ 256) : Calls Tryd.prog 6 #[.slice A n c] w fun e w' => e = .returned (.tuple #[.slice none 0 0, .int .i64 4]) ∧ Below w.heap.size w w' := by
  have hnb : ((n : Int) != 256) = true := by simp; omega
  have hn2 : ¬ (n : Int) = 256 := by omega
  go_enter Tryd.func6, Tryd.ntmps6
  go_wp2
  go_ret2
  exact ⟨rfl, Below.refl _ _⟩
set_option maxHeartbeats 4000000 in
theorem parse_any (A : Option Addr) (c : Nat) (b : List Nat) (w : World) (hs : BS w w.heap.size A 256 c b) (hS : SZ w) :
    Calls Tryd.prog 6 #[.slice A 256 c] w (PgParseTo w b) := by
  have HS := Lib.hid hs
  have HSZ := Lib.hid hS
  have HLB := Lib.hid hs.len
  have HBY : Hid (∀ k i, (b.drop k).getD i 0 < 256) := Lib.hid (fun k i => by
    rw [List.getD_eq_getElem?_getD, List.getElem?_drop, ← List.getD_eq_getElem?_getD]; exact hs.byte _)
  have hcn := hs.cap
  have HMK : Hid (∀ W : World, (Instr.makeSlice OS (.int .i64 16) (.int .i64 16)).run Tryd.prog W = .ok (.slice (some ⟨W.heap.size, 0, none⟩) 16 16) (W.alloc (.cells (zrow 16) OT))) := Lib.hid (fun W => make_row kdO 16 (by omega) W)
  have HOF : Hid (∀ W, Below w.heap.size w W → Calls Tryd.prog 15 #[.slice A 256 c] W (OfTo W b)) := Lib.hid (fun W hW => of_any A 256 c b W ((HS.out.below hW).more hW.size) (by omega))
  have HREAD : Hid (∀ gr k W, k < 16 → RowSt W gr 60 (b.drop (16 * k)) 0 → Calls Tryd.prog 17 #[.func (Fn.func 16) #[.pointer (some ⟨gr, 0, none⟩)] #[]] W
      fun e w' => e = .returned (Pg.val (rdP (b.drop (16 * k)))) ∧ RowSt w' gr 60 (b.drop (16 * (k + 1))) 0 ∧ W.grownBy w' (some gr)) := Lib.hid (fun gr k W hk h => by
    have := pread_any gr (b.drop (16 * k)) (by rw [List.length_drop, HLB.out]; omega) (HBY.out _) W h
    rw [List.drop_drop, show 16 * k + 16 = 16 * (k + 1) by omega] at this
    exact this)
  clear hs hS
  go_enter Tryd.func6, Tryd.ntmps6
  go_wp2
  refine wp_region_F (S := (fun w' => Below w.heap.size w w')) [] (by kernel_rfl) ((Below.refl _ _).drew) (fun hHeld => ?_)
  refine wpAnyF_take (i := 1) (oi := _) (v := ?_) rfl (by kernel_rfl) (by kernel_rfl) (by kernel_rfl) (by kernel_rfl) (fun _ _ _ h => h) (Or.inl ⟨by rfl, ?_⟩) (by assumption) ?_
  rotate_left 1
  · intro w hSw
    (try dsimp only at hSw)
    (first | (go_simp; done) | (go_simp; with_reducible rfl))
  (try simp only [Act.put, List.getElem_toArray, List.getElem_cons_succ, List.getElem_cons_zero, List.setIfInBounds_toArray, List.set_cons_zero, List.set_cons_succ])
  refine wpAnyF_ready (rs := [0, 2]) (by kernel_rfl) (by simp) ?_
  refine AllReadyF.cons (o := _) rfl (fun K hK => ?_) (AllReadyF.cons (o := _) rfl (fun K hK => ?_) AllReadyF.nil)
  · have hmk := HMK.out
    go_simp
    clear hmk
    refine hK.out _ _ (hHeld.alloc hHeld.size _) (fun hHeld1 => ?_)
    clear hK K
    (try simp only [Act.put, List.getElem_toArray, List.getElem_cons_succ, List.getElem_cons_zero, List.setIfInBounds_toArray, List.set_cons_zero, List.set_cons_succ])
    refine wpAnyF_ready (rs := [2]) (by kernel_rfl) (by simp) ?_
    refine AllReadyF.cons (o := _) rfl (fun K hK => ?_) AllReadyF.nil
    go_simp
    (go_at_call 15)
    refine (HOF.out _ hHeld1).mono ?_
    rintro e w2 ⟨gr, rfl, hgr, hb2, hst⟩
    refine hK.out _ _ (hHeld1.trans (hb2.mono hHeld1.size)) (fun hHeld2 => ?_)
    clear hK K
    (try simp only [Act.put, List.getElem_toArray, List.getElem_cons_succ, List.getElem_cons_zero, List.setIfInBounds_toArray, List.set_cons_zero, List.set_cons_succ])
    refine wpAnyF_take (i := 3) (oi := _) (v := ?_) rfl (by kernel_rfl) (by kernel_rfl) (by kernel_rfl) (by kernel_rfl) (fun _ _ _ h => h) (Or.inl ⟨by rfl, ?_⟩) (by assumption) ?_
    rotate_left 1
    · intro w hSw
      (try dsimp only at hSw)
      (first | (go_simp; done) | (go_simp; with_reducible rfl))
    (try simp only [Act.put, List.getElem_toArray, List.getElem_cons_succ, List.getElem_cons_zero, List.setIfInBounds_toArray, List.set_cons_zero, List.set_cons_succ])
    refine wpAnyF_take (i := 4) (oi := _) (v := ?_) rfl (by kernel_rfl) (by kernel_rfl) (by kernel_rfl) (by kernel_rfl) (fun _ _ _ h => h) (Or.inl ⟨by rfl, ?_⟩) (by assumption) ?_
    rotate_left 1
    · intro w hSw
      (try dsimp only at hSw)
      (first | (go_simp; done) | (go_simp; with_reducible rfl))
    (try simp only [Act.put, List.getElem_toArray, List.getElem_cons_succ, List.getElem_cons_zero, List.setIfInBounds_toArray, List.set_cons_zero, List.set_cons_succ])
    refine wpAnyF_take (i := 5) (oi := _) (v := ?_) rfl (by kernel_rfl) (by kernel_rfl) (by kernel_rfl) (by kernel_rfl) (fun _ _ _ h => h) (Or.inl ⟨by rfl, ?_⟩) (by assumption) ?_
    rotate_left 1
    · intro w hSw
      (try dsimp only at hSw)
      (first | (go_simp; done) | (go_simp; with_reducible rfl))
    (try simp only [Act.put, List.getElem_toArray, List.getElem_cons_succ, List.getElem_cons_zero, List.setIfInBounds_toArray, List.set_cons_zero, List.set_cons_succ])
    refine wpAnyF_done (by kernel_rfl) ?_ _
    have HGR : Hid (w.heap.size ≤ gr) := Lib.hid (Nat.le_trans hHeld1.size hgr)
    have HKS : Hid (w.heap.size ≤ w.heap.size) := Lib.hid (by simp)
    have HP0 : Hid (PInv w b w.heap.size gr (.int .i64 0) w2) := Lib.hid ⟨0, rfl, by omega, by
      rw [mixP_0]
      exact OwnP.below (zrow_own w.drew OT 16 (by omega)) hb2, hst, hHeld2⟩
    clear hst hgr hb2
    clear HMK HOF
    go_wp2
    go_loopw [16] (fun i W => PInv w b w.heap.size gr i W) (fun i _ => (16 - intOf i).toNat)
    case atStart => exact HP0.out
    case round =>
      clear HP0
      obtain ⟨k, rfl, hk, ho, hst, hb⟩ := hrel
      have HO := Lib.hid ho
      have HST := Lib.hid hst
      have HB := Lib.hid hb
      clear ho hst hb
      by_cases hlt : k < 16
      · have HC := Lib.hid (HREAD.out gr k wr hlt HST.out)
        have HSTEP := Lib.hid (mixP_step b hlt)
        generalize rdP (b.drop (16 * k)) = q at *
        go_wp2_with fail
        refine HC.out.mono ?_
        rintro e w3 ⟨rfl, hst3, hg3⟩
        obtain ⟨hne, _⟩ := row_far (i := 0) (p := pz) (mixP_len b k) HO.out HST.out
        have ho3 := HO.out.keep (W' := w3) (fun g hg => by
          have hgs : w.heap.size = g := by simpa [Value.ownBlock] using hg
          subst hgs
          exact hg3.block _ (HO.out.lt _ hg).2 (by intro h; injection h with h; exact hne h))
        have hb3 : Below w.heap.size w w3 := HB.out.trans ((Below.refl _ _).grown hg3 HB.out.size (fun g hg => by
          injection hg with hg; subst hg; exact HGR.out))
        have HTH := Lib.hid (ho3.there (i := k) (by rw [mixP_len]; exact hlt))
        have HPU : Hid (OwnP (w3.setCells w.heap.size (k * 5) q.cs) w.heap.size OT (.slice (some ⟨w.heap.size, 0, none⟩) 16 16) (mixP b (k + 1))) := Lib.hid (by
          have := ho3.put (i := k) (by rw [mixP_len]; exact hlt) q
          rw [HSTEP.out] at this
          exact this)
        have HSP := Lib.hid (row_far (i := k) (p := q) (mixP_len b k) ho3 hst3).2
        have HBN : Hid (Below w.heap.size w (w3.setCells w.heap.size (k * 5) q.cs)) := Lib.hid (below_setCells _ _ _ hb3 HKS.out)
        clear hst3 hg3 hne ho3 hb3
        go_wp2_with (with_reducible refine wpList_storeP sz5_o rfl (.tmp 23) (.tmp 22) rfl w.heap.size (k * 5) q rfl rfl HTH.out ?_)
        go_roundw
        case rel => exact ⟨k + 1, by go_num, by omega, HPU.out, HSP.out, HBN.out⟩
        case measure => simp [intOf]; omega
      · obtain rfl : k = 16 := by omega
        obtain ⟨A9, c9, hv9, hps, _⟩ := HO.out.ps
        rw [mixP_len] at hv9 hps
        have HV9 := Lib.hid hv9
        cases hv9
        have HPS := Lib.hid hps
        have HAL := Lib.hid (all_may _ _ _ _ wr hps (HSZ.out.below HB.out))
        clear hps
        obtain ⟨x, hx⟩ : ∃ x, x = (mixP b 16).all oneP := ⟨_, rfl⟩
        rw [← hx] at HAL
        have HX := Lib.hid hx
        clear hx
        go_wp2_with fail
        refine HAL.out.mono ?_
        rintro e w4 ⟨rfl, hb4⟩
        have HPS4 := Lib.hid (HPS.out.below hb4)
        have HB4 := Lib.hid (HB.out.trans (hb4.mono HB.out.size))
        clear hb4
        cases x
        · go_wp2
          go_ret2
          exact ⟨HB4.out, .inl ⟨HX.out.symm, rfl⟩⟩
        · go_wp2
          go_ret2
          exact ⟨HB4.out, .inr ⟨HX.out.symm, _, _, rfl, HPS4.out⟩⟩
  · go_simp
    (go_at_call 15)
    refine (HOF.out _ hHeld).mono ?_
    rintro e w2 ⟨gr, rfl, hgr, hb2, hst⟩
    refine hK.out _ _ (hHeld.trans (hb2.mono hHeld.size)) (fun hHeld1 => ?_)
    clear hK K
    (try simp only [Act.put, List.getElem_toArray, List.getElem_cons_succ, List.getElem_cons_zero, List.setIfInBounds_toArray, List.set_cons_zero, List.set_cons_succ])
    refine wpAnyF_take (i := 3) (oi := _) (v := ?_) rfl (by kernel_rfl) (by kernel_rfl) (by kernel_rfl) (by kernel_rfl) (fun _ _ _ h => h) (Or.inl ⟨by rfl, ?_⟩) (by assumption) ?_
    rotate_left 1
    · intro w hSw
      (try dsimp only at hSw)
      (first | (go_simp; done) | (go_simp; with_reducible rfl))
    (try simp only [Act.put, List.getElem_toArray, List.getElem_cons_succ, List.getElem_cons_zero, List.setIfInBounds_toArray, List.set_cons_zero, List.set_cons_succ])
    refine wpAnyF_ready (rs := [0]) (by kernel_rfl) (by simp) ?_
    refine AllReadyF.cons (o := _) rfl (fun K hK => ?_) AllReadyF.nil
    have hmk := HMK.out
    go_simp
    clear hmk
    refine hK.out _ _ (hHeld1.alloc hHeld1.size _) (fun hHeld2 => ?_)
    clear hK K
    (try simp only [Act.put, List.getElem_toArray, List.getElem_cons_succ, List.getElem_cons_zero, List.setIfInBounds_toArray, List.set_cons_zero, List.set_cons_succ])
    refine wpAnyF_take (i := 4) (oi := _) (v := ?_) rfl (by kernel_rfl) (by kernel_rfl) (by kernel_rfl) (by kernel_rfl) (fun _ _ _ h => h) (Or.inl ⟨by rfl, ?_⟩) (by assumption) ?_
    rotate_left 1
    · intro w hSw
      (try dsimp only at hSw)
      (first | (go_simp; done) | (go_simp; with_reducible rfl))
    (try simp only [Act.put, List.getElem_toArray, List.getElem_cons_succ, List.getElem_cons_zero, List.setIfInBounds_toArray, List.set_cons_zero, List.set_cons_succ])
    refine wpAnyF_take (i := 5) (oi := _) (v := ?_) rfl (by kernel_rfl) (by kernel_rfl) (by kernel_rfl) (by kernel_rfl) (fun _ _ _ h => h) (Or.inl ⟨by rfl, ?_⟩) (by assumption) ?_
    rotate_left 1
    · intro w hSw
      (try dsimp only at hSw)
      (first | (go_simp; done) | (go_simp; with_reducible rfl))
    (try simp only [Act.put, List.getElem_toArray, List.getElem_cons_succ, List.getElem_cons_zero, List.setIfInBounds_toArray, List.set_cons_zero, List.set_cons_succ])
    refine wpAnyF_done (by kernel_rfl) ?_ _
    have HGR : Hid (w.heap.size ≤ gr) := Lib.hid (hgr)
    have HKS : Hid (w.heap.size ≤ w2.heap.size) := Lib.hid (hb2.size)
    have HP0 : Hid (PInv w b w2.heap.size gr (.int .i64 0) (w2.alloc (.cells (zrow 16) OT))) := Lib.hid ⟨0, rfl, by omega, by
      rw [mixP_0]
      exact OwnP_base (zrow_own w2 OT 16 (by omega)) hb2.size, hst.below (bel_alloc w2 _), hHeld2⟩
    clear hst hgr hb2
    clear HMK HOF
    go_wp2
    go_loopw [16] (fun i W => PInv w b w2.heap.size gr i W) (fun i _ => (16 - intOf i).toNat)
    case atStart => exact HP0.out
    case round =>
      clear HP0
      obtain ⟨k, rfl, hk, ho, hst, hb⟩ := hrel
      have HO := Lib.hid ho
      have HST := Lib.hid hst
      have HB := Lib.hid hb
      clear ho hst hb
      by_cases hlt : k < 16
      · have HC := Lib.hid (HREAD.out gr k wr hlt HST.out)
        have HSTEP := Lib.hid (mixP_step b hlt)
        generalize rdP (b.drop (16 * k)) = q at *
        go_wp2_with fail
        refine HC.out.mono ?_
        rintro e w3 ⟨rfl, hst3, hg3⟩
        obtain ⟨hne, _⟩ := row_far (i := 0) (p := pz) (mixP_len b k) HO.out HST.out
        have ho3 := HO.out.keep (W' := w3) (fun g hg => by
          have hgs : w2.heap.size = g := by simpa [Value.ownBlock] using hg
          subst hgs
          exact hg3.block _ (HO.out.lt _ hg).2 (by intro h; injection h with h; exact hne h))
        have hb3 : Below w.heap.size w w3 := HB.out.trans ((Below.refl _ _).grown hg3 HB.out.size (fun g hg => by
          injection hg with hg; subst hg; exact HGR.out))
        have HTH := Lib.hid (ho3.there (i := k) (by rw [mixP_len]; exact hlt))
        have HPU : Hid (OwnP (w3.setCells w2.heap.size (k * 5) q.cs) w.heap.size OT (.slice (some ⟨w2.heap.size, 0, none⟩) 16 16) (mixP b (k + 1))) := Lib.hid (by
          have := ho3.put (i := k) (by rw [mixP_len]; exact hlt) q
          rw [HSTEP.out] at this
          exact this)
        have HSP := Lib.hid (row_far (i := k) (p := q) (mixP_len b k) ho3 hst3).2
        have HBN : Hid (Below w.heap.size w (w3.setCells w2.heap.size (k * 5) q.cs)) := Lib.hid (below_setCells _ _ _ hb3 HKS.out)
        clear hst3 hg3 hne ho3 hb3
        go_wp2_with (with_reducible refine wpList_storeP sz5_o rfl (.tmp 23) (.tmp 22) rfl w2.heap.size (k * 5) q rfl rfl HTH.out ?_)
        go_roundw
        case rel => exact ⟨k + 1, by go_num, by omega, HPU.out, HSP.out, HBN.out⟩
        case measure => simp [intOf]; omega
      · obtain rfl : k = 16 := by omega
        obtain ⟨A9, c9, hv9, hps, _⟩ := HO.out.ps
        rw [mixP_len] at hv9 hps
        have HV9 := Lib.hid hv9
        cases hv9
        have HPS := Lib.hid hps
        have HAL := Lib.hid (all_may _ _ _ _ wr hps (HSZ.out.below HB.out))
        clear hps
        obtain ⟨x, hx⟩ : ∃ x, x = (mixP b 16).all oneP := ⟨_, rfl⟩
        rw [← hx] at HAL
        have HX := Lib.hid hx
        clear hx
        go_wp2_with fail
        refine HAL.out.mono ?_
        rintro e w4 ⟨rfl, hb4⟩
        have HPS4 := Lib.hid (HPS.out.below hb4)
        have HB4 := Lib.hid (HB.out.trans (hb4.mono HB.out.size))
        clear hb4
        cases x
        · go_wp2
          go_ret2
          exact ⟨HB4.out, .inl ⟨HX.out.symm, rfl⟩⟩
        · go_wp2
          go_ret2
          exact ⟨HB4.out, .inr ⟨HX.out.symm, _, _, rfl, HPS4.out⟩⟩
end Go.Proofs.YtooahpfeamobcaaDoor
