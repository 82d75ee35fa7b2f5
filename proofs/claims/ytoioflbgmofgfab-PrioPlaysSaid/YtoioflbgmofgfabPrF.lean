/-
  A queue: Push of things, All.
-/
import Derived.Test.YtoioflbgmofgfabPrE
import Derived.Test.YtoioflbgmofgfabHeldG
import Derived.Test.YtoioflbgmofgfabPrG
namespace Go.Proofs.Ytoioflbgmofgfab
open Go.RowKit Go
set_option linter.unusedVariables false
set_option linter.unusedSimpArgs false
/-- a slice of things that reads as l -/
structure TS (W : World) (A : Option Addr) (n c : Nat) (l : List (Int × Int)) : Prop where
  len : l.length = n
  cap : n ≤ c
  capm : c ≤ 9223372036854775807
  at_ : 0 < n → ∃ b o, A = some ⟨b, o, none⟩ ∧ b < W.heap.size ∧ ∀ i, i < n → W.cell? ⟨b, o + i * 2, none⟩ = some (.int .i64 (l.getD i (0, 0)).1) ∧ W.cell? ⟨b, o + i * 2 + 1, none⟩ = some (.int .i64 (l.getD i (0, 0)).2)
theorem TS.turns {W W' : World} {n c : Nat} {A : Option Addr} {l : List (Int × Int)} {S : Nat → Prop} (h : TS W A n c l) (ht : Turns S W W') (hs : ∀ ad, A = some ad → ¬ S ad.block) : TS W' A n c l :=
  ⟨h.len, h.cap, h.capm, fun hn => by
    obtain ⟨b, o, h1, h3, h4⟩ := h.at_ hn
    have e := ht.block b h3 (hs ⟨b, o, none⟩ h1)
    exact ⟨b, o, h1, Nat.lt_of_lt_of_le h3 ht.size, fun i hi => ⟨(World.cell?_of_block (a := ⟨b, o + i * 2, none⟩) e).trans (h4 i hi).1, (World.cell?_of_block (a := ⟨b, o + i * 2 + 1, none⟩) e).trans (h4 i hi).2⟩⟩⟩
theorem TS.below {W W' : World} {n c : Nat} {A : Option Addr} {l : List (Int × Int)} (h : TS W A n c l) (hb : Below W.heap.size W W') : TS W' A n c l := h.turns (S := fun _ => False) (Turns.of_below hb) (fun _ _ q => q)
theorem pushF_len (es : List En) (e : En) : (pushF es e).length = es.length + 1 := by unfold pushF; rw [upF_len]; simp
def PuR (g t : Nat) (v : Value) (es : List En) (l : List (Int × Int)) (w0 : World) (i : Value) (W : World) : Prop :=
  ∃ (k : Nat) (es1 : List En), i = .int .i64 (k : Int) ∧ k ≤ l.length ∧ es1.length = es.length + k ∧ pushN es1 (t + k) (l.drop k) = pushN es t l ∧ Qed w0 g v es1 (t + k) W
theorem Qed.trans {w w1 w2 : World} {g t' : Nat} {v v1 : Value} {es' : List En} (h : Turns (fun j => j = g ∨ v.ownBlock = some j) w w1) (hv : v1.ownBlock = v.ownBlock ∨ ∃ j, w.heap.size ≤ j ∧ v1.ownBlock = some j) (k : Qed w1 g v1 es' t' w2) : Qed w g v es' t' w2 := by
  obtain ⟨k1, v2, k2, k3⟩ := k
  refine ⟨h.trans k1 (fun j hj q => ?_), v2, k2, ?_⟩
  · rcases q with q | q
    · exact .inl q
    · rcases hv with hv | ⟨j', h1, h2⟩
      · exact .inr (hv ▸ q)
      · rw [h2] at q; injection q with q; omega
  · rcases k3 with k3 | ⟨j, k3, k4⟩
    · rw [k3]; exact hv
    · exact .inr ⟨j, Nat.le_trans h.size k3, k4⟩
set_option maxHeartbeats 2000000 in
set_option maxRecDepth 100000 in
theorem push_any (g t n c : Nat) (A : Option Addr) (v : Value) (es : List En) (l : List (Int × Int)) (w : World) (h : Qu w g v es t) (hs : TS w A n c l) (hA : 0 < n → ∀ ad, A = some ad → ad.block ≠ g ∧ v.ownBlock ≠ some ad.block) (hm : es.length + n ≤ 1000000000) (htm : t + n ≤ 1000000000) :
    Calls Try.prog 19 #[.pointer (some ⟨g, 0, none⟩), .slice A n c] w fun e w' => e = .returned (.tuple #[]) ∧ Qed w g v (pushN es t l) (t + n) w' := by
  have H0 := Lib.hid (noneq_any g w h.dev.less)
  have hln := hs.len
  have hcn := hs.cap
  have hcm := hs.capm
  have HST : Hid (PuR g t v es l w (.int .i64 0) w) := Lib.hid ⟨0, es, rfl, Nat.zero_le _, rfl, rfl, Qed.of_qu h⟩
  have HTS := Lib.hid hs
  have HV := Lib.hid h.own.lt
  have HA := Lib.hid hA
  clear h hs hA
  have HLN := Lib.hid hln
  clear hln
  go_enter Try.func19, Try.ntmps19
  go_wp2_with (go_at_call 34; (with_reducible refine H0.out.mono ?_); rintro e w' ⟨rfl, rfl⟩)
  go_loopw [10] (fun i W => PuR g t v es l w i W) (fun i _ => n - (intOf i).toNat)
  case atStart => exact HST.out
  case round =>
    obtain ⟨k, es1, rfl, hk, hl1, hpu, hqd⟩ := hrel
    rw [HLN.out] at hk
    obtain ⟨ht1, v1, hq1, hv1⟩ := hqd
    have HPN := Lib.hid hpu
    have HL1 := Lib.hid hl1
    have HT1 := Lib.hid ht1
    have HQ1 := Lib.hid hq1
    have HV1 := Lib.hid hv1
    clear hpu hl1 ht1 hq1 hv1 HST
    by_cases hlt : k < n
    · have hts := HTS.out.turns HT1.out (fun ad had q => q.elim (HA.out (by omega) ad had).1 (HA.out (by omega) ad had).2)
      obtain ⟨b, o, rfl, hbW, hcell⟩ := hts.at_ (by omega)
      obtain ⟨x, hx⟩ : ∃ x, x = l.getD k (0, 0) := ⟨_, rfl⟩
      have a := (hcell k hlt).1
      have a2 := (hcell k hlt).2
      rw [← hx] at a a2
      have HX := Lib.hid hx
      have hgl := HQ1.out.dev.lt
      have htn := HQ1.out.dev.turn
      have hQA := HQ1.out.next ((Below.refl wr.heap.size wr).alloc (Nat.le_refl _) (.cells #[.int .i64 x.1, .int .i64 x.2] 45))
      have hal := heap_alloc_new wr (.cells #[.int .i64 x.1, .int .i64 x.2] 45)
      have HS : Hid ((fun W => W.cell? ⟨wr.heap.size, 0, none⟩ = some (.int .i64 x.1) ∧ W.cell? ⟨wr.heap.size, 1, none⟩ = some (.int .i64 x.2) ∧ W.cell? ⟨g, 2, none⟩ = some (.int .u64 ((t + k : Nat) : Int))) (wr.alloc (.cells #[.int .i64 x.1, .int .i64 x.2] 45)).drew) := Lib.hid ⟨blk_cell hal 0, blk_cell hal 1, hQA.dev.turn⟩
      have hQD : Qu (wr.alloc (.cells #[.int .i64 x.1, .int .i64 x.2] 45)).drew g v1 es1 (t + k) := ⟨hQA.dev, World.ownsRow.drew hQA.own⟩
      have HPU := Lib.hid (heappush_any g (t + k) v1 es1 ⟨x.1, x.2, t + k⟩ _ hQD (by rw [HL1.out]; omega))
      have HTA : Hid (Turns (fun j => j = g ∨ v.ownBlock = some j) w (wr.alloc (.cells #[.int .i64 x.1, .int .i64 x.2] 45)).drew) := Lib.hid (HT1.out.trans (S' := fun _ => False) (Turns.of_below (((Below.refl _ _).alloc (Nat.le_refl _) _).drew)) (fun _ _ q => q.elim))
      have hk2 : t + k < 1000000000 := by omega
      clear hx hcell hts hal hQA hQD htn
      go_wp2_with fail
      refine wp_region_F (S := (fun W => W.cell? ⟨wr.heap.size, 0, none⟩ = some (.int .i64 x.1) ∧ W.cell? ⟨wr.heap.size, 1, none⟩ = some (.int .i64 x.2) ∧ W.cell? ⟨g, 2, none⟩ = some (.int .u64 ((t + k : Nat) : Int)))) [11] (by kernel_rfl) HS.out (fun hHeld => ?_)
      refine wpAnyG_take (i := 0) (oi := _) (v := ?_) rfl (by kernel_rfl) (by kernel_rfl) (by kernel_rfl) (by kernel_rfl) (by kernel_rfl) (fun _ _ _ h => h) (Or.inl ⟨by rfl, ?_⟩) (by assumption) ?_
      rotate_left 1
      · intro w hSw
        (try dsimp only at hSw)
        (first | (go_simp; done) | (go_simp; with_reducible rfl))
      (try simp only [Act.put, List.getElem_toArray, List.getElem_cons_succ, List.getElem_cons_zero, List.setIfInBounds_toArray, List.set_cons_zero, List.set_cons_succ])
      refine wpAnyG_take (i := 1) (oi := _) (v := ?_) rfl (by kernel_rfl) (by kernel_rfl) (by kernel_rfl) (by kernel_rfl) (by kernel_rfl) (fun _ _ _ h => h) (Or.inl ⟨by rfl, ?_⟩) (by assumption) ?_
      rotate_left 1
      · intro w hSw
        (try dsimp only at hSw)
        (first | (go_simp; done) | (go_simp; with_reducible rfl))
      (try simp only [Act.put, List.getElem_toArray, List.getElem_cons_succ, List.getElem_cons_zero, List.setIfInBounds_toArray, List.set_cons_zero, List.set_cons_succ])
      refine wpAnyG_take (i := 2) (oi := _) (v := ?_) rfl (by kernel_rfl) (by kernel_rfl) (by kernel_rfl) (by kernel_rfl) (by kernel_rfl) (fun _ _ _ h => h) (Or.inl ⟨by rfl, ?_⟩) (by assumption) ?_
      rotate_left 1
      · intro w hSw
        (try dsimp only at hSw)
        (first | (go_simp; done) | (go_simp; with_reducible rfl))
      (try simp only [Act.put, List.getElem_toArray, List.getElem_cons_succ, List.getElem_cons_zero, List.setIfInBounds_toArray, List.set_cons_zero, List.set_cons_succ])
      refine wpAnyG_take (i := 3) (oi := _) (v := ?_) rfl (by kernel_rfl) (by kernel_rfl) (by kernel_rfl) (by kernel_rfl) (by kernel_rfl) (fun _ _ _ h => h) (Or.inl ⟨by rfl, ?_⟩) (by assumption) ?_
      rotate_left 1
      · intro w hSw
        (try dsimp only at hSw)
        (first | (go_simp; done) | (go_simp; with_reducible rfl))
      (try simp only [Act.put, List.getElem_toArray, List.getElem_cons_succ, List.getElem_cons_zero, List.setIfInBounds_toArray, List.set_cons_zero, List.set_cons_succ])
      refine wpAnyG_take (i := 4) (oi := _) (v := ?_) rfl (by kernel_rfl) (by kernel_rfl) (by kernel_rfl) (by kernel_rfl) (by kernel_rfl) (fun _ _ _ h => h) (Or.inl ⟨by rfl, ?_⟩) (by assumption) ?_
      rotate_left 1
      · intro w hSw
        (try dsimp only at hSw)
        (first | (go_simp; done) | (go_simp; with_reducible rfl))
      (try simp only [Act.put, List.getElem_toArray, List.getElem_cons_succ, List.getElem_cons_zero, List.setIfInBounds_toArray, List.set_cons_zero, List.set_cons_succ])
      refine wpAnyG_take (i := 5) (oi := _) (v := ?_) rfl (by kernel_rfl) (by kernel_rfl) (by kernel_rfl) (by kernel_rfl) (by kernel_rfl) (fun _ _ _ h => h) (Or.inl ⟨by rfl, ?_⟩) (by assumption) ?_
      rotate_left 1
      · intro w hSw
        (try dsimp only at hSw)
        (first | (go_simp; done) | (go_simp; with_reducible rfl))
      (try simp only [Act.put, List.getElem_toArray, List.getElem_cons_succ, List.getElem_cons_zero, List.setIfInBounds_toArray, List.set_cons_zero, List.set_cons_succ])
      refine wpAnyG_take (i := 6) (oi := _) (v := ?_) rfl (by kernel_rfl) (by kernel_rfl) (by kernel_rfl) (by kernel_rfl) (by kernel_rfl) (fun _ _ _ h => h) (Or.inl ⟨by rfl, ?_⟩) (by assumption) ?_
      rotate_left 1
      · intro w hSw
        (try dsimp only at hSw)
        (first | (go_simp; done) | (go_simp; with_reducible rfl))
      (try simp only [Act.put, List.getElem_toArray, List.getElem_cons_succ, List.getElem_cons_zero, List.setIfInBounds_toArray, List.set_cons_zero, List.set_cons_succ])
      refine wpAnyG_take (i := 7) (oi := _) (v := ?_) rfl (by kernel_rfl) (by kernel_rfl) (by kernel_rfl) (by kernel_rfl) (by kernel_rfl) (fun _ _ _ h => h) (Or.inl ⟨by rfl, ?_⟩) (by assumption) ?_
      rotate_left 1
      · intro w hSw
        (try dsimp only at hSw)
        (first | (go_simp; done) | (go_simp; with_reducible rfl))
      (try simp only [Act.put, List.getElem_toArray, List.getElem_cons_succ, List.getElem_cons_zero, List.setIfInBounds_toArray, List.set_cons_zero, List.set_cons_succ])
      refine wpAnyG_take (i := 8) (oi := _) (v := ?_) rfl (by kernel_rfl) (by kernel_rfl) (by kernel_rfl) (by kernel_rfl) (by kernel_rfl) (fun _ _ _ h => h) (Or.inl ⟨by rfl, ?_⟩) (by assumption) ?_
      rotate_left 1
      · intro w hSw
        (try dsimp only at hSw)
        (first | (go_simp; done) | (go_simp; with_reducible rfl))
      (try simp only [Act.put, List.getElem_toArray, List.getElem_cons_succ, List.getElem_cons_zero, List.setIfInBounds_toArray, List.set_cons_zero, List.set_cons_succ])
      refine wpAnyG_take (i := 9) (oi := _) (v := ?_) rfl (by kernel_rfl) (by kernel_rfl) (by kernel_rfl) (by kernel_rfl) (by kernel_rfl) (fun _ _ _ h => h) (Or.inl ⟨by rfl, ?_⟩) (by assumption) ?_
      rotate_left 1
      · intro w hSw
        (try dsimp only at hSw)
        (first | (go_simp; done) | (go_simp; with_reducible rfl))
      (try simp only [Act.put, List.getElem_toArray, List.getElem_cons_succ, List.getElem_cons_zero, List.setIfInBounds_toArray, List.set_cons_zero, List.set_cons_succ])
      refine wpAnyG_take (i := 10) (oi := _) (v := ?_) rfl (by kernel_rfl) (by kernel_rfl) (by kernel_rfl) (by kernel_rfl) (by kernel_rfl) (fun _ _ _ h => h) (Or.inl ⟨by rfl, ?_⟩) (by assumption) ?_
      rotate_left 1
      · intro w hSw
        (try dsimp only at hSw)
        (first | (go_simp; done) | (go_simp; with_reducible rfl))
      (try simp only [Act.put, List.getElem_toArray, List.getElem_cons_succ, List.getElem_cons_zero, List.setIfInBounds_toArray, List.set_cons_zero, List.set_cons_succ])
      refine wpAnyF_ready (rs := [11]) (by kernel_rfl) (by simp) ?_
      refine AllReadyF.last (o := _) rfl (by rfl) (fun K hK => ?_) AllReadyF.nil
      go_simp
      go_at_call 35
      refine HPU.out.mono ?_
      rintro en w2 ⟨rfl, hq2⟩
      have HQ2 := Lib.hid hq2
      clear hq2
      refine hK.out _ _ ?_
      clear hK K
      (try simp only [Act.put, List.getElem_toArray, List.getElem_cons_succ, List.getElem_cons_zero, List.setIfInBounds_toArray, List.set_cons_zero, List.set_cons_succ])
      refine wpAnyF_done (by kernel_rfl) ?_ _
      obtain ⟨ht2, v2, hq2, hv2⟩ := HQ2.out
      have k2 := hq2.dev.turn
      have f2 := hq2.dev.free 2
      have hgl2 := hq2.dev.lt
      have HE : Hid (Qed w g v (pushF es1 ⟨x.1, x.2, t + k⟩) (t + (k + 1)) (w2.setCell ⟨g, 2, none⟩ (.int .u64 ((t + k : Nat) + 1 : Int)))) := Lib.hid (Qed.trans HTA.out HV1.out ⟨ht2.trans (S' := fun j => j = g) (Turns.set _ _ rfl) (fun j _ q => .inl q), v2, ⟨by
        have := blk_set hq2.dev 2 (.int .u64 ((t + k : Nat) + 1 : Int))
        unfold QuB
        rw [this]
        simp [Nat.add_assoc]; omega, hq2.own.keep fun q hq => Below.heap_setCell _ _ _ _ (by have := (hq2.own.lt q hq).1; show q ≠ g; omega)⟩, hv2⟩)
      clear ht2 hq2 hv2 hHeld
      go_wp2_with fail
      go_roundw
      case rel =>
        refine ⟨k + 1, _, by go_num, by rw [HLN.out]; omega, by rw [pushF_len, HL1.out]; omega, ?_, HE.out⟩
        rw [← HPN.out]
        have hd : l.drop k = x :: l.drop (k + 1) := by
          rw [List.drop_eq_getElem_cons (by rw [HLN.out]; exact hlt), HX.out, List.getD_eq_getElem?_getD, List.getElem?_eq_getElem (by rw [HLN.out]; exact hlt)]; rfl
        rw [hd]; rfl
      case measure => simp [intOf]; omega
    · obtain rfl : k = n := by omega
      go_wp2_with fail
      go_end0
      refine ⟨rfl, ?_⟩
      rw [← HPN.out, List.drop_of_length_le (by rw [HLN.out]; exact Nat.le_refl _)]
      exact ⟨HT1.out, v1, HQ1.out, HV1.out⟩
def flatT (xs : List (Int × Int)) : List Value := xs.flatMap fun p => [.int .i64 p.1, .int .i64 p.2]
theorem flatT_len (xs : List (Int × Int)) : (flatT xs).length = xs.length * 2 := by
  induction xs with
  | nil => rfl
  | cons e r ih => simp only [flatT, List.flatMap_cons, List.length_append, List.length_cons, List.length_nil] at *; omega
theorem flatT_get (xs : List (Int × Int)) : ∀ i, i < xs.length → (flatT xs)[i * 2]? = some (.int .i64 (xs.getD i (0, 0)).1) ∧ (flatT xs)[i * 2 + 1]? = some (.int .i64 (xs.getD i (0, 0)).2) := by
  induction xs with
  | nil => intro i h; simp at h
  | cons e r ih =>
    intro i hi
    have e1 : flatT (e :: r) = [.int .i64 e.1, .int .i64 e.2] ++ flatT r := rfl
    rw [e1]
    cases i with
    | zero => exact ⟨rfl, rfl⟩
    | succ i =>
      have h3 : ([.int .i64 e.1, .int .i64 e.2] : List Value).length = 2 := rfl
      have := ih i (by simpa using hi)
      rw [List.getElem?_append_right (by omega), List.getElem?_append_right (by omega), h3, show (i + 1) * 2 - 2 = i * 2 by omega, show (i + 1) * 2 + 1 - 2 = i * 2 + 1 by omega]
      exact this
theorem flatT_one (xs : List (Int × Int)) : ∀ u ∈ flatT xs, u.oneCell' = true := by
  intro u hu
  obtain ⟨p, _, hp⟩ := List.mem_flatMap.1 hu
  simp at hp
  rcases hp with rfl | rfl <;> rfl
theorem flatT_snoc (xs : List (Int × Int)) (p : Int × Int) : flatT (xs ++ [p]) = flatT xs ++ [.int .i64 p.1, .int .i64 p.2] := by simp [flatT]
abbrev ThT : TypeId := 45
/-- a row of things of the call's own -/
def OwnT (W : World) (B : Nat) (v : Value) (xs : List (Int × Int)) : Prop := W.ownsRow B ThT 2 v xs.length (flatT xs)
theorem OwnT.keep {W W' : World} {B : Nat} {v : Value} {es : List (Int × Int)} (h : OwnT W B v es) (hk : ∀ g, v.ownBlock = some g → W'.heap[g]? = W.heap[g]?) : OwnT W' B v es := by
  obtain ⟨h1, h2⟩ := h
  refine ⟨h1, ?_⟩
  rcases h2 with h2 | ⟨g, cap, cur, hv, hg, hh, hr⟩
  · exact .inl h2
  · exact .inr ⟨g, cap, cur, hv, hg, (hk g (by rw [hv]; rfl)).trans hh, hr⟩
theorem OwnT.lt {W : World} {B : Nat} {v : Value} {es : List (Int × Int)} (h : OwnT W B v es) : ∀ k, v.ownBlock = some k → B ≤ k ∧ k < W.heap.size := World.ownsRow.lt h
theorem OwnT.ts {W : World} {B : Nat} {v : Value} {xs : List (Int × Int)} (h : OwnT W B v xs) : ∃ A c, v = .slice A xs.length c ∧ TS W A xs.length c xs ∧ ∀ ad, A = some ad → B ≤ ad.block := by
  have hc := fun g (hg : v.ownBlock = some g) => World.ownsRow.cells h hg
  obtain ⟨h1, ⟨hv, h0⟩ | ⟨g, cap, cur, hv, hg, hh, hn, hm, _⟩⟩ := h
  · refine ⟨none, 0, by rw [hv, h0], ⟨rfl, by omega, by omega, fun q => by omega⟩, fun _ q => by cases q⟩
  · refine ⟨_, cap, hv, ⟨rfl, hn, by unfold maxLen at hm; omega, fun q => ⟨g, 0, rfl, blk_lt hh, fun i hi => ?_⟩⟩, fun ad q => by cases q; exact hg⟩
    have h2 := flatT_get xs i hi
    have := hc g (by rw [hv]; rfl)
    have a := this _ _ h2.1
    have b := this _ _ h2.2
    rw [Addr.add_mid] at a b
    exact ⟨a, b⟩
theorem zero_th : (Try.prog.info? ThT).map (fun i => (i.zero, i.size, i.bytes)) = some (some (.agg #[.int .i64 0, .int .i64 0]), 2, 16) := by kernel_rfl
/-- what k Pops give -/
def popsL : Nat → List En → List (Int × Int)
  | 0, _ => []
  | k + 1, es => ((popE es).n, (popE es).m) :: popsL k (popF es)
def restL : Nat → List En → List En
  | 0, es => es
  | k + 1, es => restL k (popF es)
theorem popsL_snoc (k : Nat) : ∀ es, popsL (k + 1) es = popsL k es ++ [((popE (restL k es)).n, (popE (restL k es)).m)] := by
  induction k with
  | zero => intro es; rfl
  | succ k ih => intro es; show _ :: popsL (k + 1) (popF es) = _; rw [ih]; rfl
theorem restL_succ (k : Nat) : ∀ es, restL (k + 1) es = popF (restL k es) := by
  induction k with
  | zero => intro es; rfl
  | succ k ih => intro es; show restL (k + 1) (popF es) = _; rw [ih]; rfl
theorem popF_len (es : List En) : (popF es).length = es.length - 1 := by
  unfold popF
  rcases Nat.eq_zero_or_pos es.length with h | h
  · rw [List.length_take]; omega
  · rw [List.length_take, (dnF_props _ (sw es 0 (es.length - 1)) 0 (es.length - 1) (Nat.le_refl _) (by rw [sw_len]; omega) (by rw [sw_len]; omega)).1, sw_len]; omega
theorem restL_len (k : Nat) : ∀ es, (restL k es).length = es.length - k := by
  induction k with
  | zero => intro es; rfl
  | succ k ih => intro es; rw [restL_succ, popF_len, ih]; omega
theorem popsL_len (k : Nat) : ∀ es, (popsL k es).length = k := by
  induction k with
  | zero => intro es; rfl
  | succ k ih => intro es; simp [popsL, ih]
def AllR (g t : Nat) (v : Value) (es : List En) (w0 : World) (o : Value) (W : World) : Prop :=
  ∃ (k : Nat) (v1 : Value), k ≤ es.length ∧ Turns (fun j => j = g ∨ v.ownBlock = some j) w0 W ∧ Qu W g v1 (restL k es) t ∧ (v1.ownBlock = v.ownBlock ∨ ∃ j, w0.heap.size ≤ j ∧ v1.ownBlock = some j) ∧ OwnT W w0.heap.size o (popsL k es) ∧
    (∀ j, o.ownBlock = some j → v1.ownBlock ≠ some j)
def AllE (w : World) (g t : Nat) (v : Value) (es : List En) (e : Ending) (w' : World) : Prop :=
  ∃ A c, e = .returned (.slice A es.length c) ∧ TS w' A es.length c (popsL es.length es) ∧ (∀ ad, A = some ad → w.heap.size ≤ ad.block) ∧ Qed w g v [] t w'
set_option maxHeartbeats 2000000 in
set_option maxRecDepth 100000 in
theorem all_any (g t : Nat) (v : Value) (es : List En) (w : World) (h : Qu w g v es t) (hm : es.length ≤ 1000000000) :
    Calls Try.prog 23 #[.pointer (some ⟨g, 0, none⟩)] w (AllE w g t v es) := by
  have HLN := Lib.hid (qlen_any g t v es w h)
  have H0 := Lib.hid h
  obtain ⟨i0, hi0, hz0, hz1, hz2⟩ := info_parts zero_th
  clear h
  have HMK : Hid (∀ w', w'.ownsRow w.heap.size ThT 2 (.slice (some ⟨w.heap.size, 0, none⟩) 0 es.length) 0 [] → w.grownBy w' none → AllR g t v es w (.slice (some ⟨w.heap.size, 0, none⟩) 0 es.length) w') := Lib.hid (fun w' h1 h2 => by
    have hb : Below w.heap.size w w' := ⟨h2.os, h2.tape, h2.output, h2.size, fun k hk => h2.block k hk (by simp)⟩
    refine ⟨0, v, Nat.zero_le _, Turns.of_below hb, H0.out.next hb, .inl rfl, h1, fun j hj q => ?_⟩
    injection hj with hj
    have := (H0.out.own.lt j q).2
    subst hj
    exact absurd this (Nat.lt_irrefl _))
  obtain ⟨n, hn⟩ : ∃ n, es.length = n := ⟨_, rfl⟩
  have HN := Lib.hid hn
  rw [hn] at HLN HMK hm
  clear hn
  go_enter Try.func23, Try.ntmps23
  go_wp2_with fail
  refine HLN.out.mono ?_
  rintro e w1 ⟨rfl, rfl⟩
  go_wp2_with (at_make; refine wpList_make_own _ rfl _ _ 47 rfl w.heap.size ThT i0 _ 2 Try.underlying47 hi0 hz0 hz1 _ _ _ n rfl rfl rfl (by rw [hz2]; omega) (by unfold maxLen; omega) (Nat.le_refl _) ?_)
  intro w1 hown1 hgr1
  have HST := Lib.hid (HMK.out w1 hown1 hgr1)
  clear hown1 hgr1
  go_wp2_with fail
  go_loopw [3] (fun o W => AllR g t v es w o W) (fun o _ => n - (match o with | .slice _ k _ => k | _ => 0))
  case atStart => exact HST.out
  case round =>
    obtain ⟨k, v1, hk, ht1, hq1, hv1, ho1, hne1⟩ := hrel
    rw [HN.out] at hk
    have hlo : (popsL k es).length = k := popsL_len k es
    have hlr : (restL k es).length = n - k := by rw [restL_len, HN.out]
    have HLK := Lib.hid (qlen_any g t v1 (restL k es) wr hq1)
    obtain ⟨A3, c3, rfl, hts3, hA3⟩ := ho1.ts
    rw [hlr] at HLK
    rw [hlo] at hts3
    have HO1 := Lib.hid ho1
    have HT1 := Lib.hid ht1
    have HQ1 := Lib.hid hq1
    have HV1 := Lib.hid hv1
    have HNE := Lib.hid hne1
    have HTS := Lib.hid hts3
    have HA3 := Lib.hid hA3
    rw [hlo] at HO1 HNE ⊢
    obtain ⟨m, hm1⟩ : ∃ m, n - k = m := ⟨_, rfl⟩
    rw [hm1] at HLK
    have hm2 : n = k + m := by omega
    have HM2 := Lib.hid hm2
    have HLR := Lib.hid hlr
    clear ho1 ht1 hq1 hv1 hne1 hts3 hA3 hlo hlr hm1 HST
    by_cases hlt : 0 < m
    · obtain ⟨x, hx⟩ : ∃ x, popE (restL k es) = x := ⟨_, rfl⟩
      have HTK := Lib.hid (take_any g t v1 (restL k es) wr HQ1.out (by rw [HLR.out]; omega) (by rw [HLR.out]; omega))
      unfold TakeE at HTK
      rw [hx] at HTK
      have HX := Lib.hid hx
      have hmb : m ≤ 1000000000 := by omega
      have hkb : k + 1 ≤ 1000000000 := by omega
      have hmm : n - k = m := by omega
      have HMM := Lib.hid hmm
      clear hx hm2 hmm
      go_wp2_with fail
      refine HLK.out.mono ?_
      rintro e w1' ⟨rfl, rfl⟩
      go_wp2_with fail
      refine HTK.out.mono ?_
      rintro e w2 ⟨rfl, hq2⟩
      have hob : ∀ j, (Value.slice A3 k c3).ownBlock = some j → j ≠ g ∧ j < wr.heap.size := fun j hj => ⟨fun e => by
        have h1 := (HO1.out.lt j hj).1
        have h2 := H0.out.dev.lt
        omega, (HO1.out.lt j hj).2⟩
      have ho2 : OwnT w2 w.heap.size (.slice A3 k c3) (popsL k es) := HO1.out.keep fun j hj => hq2.turns.block j (hob j hj).2 (fun q => q.elim (hob j hj).1 (HNE.out j hj))
      have hal := heap_alloc_new w2 (.cells #[.int .i64 x.n, .int .i64 x.m] ThT)
      have HOW : Hid ((w2.alloc (.cells #[.int .i64 x.n, .int .i64 x.m] ThT)).ownsRow w.heap.size ThT 2 (.slice A3 k c3) k (flatT (popsL k es))) := Lib.hid (by
        have := World.ownsRow.alloc ho2 (.cells #[.int .i64 x.n, .int .i64 x.m] ThT)
        rwa [popsL_len] at this)
      have HNW : Hid (∀ j u, ([.int .i64 x.n, .int .i64 x.m] : List Value)[j]? = some u → (w2.alloc (.cells #[.int .i64 x.n, .int .i64 x.m] ThT)).cell? ((⟨w2.heap.size, 0, none⟩ : Addr).add j) = some u) := Lib.hid (World.news_of_block (cs := #[.int .i64 x.n, .int .i64 x.m]) (t := ThT) (fr := (0, 0)) hal)
      have h02 : w.heap.size ≤ w2.heap.size := Nat.le_trans HT1.out.size hq2.turns.size
      have HSZ : Hid (w.heap.size ≤ (w2.alloc (.cells #[.int .i64 x.n, .int .i64 x.m] ThT)).heap.size) := Lib.hid (by simp; omega)
      have HSE : Hid ((w2.alloc (.cells #[.int .i64 x.n, .int .i64 x.m] ThT)).heap.size = w2.heap.size + 1) := Lib.hid (by simp)
      have HQ2 := Lib.hid hq2
      clear hq2 hob ho2 hal h02
      go_wp2_with (at_builtin; refine wpList_append_lies _ rfl (.tmp 10) (.tmp 13) 47 rfl w.heap.size ThT i0 _ 2 16 Try.underlying47 hi0 hz0 hz1 hz2 rfl (by omega) (.slice A3 k c3) k (flatT (popsL k es)) rfl HOW.out ⟨w2.heap.size, 0, none⟩ 1 1 [.int .i64 x.n, .int .i64 x.m] rfl rfl HNW.out (by intro u hu; simp at hu; rcases hu with rfl | rfl <;> rfl) (by omega) (by unfold maxLen; omega) (by omega) HSZ.out (w2.heap.size + 1) HSE.out ?_)
      intro gg cap w3 hown3 hgr3 hat3 hlt3
      have HE : Hid (AllR g t v es w (.slice (some ⟨gg, 0, none⟩) (k + 1) cap) w3) := Lib.hid (by
        have hq2 := HQ2.out
        obtain ⟨ht2, v2, hq3, hv3⟩ := hq2
        have hqa := hq3.next ((Below.refl w2.heap.size w2).alloc (Nat.le_refl _) (.cells #[.int .i64 x.n, .int .i64 x.m] ThT))
        have hold : ∀ j, (Value.slice A3 k c3).ownBlock = some j → w.heap.size ≤ j ∧ j < wr.heap.size ∧ v1.ownBlock ≠ some j := fun j hj => ⟨(HO1.out.lt j hj).1, (HO1.out.lt j hj).2, HNE.out j hj⟩
        have hg0 := H0.out.dev.lt
        have hgn : (Value.slice A3 k c3).ownBlock ≠ some g := fun q => by have := (hold g q).1; omega
        have hsz2 : w2.heap.size < (w2.alloc (.cells #[.int .i64 x.n, .int .i64 x.m] ThT)).heap.size := by simp
        have hv2n : ∀ j, v2.ownBlock = some j → (Value.slice A3 k c3).ownBlock ≠ some j := fun j hj q => by
          rcases hv3 with e | ⟨j', e1, e2⟩
          · exact (hold j q).2.2 (e ▸ hj)
          · rw [e2] at hj; injection hj with hj; have := (hold j q).2.1; omega
        have hqw3 : Qu w3 g v2 (popF (restL k es)) t := by
          refine ⟨hqa.dev.keep (hgr3.block g (by have := hqa.dev.lt; omega) (fun q => hgn q.symm)), hqa.own.keep fun j hj => hgr3.block j (hqa.own.lt j hj).2 (fun q => hv2n j hj q.symm)⟩
        refine ⟨k + 1, v2, by rw [HN.out]; have := HM2.out; omega, ?_, by rw [restL_succ]; exact hqw3, ?_, ?_, ?_⟩
        · have e1 := HT1.out.trans (S' := fun j => j = g ∨ v1.ownBlock = some j) ht2 (fun j hj q => by
            rcases q with q | q
            · exact .inl q
            · rcases HV1.out with e | ⟨j', h1, h2⟩
              · exact .inr (e ▸ q)
              · rw [h2] at q; injection q with q; omega)
          have e2 := e1.trans (S' := fun _ => False) (Turns.of_below ((Below.refl w2.heap.size w2).alloc (Nat.le_refl _) (.cells #[.int .i64 x.n, .int .i64 x.m] ThT))) (fun _ _ q => q.elim)
          exact e2.trans (S' := fun j => (Value.slice A3 k c3).ownBlock = some j) (Turns.of_grown hgr3 (fun j e => e)) (fun j hj q => by have := (hold j q).1; omega)
        · rcases hv3 with e | ⟨j, e1, e2⟩
          · rw [e]; exact HV1.out
          · exact .inr ⟨j, Nat.le_trans HT1.out.size e1, e2⟩
        · unfold OwnT
          rw [popsL_len, popsL_snoc, flatT_snoc, HX.out]
          exact hown3
        · intro j hj q
          injection hj with hj
          subst hj
          rcases hat3 with e | e
          · exact hv2n _ q e
          · have : gg < w2.heap.size := (hq3.own.lt _ q).2
            omega)
      clear hown3 hgr3 hat3 hlt3
      go_wp2_with fail
      go_roundw
      case rel => exact HE.out
      case measure => have := HM2.out; simp; omega
    · obtain rfl : m = 0 := by omega
      have HE : Hid (AllE w g t v es (.returned (.slice A3 n c3)) wr) := Lib.hid (by
        have hkn : k = n := by omega
        have hr : restL k es = [] := List.length_eq_zero_iff.mp (by rw [HLR.out]; omega)
        have hq := HQ1.out
        rw [hr] at hq
        have hts := HTS.out
        rw [hkn] at hts
        refine ⟨A3, c3, by rw [HN.out], by rw [HN.out]; exact hts, HA3.out, HT1.out, v1, hq, HV1.out⟩)
      have hkn : k = n := by omega
      subst hkn
      clear hm2
      go_wp2_with fail
      refine HLK.out.mono ?_
      rintro e w1' ⟨rfl, rfl⟩
      go_wp2_with fail
      go_ret
      exact HE.out
end Go.Proofs.Ytoioflbgmofgfab
