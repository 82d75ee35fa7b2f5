/-
  Layer 18: what stands ahead of an object is written.
-/
import Derived.Test.YtflgcddgocojpaaDoorSlE
import Derived.Test.YtflgcddgocojpaaDoorHeldG
import Derived.Deep.Cut
import Derived.Deep.RegionWith
namespace Go.Proofs.YtflgcddgocojpaaDoor
open Go.RowKit Go
set_option linter.unusedVariables false
set_option linter.unusedSimpArgs false
set_option maxHeartbeats 1000000

theorem bvals_one (l : List Nat) : ∀ v ∈ bvals l, v.oneCell' = true := by
  intro v hv; simp [bvals] at hv; obtain ⟨a, _, rfl⟩ := hv; rfl
theorem bvals_len (l : List Nat) : (bvals l).length = l.length := by simp [bvals]
theorem size_u8 : (Tryd.prog.info? 5).map (·.size) = some 1 := by kernel_rfl
theorem bs_reads {w : World} {B n c k : Nat} {A : Option Addr} {l : List Nat} (h : BS w B A n c l) (hk : k ≤ n) (h0 : 0 < k) : ∃ ad, A = some ad ∧ ∀ j v, (bvals (l.take k))[j]? = some v → w.cell? (ad.add j) = some v := by
  obtain ⟨b, o, rfl, hb, hc⟩ := h.at_ (by omega)
  have hl := h.len
  refine ⟨_, rfl, fun j v hj => ?_⟩
  have hjl : j < (bvals (l.take k)).length := by
    rcases Nat.lt_or_ge j (bvals (l.take k)).length with h | h
    · exact h
    · rw [List.getElem?_eq_none h] at hj; cases hj
  rw [bvals_len, List.length_take] at hjl
  rw [Go.WideShapes.add_plain, hc j (by omega), ← hj]
  simp [bvals, List.getElem?_map, List.getElem?_take_of_lt (show j < k by omega), List.getElem?_eq_getElem (show j < l.length by omega), List.getD]
theorem step_copy_only {P : Program} {ops : Array Oper} {o : Oper} {a : Act} {w : World} {K : Act → World → Prop} {Q : Exit → Act → World → Prop} {E : Prop} (hgd : o.guard = none) (d s : Operand) (dT sT : TypeId)
    (ho : o.op = .call { callee := .builtin .copy, args := #[d, s], argTypes := #[dT, sT] }) (elem : TypeId) (hu : P.underlying dT = some (.slice elem)) (hsz : (P.info? elem).map (·.size) = some 1)
    (dp sp : Option Addr) (dLen dCap sLen sCap : Nat) (hd : a.eval d = .slice dp dLen dCap) (hs : a.eval s = .slice sp sLen sCap)
    (g off : Nat) (cur : List Value) (t : TypeId) (hg : w.heap[g]? = some (.cells cur.toArray t (0, 0))) (cs : List Value) (hn : cs.length = Nat.min sLen dLen)
    (hpos : 0 < cs.length → dp = some ⟨g, off, none⟩ ∧ ∃ ad, sp = some ad ∧ ∀ j v, cs[j]? = some v → w.cell? (ad.add j) = some v)
    (hfit : off + cs.length ≤ cur.length) (h1 : ∀ v ∈ cs, v.oneCell' = true)
    (h : ∀ w', Hid (w'.heap[g]? = some (.cells (splice cur off cs).toArray t (0, 0))) → w.grownBy w' (some g) → K (a.put o.dst (goInt cs.length)) w') :
    if Region.wanted o (yielded ops a.tmps) = true then Oper.wp P o a w K Q else E := by
  have hw : Region.wanted o (yielded ops a.tmps) = true := by simp [Region.wanted, hgd]
  rw [if_pos hw]
  by_cases h0 : cs.length = 0
  · obtain rfl : cs = [] := List.eq_nil_of_length_eq_zero h0
    have hrun := run_copy_none (P := P) w dT sT o.type elem dp sp dLen dCap sLen sCap hu hsz (by simpa using hn.symm)
    unfold Oper.wp
    simp [execOp, ho, resolve, invoke, builtin, hd, hs, hrun, Result.andThen]
    exact h w (show _ = _ by simpa [splice] using hg) (World.grownBy.refl w _)
  · obtain ⟨rfl, ad, rfl, hsrc⟩ := hpos (by omega)
    have hrun := run_copy_row (P := P) w dT sT o.type elem g off dLen dCap ad sLen sCap cur.toArray t cs hu hsz hg hn hsrc (by simpa using hfit) h1
    unfold Oper.wp
    simp [execOp, ho, resolve, invoke, builtin, hd, hs, hrun, Result.andThen]
    exact h _ (show _ = _ by simpa [splice] using setRow_heap w g _ _ t _ hg) (only_setRow w g _)
/-- two pieces are copied into block h -/
def named (q n s : Nat) (cur : List Value) : List Value := splice (splice cur q (bvals (putL 2 n))) (q + 2) (bvals (putL 6 s))
theorem splice_len18 {cur vs : List Value} {a : Nat} (h : a + vs.length ≤ cur.length) : (splice cur a vs).length = cur.length := by
  simp [splice]; omega
theorem name_w (h q z n s : Nat) (cur : List Value) (w : World) (hg : w.heap[h]? = some (.cells cur.toArray 5 (0, 0))) (hq : q + 8 ≤ cur.length) (hz : 16 ≤ z) (h128 : z ≤ 128) (hn : n < 256) (hs : s < 2 ^ 64) :
    Calls Tryd.prog 36 #[.slice (some ⟨h, q, none⟩) z z, .int .u64 (s : Int), .int .i64 (n : Int)] w fun e w' => e = .returned (.tuple #[]) ∧ w'.heap[h]? = some (.cells (named q n s cur).toArray 5 (0, 0)) ∧ w.grownBy w' (some h) := by
  have HP0 : Hid (∀ W, Calls Tryd.prog 47 #[.int .i64 2, .int .u64 (n : Int)] W (Gives W (putL 2 n))) := Lib.hid (fun W => put_yes 2 n (by omega) (by omega) (by omega) W)
  have HP1 : Hid (∀ W, Calls Tryd.prog 47 #[.int .i64 6, .int .u64 (s : Int)] W (Gives W (putL 6 s))) := Lib.hid (fun W => put_yes 6 s (by omega) (by omega) hs W)
  have HG := Lib.hid hg
  have HL1 : Hid ((splice cur q (bvals (putL 2 n))).length = cur.length) := Lib.hid (splice_len18 (by rw [bvals_len, putL_len]; omega))
  have HQQ := Lib.hid hq
  have hn64 : (n : Int) % 18446744073709551616 = (n : Int) := by omega
  have hz2 : ¬ z = 2 := by omega
  have h2z : (2 : Int) ≤ (z : Int) := by omega
  have h8z : (8 : Int) ≤ (z : Int) := by omega
  have hwn : IntKind.wrap .u64 (n : Int) = (n : Int) := IntWalk.u64_in _ (by omega)
  clear hg hs
  unfold Gives at HP0 HP1
  go_enter Tryd.func36, Tryd.ntmps36
  go_upto_region 0 with (fail)
  refine wp_region_F (S := (fun w' => Below w.heap.size w w')) [5] (by kernel_rfl) ((Below.refl _ _).drew) (fun hHeld => ?_)
  (try simp only [Act.put, List.getElem_toArray, List.getElem_cons_succ, List.getElem_cons_zero, List.setIfInBounds_toArray, List.set_cons_zero, List.set_cons_succ])
  refine wpAnyG_take (i := 0) (oi := _) (v := ?_) rfl (by kernel_rfl) (by kernel_rfl) (by kernel_rfl) (by kernel_rfl) (by kernel_rfl) (fun _ _ _ h => h) (Or.inl ⟨by rfl, ?_⟩) (by assumption) ?_
  rotate_left 1
  · intro w hSw
    (try dsimp only at hSw)
    (first | (go_simp; done) | (go_simp; with_reducible rfl))
  (try simp only [Act.put, List.getElem_toArray, List.getElem_cons_succ, List.getElem_cons_zero, List.setIfInBounds_toArray, List.set_cons_zero, List.set_cons_succ])
  refine wpAnyG_take (i := 1) (oi := _) (v := ?_) rfl (by kernel_rfl) (by kernel_rfl) (by kernel_rfl) (by kernel_rfl) (by kernel_rfl) (fun _ _ _ h => h) (Or.inl ⟨by rfl, ?_⟩) (by assumption) ?_
  rotate_left 1
  · intro w hSw
    (try dsimp only at hSw)
    (first | (go_simp; done) | (go_simp; with_reducible rfl))
  (try simp only [Act.put, List.getElem_toArray, List.getElem_cons_succ, List.getElem_cons_zero, List.setIfInBounds_toArray, List.set_cons_zero, List.set_cons_succ])
  refine wpAnyG_take (i := 2) (oi := _) (v := ?_) rfl (by kernel_rfl) (by kernel_rfl) (by kernel_rfl) (by kernel_rfl) (by kernel_rfl) (fun _ _ _ h => h) (Or.inl ⟨by rfl, ?_⟩) (by assumption) ?_
  rotate_left 1
  · intro w hSw
    (try dsimp only at hSw)
    (first | (go_simp; done) | (go_simp; with_reducible rfl))
  (try simp only [Act.put, List.getElem_toArray, List.getElem_cons_succ, List.getElem_cons_zero, List.setIfInBounds_toArray, List.set_cons_zero, List.set_cons_succ])
  refine wpAnyG_take (i := 3) (oi := _) (v := ?_) rfl (by kernel_rfl) (by kernel_rfl) (by kernel_rfl) (by kernel_rfl) (by kernel_rfl) (fun _ _ _ h => h) (Or.inl ⟨by rfl, ?_⟩) (by assumption) ?_
  rotate_left 1
  · intro w hSw
    (try dsimp only at hSw)
    (first | (go_simp; done) | (go_simp; with_reducible rfl))
  (try simp only [Act.put, List.getElem_toArray, List.getElem_cons_succ, List.getElem_cons_zero, List.setIfInBounds_toArray, List.set_cons_zero, List.set_cons_succ])
  refine wpAnyF_ready (rs := [4]) (by kernel_rfl) (by simp) ?_
  refine AllReadyF.cons (o := _) rfl (fun K hK => ?_) AllReadyF.nil
  go_simp
  (go_at_call 47)
  ((with_reducible refine (HP0.out _).mono ?_))
  rintro e w5 ⟨A5, c5, rfl, hb5, hx5⟩
  have HX := Lib.hid hx5
  have HB5 := Lib.hid (hHeld.trans (hb5.mono hHeld.size))
  have HG5 := Lib.hid ((HB5.out.block _ (blk_lt HG.out)).trans HG.out)
  clear hx5 hb5
  rw [show (putL 2 n).length = 2 from putL_len _ _] at HX
  refine hK.out _ _ (HB5.out) (fun hHeld4 => ?_)
  clear hK K
  (try simp only [Act.put, List.getElem_toArray, List.getElem_cons_succ, List.getElem_cons_zero, List.setIfInBounds_toArray, List.set_cons_zero, List.set_cons_succ])
  refine wpAnyF_ready (rs := [5]) (by kernel_rfl) (by simp) ?_
  refine AllReadyF.last (o := _) rfl (by rfl) (fun K hK => ?_) AllReadyF.nil
  have HRD : Hid (0 < (bvals (putL 2 n)).length → some (⟨h, q, none⟩ : Addr) = some ⟨h, q, none⟩ ∧ ∃ ad, A5 = some ad ∧ ∀ j v, (bvals (putL 2 n))[j]? = some v → w5.cell? (ad.add j) = some v) := Lib.hid (fun _ => ⟨rfl, by
    have := bs_reads HX.out (k := 2) (Nat.le_refl _) (by omega)
    rwa [List.take_of_length_le (by rw [putL_len]; omega)] at this⟩)
  have HLN : Hid ((bvals (putL 2 n)).length = 2) := Lib.hid (by rw [bvals_len, putL_len])
  refine step_copy_only rfl (.tmp 7) (.tmp 10) 63 23 rfl 5 Tryd.underlying63 size_u8 (some (⟨h, q, none⟩ : Addr)) A5 2 z 2 c5 rfl rfl h q cur 5 HG5.out (bvals (putL 2 n)) (by rw [HLN.out]; rfl) HRD.out (by rw [HLN.out]; have := HQQ.out; omega) (bvals_one _) ?_
  intro w6 hq hg6
  rw [HLN.out]
  have HQ0 := hq
  have HGG0 := Lib.hid (only_trans (below_is_only HB5.out h) hg6)
  clear hq hg6
  refine hK.out _ _ ?_
  clear hK K
  (try simp only [Act.put, List.getElem_toArray, List.getElem_cons_succ, List.getElem_cons_zero, List.setIfInBounds_toArray, List.set_cons_zero, List.set_cons_succ])
  refine wpAnyF_done (by kernel_rfl) ?_ _
  go_upto_region 1 with (fail)
  refine wp_region_F (S := (fun w' => Below w6.heap.size w6 w')) [4] (by kernel_rfl) ((Below.refl _ _).drew) (fun hHeld => ?_)
  (try simp only [Act.put, List.getElem_toArray, List.getElem_cons_succ, List.getElem_cons_zero, List.setIfInBounds_toArray, List.set_cons_zero, List.set_cons_succ])
  refine wpAnyG_take (i := 0) (oi := _) (v := ?_) rfl (by kernel_rfl) (by kernel_rfl) (by kernel_rfl) (by kernel_rfl) (by kernel_rfl) (fun _ _ _ h => h) (Or.inl ⟨by rfl, ?_⟩) (by assumption) ?_
  rotate_left 1
  · intro w hSw
    (try dsimp only at hSw)
    (first | (go_simp; done) | (go_simp; with_reducible rfl))
  (try simp only [Act.put, List.getElem_toArray, List.getElem_cons_succ, List.getElem_cons_zero, List.setIfInBounds_toArray, List.set_cons_zero, List.set_cons_succ])
  refine wpAnyG_take (i := 1) (oi := _) (v := ?_) rfl (by kernel_rfl) (by kernel_rfl) (by kernel_rfl) (by kernel_rfl) (by kernel_rfl) (fun _ _ _ h => h) (Or.inl ⟨by rfl, ?_⟩) (by assumption) ?_
  rotate_left 1
  · intro w hSw
    (try dsimp only at hSw)
    (first | (go_simp; done) | (go_simp; with_reducible rfl))
  (try simp only [Act.put, List.getElem_toArray, List.getElem_cons_succ, List.getElem_cons_zero, List.setIfInBounds_toArray, List.set_cons_zero, List.set_cons_succ])
  refine wpAnyG_take (i := 2) (oi := _) (v := ?_) rfl (by kernel_rfl) (by kernel_rfl) (by kernel_rfl) (by kernel_rfl) (by kernel_rfl) (fun _ _ _ h => h) (Or.inl ⟨by rfl, ?_⟩) (by assumption) ?_
  rotate_left 1
  · intro w hSw
    (try dsimp only at hSw)
    (first | (go_simp; done) | (go_simp; with_reducible rfl))
  (try simp only [Act.put, List.getElem_toArray, List.getElem_cons_succ, List.getElem_cons_zero, List.setIfInBounds_toArray, List.set_cons_zero, List.set_cons_succ])
  refine wpAnyF_ready (rs := [3]) (by kernel_rfl) (by simp) ?_
  refine AllReadyF.cons (o := _) rfl (fun K hK => ?_) AllReadyF.nil
  go_simp
  (go_at_call 47)
  ((with_reducible refine (HP1.out _).mono ?_))
  rintro e w5 ⟨A5, c5, rfl, hb5, hx5⟩
  have HX := Lib.hid hx5
  have HB5 := Lib.hid (hHeld.trans (hb5.mono hHeld.size))
  have HG5 := Lib.hid ((HB5.out.block _ (blk_lt HQ0.out)).trans HQ0.out)
  clear hx5 hb5
  rw [show (putL 6 s).length = 6 from putL_len _ _] at HX
  refine hK.out _ _ (HB5.out) (fun hHeld3 => ?_)
  clear hK K
  (try simp only [Act.put, List.getElem_toArray, List.getElem_cons_succ, List.getElem_cons_zero, List.setIfInBounds_toArray, List.set_cons_zero, List.set_cons_succ])
  refine wpAnyF_ready (rs := [4]) (by kernel_rfl) (by simp) ?_
  refine AllReadyF.last (o := _) rfl (by rfl) (fun K hK => ?_) AllReadyF.nil
  have HRD : Hid (0 < (bvals (putL 6 s)).length → some (⟨h, q + 2, none⟩ : Addr) = some ⟨h, (q + 2), none⟩ ∧ ∃ ad, A5 = some ad ∧ ∀ j v, (bvals (putL 6 s))[j]? = some v → w5.cell? (ad.add j) = some v) := Lib.hid (fun _ => ⟨rfl, by
    have := bs_reads HX.out (k := 6) (Nat.le_refl _) (by omega)
    rwa [List.take_of_length_le (by rw [putL_len]; omega)] at this⟩)
  have HLN : Hid ((bvals (putL 6 s)).length = 6) := Lib.hid (by rw [bvals_len, putL_len])
  refine step_copy_only rfl (.tmp 13) (.tmp 15) 63 23 rfl 5 Tryd.underlying63 size_u8 (some (⟨h, q + 2, none⟩ : Addr)) A5 6 (z - 2) 6 c5 rfl rfl h (q + 2) (splice cur q (bvals (putL 2 n))) 5 HG5.out (bvals (putL 6 s)) (by rw [HLN.out]; rfl) HRD.out (by rw [HLN.out]; rw [HL1.out]; have := HQQ.out; omega) (bvals_one _) ?_
  intro w7 hq hg6
  rw [HLN.out]
  have HQ1 := hq
  have HGG1 := Lib.hid (only_trans (below_is_only HB5.out h) hg6)
  clear hq hg6
  refine hK.out _ _ ?_
  clear hK K
  (try simp only [Act.put, List.getElem_toArray, List.getElem_cons_succ, List.getElem_cons_zero, List.setIfInBounds_toArray, List.set_cons_zero, List.set_cons_succ])
  refine wpAnyF_done (by kernel_rfl) ?_ _
  go_wp2_with fail
  go_end0
  exact ⟨rfl, HQ1.out, only_trans HGG0.out HGG1.out⟩
end Go.Proofs.YtflgcddgocojpaaDoor
