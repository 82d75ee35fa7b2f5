/-
  Joined: NvRF, NvRG, NvRH, NvRI.
-/
import Derived.Test.YthigknolpdohoaaZrE
namespace Go.Proofs.Ythigknolpdohoaa
set_option maxRecDepth 100000
section
open Go.RowKit Go
set_option linter.unusedVariables false
set_option linter.unusedSimpArgs false
set_option maxRecDepth 100000
theorem info_ract : (Try.prog.info? RaT).map (fun i => (i.zero, i.size, i.bytes)) = some (some (.agg #[.int .i64 0, .int .i64 0, .int .i64 0]), 3, 24) := by kernel_rfl
theorem wp_ractG (kd an nn : Int) {ops : Array Oper} {rest : List Oper} {o : Oper} {a : Act} {Q : Exit → Act → World → Prop} (W : World) (hgd : o.guard = none) (s x : Operand)
    (ho : o.op = .call { callee := .builtin .append, args := #[s, x], argTypes := #[54, 54] })
    (B : Nat) (v : Value) (k : Nat) (al : List Value) (hs : a.eval s = v) (hown : W.ownsRow B RaT 3 v k al)
    (B0 : Nat) (hB0 : W.heap.size = B0) (hx : a.eval x = .slice (some ⟨B0, 0, none⟩) 1 1) (hn : k < 100000) (hB : B ≤ W.heap.size)
    (h : ∀ gg cap w', w'.ownsRow B RaT 3 (.slice (some ⟨gg, 0, none⟩) (k + 1) cap) (k + 1) (al ++ actV kd an nn) → (W.alloc (.cells #[.int .i64 kd, .int .i64 an, .int .i64 nn] RaT)).grownBy w' v.ownBlock → (v.ownBlock = some gg ∨ gg = W.heap.size + 1) → wpList Try.prog ops Q rest (a.put o.dst (.slice (some ⟨gg, 0, none⟩) (k + 1) cap)) w') :
    wpList Try.prog ops Q (o :: rest) a (W.alloc (.cells #[.int .i64 kd, .int .i64 an, .int .i64 nn] RaT)) := by
  subst hB0
  obtain ⟨i0, hi, hz0, hz1, hz2⟩ := info_parts info_ract
  refine wpList_append_lies _ hgd s x 54 ho B RaT i0 (.agg #[.int .i64 0, .int .i64 0, .int .i64 0]) 3 24 Try.underlying54 hi hz0 hz1 hz2 rfl (by decide) v k al hs (World.ownsRow.alloc hown _) ⟨W.heap.size, 0, none⟩ 1 1
    (actV kd an nn) hx rfl ?_ ?_ (by decide) (by unfold maxLen; omega) (by omega) (by simp; omega) (W.heap.size + 1) (by simp) ?_
  · intro j u hj
    match j, hj with
    | 0, hj => simp [actV] at hj; subst hj; simp [Addr.add]
    | 1, hj => simp [actV] at hj; subst hj; simp [Addr.add]
    | 2, hj => simp [actV] at hj; subst hj; simp [Addr.add]
  · intro u hu
    simp [actV] at hu
    rcases hu with rfl | rfl | rfl <;> rfl
  · intro gg cap w1 hown' hg hat _
    exact h gg cap w1 hown' hg hat
section
variable {W W' : World} {r : RI} {L N M : Nat} {kv av av' : Value} {pl : List Nat} {off : Bool} {u k : Nat} {al al' : List Value} {la no : List Nat} {pe ma : List Bool} {s : DSt}
theorem RW.apart (h : RW W r N M kv av pl off u k al la no pe ma) {j : Nat} (ha : av.ownBlock = some j) : kv.ownBlock ≠ some j := fun e => by
  obtain ⟨cs, h1⟩ := own_rowsJ h.own j ha
  obtain ⟨cs2, h2⟩ := own_rowsJ h.pk j e
  rw [h1] at h2
  have h4 := Option.some.inj h2
  injection h4 with _ h5 _
  exact absurd h5 (by decide)
theorem RW.down (h : RW W r N M kv av pl off u k al la no pe ma) (hg : W.grownBy W' av.ownBlock) (ho : W'.ownsRow (r.g + 1) RaT 3 av' (k + 1) al') : RW (W'.setCell ⟨r.g, 7, none⟩ av') r N M kv av' pl off u (k + 1) al' la no pe ma := by
  have hlt := h.own.lt
  have h1 := h.lt
  have hgl := blk_lt h.dev
  have far : ∀ b, b ≤ r.g → W'.heap[b]? = W.heap[b]? := fun b hb => hg.block b (by omega) (fun e => by have := (hlt b e.symm).1; omega)
  have fs : ∀ b, b ≠ r.g → (W'.setCell ⟨r.g, 7, none⟩ av').heap[b]? = W'.heap[b]? := fun b hb => Below.heap_setCell _ _ _ _ (by show b ≠ r.g; exact hb)
  have hd : W'.heap[r.g]? = some (.cells (rdC r N M off u kv av) RdT (0, 0)) := (far r.g (Nat.le_refl _)).trans h.dev
  refine ⟨by rw [blk_set hd 7 av']; rfl, owns_far ho fun j hj => fs j (by have := (ho.lt j hj).1; omega), h.pk.keep fun j hj => ?_, (fs _ (by omega)).trans ((far _ (by omega)).trans h.hl), (fs _ (by omega)).trans ((far _ (by omega)).trans h.hn), (fs _ (by omega)).trans ((far _ (by omega)).trans h.hp), (fs _ (by omega)).trans ((far _ (by omega)).trans h.hm), h.lt, h.ne, h.ln, h.by_, h.sz⟩
  have hp := h.pk.lt hj
  refine (fs j (by omega)).trans (hg.block j hp.2 (fun e => h.apart e.symm hj))
end
/-- what an act leaves that is taken down -/
theorem ract_end {w V w1 : World} {r : RI} {L N M gg cap u' : Nat} {kv av : Value} {pl : List Nat} {s : DSt} (kd an nn : Int) (h : RV w r L N M kv av pl s) (hs : V.heap.size = w.heap.size) (hq : RW V r N M kv av pl s.off u' s.k s.al (lastsQ s.ws) (nowsL s.ws) (s.ws.map (·.pend)) (s.ws.map (·.mark))) (hu' : u' = s.u - 1) (ht : Turns (fun j => j = r.g) w V)
    (hown : w1.ownsRow (r.g + 1) RaT 3 (.slice (some ⟨gg, 0, none⟩) (s.k + 1) cap) (s.k + 1) (s.al ++ actV kd an nn)) (hg : (V.alloc (.cells #[.int .i64 kd, .int .i64 an, .int .i64 nn] RaT)).grownBy w1 av.ownBlock) (hat : av.ownBlock = some gg ∨ gg = V.heap.size + 1) :
    RTo w r L N M kv av (.returned (.int .i64 0)) (s.done kd an nn s.ws) (.returned (.int .i64 0)) (w1.setCell ⟨r.g, 7, none⟩ (.slice (some ⟨gg, 0, none⟩) (s.k + 1) cap)) := by
  have b1 : Below V.heap.size V (V.alloc (.cells #[.int .i64 kd, .int .i64 an, .int .i64 nn] RaT)) := (Below.refl _ _).alloc (Nat.le_refl _) _
  have hd := (hq.next b1).down hg hown
  rw [hu'] at hd
  refine ⟨rfl, kv, .slice (some ⟨gg, 0, none⟩) (s.k + 1) cap, pl, ⟨hd, h.ok, h.len, h.L1, h.sz, fun q => h.pu (by have : 0 < s.u - 1 := q; omega), by have := h.u2; show s.u - 1 ≤ _; omega, h.mkp, actV_one h.one _ _ _⟩, ?_, ?_⟩
  · exact (((ht.mono (fun j _ q => (.inl q : RS r kv av j))).trans (S' := RS r kv av) (Turns.of_below b1) (fun j _ q => q)).trans (S' := fun j => av.ownBlock = some j) (Turns.of_grown hg (fun j e => e)) (fun j _ q => .inr (.inr (.inr (.inr (.inr (.inl q))))))).trans (S' := fun j => j = r.g) (Turns.set _ _ rfl) (fun j _ q => .inl q)
  · rintro j (q | q | q | q | q | q | q)
    · exact .inl (.inl q)
    · exact .inl (.inr (.inl q))
    · exact .inl (.inr (.inr (.inl q)))
    · exact .inl (.inr (.inr (.inr (.inl q))))
    · exact .inl (.inr (.inr (.inr (.inr (.inl q)))))
    · have q2 : gg = j := by simpa [Value.ownBlock] using q
      rcases hat with h3 | h3
      · exact .inl (.inr (.inr (.inr (.inr (.inr (.inl (by rw [h3, q2])))))))
      · exact .inr (by omega)
    · exact .inl (.inr (.inr (.inr (.inr (.inr (.inr q))))))
theorem ract_blow (r : RI) (L N M : Nat) (kv av : Value) (pl : List Nat) (s : DSt) (kd an nn : Int) (w : World) (h : RV w r L N M kv av pl s) (ho : s.off = false) (hu : s.u = 1) (hpl : pl.length ≤ 1000000) :
    Calls Try.prog 56 #[.pointer (some ⟨r.g, 0, none⟩), .int .i64 kd, .int .i64 an, .int .i64 nn] w (RTo w r L N M kv av (.returned (.int .i64 8)) (s.gone L s.pl)) := by
  have hlt := h.w.lt
  obtain ⟨A, c', hv, hs⟩ := h.w.pk.bs (fun i => by
    by_cases hi : i < pl.length
    · rw [List.getD_eq_getElem?_getD, List.getElem?_eq_getElem hi]; exact h.w.by_.2.2 _ (List.getElem_mem hi)
    · rw [List.getD_eq_getElem?_getD, List.getElem?_eq_none (by omega)]; simp)
  have hC := crash_R r L N M pl.length c' kv av pl s A pl w h hs hpl (fun hn ad e => by
    obtain ⟨q, o, e2, _, _⟩ := hs.at_ hn
    rw [e2] at e
    injection e with e
    subst e
    have hq := h.w.pk.lt (g := q) (by rw [hv, e2]; rfl)
    unfold R5
    show ¬ (q = r.g ∨ q = r.bl ∨ q = r.bn ∨ q = r.bp ∨ q = r.bm)
    omega)
  have hsc : s.crash L pl = s.gone L s.pl := by unfold DSt.crash; rw [ho, h.pu (by omega)]; rfl
  rw [hsc] at hC
  have HC := Lib.hid hC
  have k5 : w.cell? ⟨r.g, 5, none⟩ = some (.int .i64 (s.u : Int)) := h.w.cell 5
  rw [hu, show ((1 : Nat) : Int) = 1 from rfl] at k5
  have k6 : w.cell? ⟨r.g, 6, none⟩ = some kv := h.w.cell 6
  subst hv
  generalize pl.length = np at *
  clear h hs hC hsc hu ho
  go_enter Try.func56, Try.ntmps56
  go_wp2_with fail
  refine HC.out.mono ?_
  rintro e w1 ⟨rfl, hq⟩
  have HQ := Lib.hid hq
  clear hq
  go_wp2
  go_ret
  exact ⟨rfl, HQ.out⟩
set_option maxHeartbeats 1000000 in
theorem ract_go (r : RI) (L N M : Nat) (kv av : Value) (pl : List Nat) (s : DSt) (kd an nn : Int) (w : World) (h : RV w r L N M kv av pl s) (hu1 : s.u ≠ 1) (hk : s.k < 16384) :
    Calls Try.prog 56 #[.pointer (some ⟨r.g, 0, none⟩), .int .i64 kd, .int .i64 an, .int .i64 nn] w (RTo w r L N M kv av (.returned (.int .i64 0)) (s.done kd an nn s.ws)) := by
  have hlen : ∃ A9 c9, av = .slice A9 s.k c9 := rowJ h.w.own
  obtain ⟨A9, c9, rfl⟩ := hlen
  obtain ⟨k, hkk⟩ : ∃ k, k = s.k := ⟨_, rfl⟩
  obtain ⟨u, huu⟩ : ∃ u, u = s.u := ⟨_, rfl⟩
  have hk2 : (k : Int) < 16384 := by omega
  have hk3 : k < 16384 := by omega
  have hne : ((u : Int) == 1) = false := beq_eq_false_iff_ne.mpr (by omega)
  have k5 : w.cell? ⟨r.g, 5, none⟩ = some (.int .i64 (u : Int)) := by rw [huu]; exact h.w.cell 5
  have f5 := h.w.free 5
  have hub := h.u2
  rw [← huu] at hub hu1
  have hgl : r.g < w.heap.size := blk_lt h.w.dev
  have HKK := Lib.hid (And.intro hkk huu)
  have HR := Lib.hid h
  by_cases hgt : 1 < u
  · have hgti : (1 : Int) < (u : Int) := by omega
    obtain ⟨u1, hu1e⟩ : ∃ u1 : Nat, u1 = u - 1 := ⟨_, rfl⟩
    have hw : IntKind.i64.wrap ((u : Int) - 1) = (u1 : Int) := by rw [show (u : Int) - 1 = (u1 : Int) by omega]; exact IntWalk.i64_in _ (by omega)
    have hq := h.w.setU u1
    obtain ⟨V, hV⟩ : ∃ V, V = w.setCell ⟨r.g, 5, none⟩ (.int .i64 (u1 : Int)) := ⟨_, rfl⟩
    rw [← hV] at hq
    have ht0 : Turns (fun j => j = r.g) w V := by rw [hV]; exact Turns.set _ _ rfl
    have k7 : V.cell? ⟨r.g, 7, none⟩ = some (.slice A9 k c9) := by rw [hkk]; exact hq.cell 7
    rw [hV] at k7
    have HQ := Lib.hid hq
    have HT0 := Lib.hid ht0
    have HV := Lib.hid hV
    have hown := hq.own
    rw [← hkk] at hown
    have HOWN := Lib.hid hown
    have HU1 : Hid (u1 = s.u - 1) := Lib.hid (by omega)
    have HSZ : Hid (r.g + 1 ≤ V.heap.size) := Lib.hid (blk_lt hq.dev)
    have HSW : Hid (V.heap.size = w.heap.size) := Lib.hid (by rw [hV]; simp [World.setCell])
    have HNG : Hid ((Value.slice A9 k c9).ownBlock ≠ some r.g) := Lib.hid (fun e => by have := (hown.lt r.g e).1; omega)
    have HC7 : Hid (V.cell? ⟨r.g, 7, none⟩ = some (.slice A9 k c9)) := Lib.hid (by rw [hkk]; exact hq.cell 7)
    rw [hV] at HSZ HOWN
    have HSX : Hid ((w.setCell ⟨r.g, 5, none⟩ (.int .i64 (u1 : Int))).heap.size = w.heap.size) := Lib.hid (by simp [World.setCell])
    clear h hq ht0 hV hkk huu hub hu1 hgt hu1e
    go_enter Try.func56, Try.ntmps56
    go_wp2_with (at_builtin; refine wp_ractG kd an nn (w.setCell ⟨r.g, 5, none⟩ (.int .i64 (u1 : Int))) rfl (.tmp 42) (.tmp 47) rfl (r.g + 1) (.slice A9 k c9) k s.al rfl HOWN.out w.heap.size HSX.out rfl (by omega) HSZ.out ?_)
    intro gg cap w1 hown1 hg1 hat1
    rw [← HV.out] at hg1
    rw [← HSW.out] at hat1
    have hg0 := hg1
    rw [HKK.out.1] at hown1 hg1 hat1
    have HE : Hid (RTo w r L N M kv (.slice A9 s.k c9) (.returned (.int .i64 0)) (s.done kd an nn s.ws) (.returned (.int .i64 0)) (w1.setCell ⟨r.g, 7, none⟩ (.slice (some ⟨gg, 0, none⟩) (k + 1) cap))) := Lib.hid (by
      have h9 := ract_end kd an nn HR.out HSW.out HQ.out HU1.out HT0.out hown1 hg1 hat1
      rw [← HKK.out.1] at h9 ⊢
      exact h9)
    have c7 : w1.cell? ⟨r.g, 7, none⟩ = some (.slice A9 k c9) := (hg0.cell_far ⟨r.g, 7, none⟩ (by simp; have := blk_lt HQ.out.dev; omega) (fun e => HNG.out e.symm)).trans ((World.cell?_alloc_lt V _ ⟨r.g, 7, none⟩ (blk_lt HQ.out.dev)).trans HC7.out)
    have f7 : w1.frozen? ⟨r.g, 7, none⟩ = false := (hg0.frozen_far ⟨r.g, 7, none⟩ (by simp; have := blk_lt HQ.out.dev; omega) (fun e => HNG.out e.symm)).trans ((HQ.out.next ((Below.refl _ _).alloc (Nat.le_refl _) _)).free 7)
    clear hown1 hg1 hat1 hg0
    go_wp2
    go_ret
    exact HE.out
  · have hgti : ¬ (1 : Int) < (u : Int) := by omega
    have hq := h.w
    have HU1 : Hid (s.u = s.u - 1) := Lib.hid (by omega)
    have k7 : w.cell? ⟨r.g, 7, none⟩ = some (.slice A9 k c9) := by rw [hkk]; exact hq.cell 7
    have HQ := Lib.hid hq
    have hown := hq.own
    rw [← hkk] at hown
    have HOWN := Lib.hid hown
    have HSZ : Hid (r.g + 1 ≤ w.heap.size) := Lib.hid hgl
    have HNG : Hid ((Value.slice A9 k c9).ownBlock ≠ some r.g) := Lib.hid (fun e => by have := (hown.lt r.g e).1; omega)
    have HC7 : Hid (w.cell? ⟨r.g, 7, none⟩ = some (.slice A9 k c9)) := Lib.hid (by rw [hkk]; exact hq.cell 7)
    clear h hq hkk huu hub hu1 hgt
    go_enter Try.func56, Try.ntmps56
    go_wp2_with (at_builtin; refine wp_ractG kd an nn w rfl (.tmp 42) (.tmp 47) rfl (r.g + 1) (.slice A9 k c9) k s.al rfl HOWN.out w.heap.size rfl rfl (by omega) HSZ.out ?_)
    intro gg cap w1 hown1 hg1 hat1
    have hg0 := hg1
    rw [HKK.out.1] at hown1 hg1 hat1
    have HE : Hid (RTo w r L N M kv (.slice A9 s.k c9) (.returned (.int .i64 0)) (s.done kd an nn s.ws) (.returned (.int .i64 0)) (w1.setCell ⟨r.g, 7, none⟩ (.slice (some ⟨gg, 0, none⟩) (k + 1) cap))) := Lib.hid (by
      have h9 := ract_end kd an nn HR.out rfl HQ.out HU1.out (Turns.of_below (Below.refl _ _)) hown1 hg1 hat1
      rw [← HKK.out.1] at h9 ⊢
      exact h9)
    have c7 : w1.cell? ⟨r.g, 7, none⟩ = some (.slice A9 k c9) := (hg0.cell_far ⟨r.g, 7, none⟩ (by simp; have := blk_lt HQ.out.dev; omega) (fun e => HNG.out e.symm)).trans ((World.cell?_alloc_lt w _ ⟨r.g, 7, none⟩ (blk_lt HQ.out.dev)).trans HC7.out)
    have f7 : w1.frozen? ⟨r.g, 7, none⟩ = false := (hg0.frozen_far ⟨r.g, 7, none⟩ (by simp; have := blk_lt HQ.out.dev; omega) (fun e => HNG.out e.symm)).trans ((HQ.out.next ((Below.refl _ _).alloc (Nat.le_refl _) _)).free 7)
    clear hown1 hg1 hat1 hg0
    go_wp2
    go_ret
    exact HE.out
end
section
open Go.RowKit Go
set_option linter.unusedVariables false
set_option linter.unusedSimpArgs false
set_option maxRecDepth 100000
theorem act_on {s : DSt} {L : Nat} {a n : Int} (hq : refS8 L s.off a n = 0) : s.off = false ∧ hasB L a n = true := by
  unfold refS8 at hq
  cases ho : s.off
  · rw [ho] at hq
    cases hb : hasB L a n
    · rw [hb] at hq; simp at hq
    · exact ⟨rfl, rfl⟩
  · rw [ho] at hq; simp at hq
theorem act_no {s : DSt} {L : Nat} {a n : Int} (kd : Int) (ws : List Wd) (hq : refS8 L s.off a n ≠ 0) : actE s L a n = refS8 L s.off a n ∧ actS s L kd a n ws = s := by
  unfold actE actS
  unfold refS8 at hq ⊢
  cases ho : s.off
  · rw [ho] at hq
    cases hb : hasB L a n
    · simp
    · rw [hb] at hq; simp at hq
  · simp
theorem act_blow {s : DSt} {L : Nat} {a n : Int} (kd : Int) (ws : List Wd) (hq : refS8 L s.off a n = 0) (hu : s.u = 1) : actE s L a n = 8 ∧ actS s L kd a n ws = s.gone L s.pl := by
  obtain ⟨h1, h2⟩ := act_on hq
  unfold actE actS
  simp [h1, h2, hu]
theorem act_go {s : DSt} {L : Nat} {a n : Int} (kd : Int) (ws : List Wd) (hq : refS8 L s.off a n = 0) (hu : s.u ≠ 1) : actE s L a n = 0 ∧ actS s L kd a n ws = s.done kd a n ws := by
  obtain ⟨h1, h2⟩ := act_on hq
  unfold actE actS
  simp [h1, h2, hu]
/-- what a loop behind an act leaves -/
theorem loop_end {w w1 w2 : World} {r : RI} {L N M : Nat} {kv av kv1 av1 : Value} {pl1 : List Nat} {s : DSt} {kd a n : Int} {ws : List Wd} (h1 : RV w1 r L N M kv1 av1 pl1 (s.done kd a n s.ws)) (t1 : Turns (RS r kv av) w w1) (o1 : ∀ j, RS r kv1 av1 j → RS r kv av j ∨ w.heap.size ≤ j) (h2 : RL w2 r N M kv1 av1 pl1 s.off (s.u - 1) (s.k + 1) (s.al ++ actV kd a n) ws) (t2 : Turns (R5 r) w1 w2) (hok : OkM ws) (hlen : ws.length = 8 * L) (hmk : MkP ws) (e0 : Ending) : RTo w r L N M kv av e0 (s.done kd a n ws) e0 w2 :=
  ⟨rfl, kv1, av1, pl1, ⟨h2, hok, hlen, h1.L1, h1.sz, h1.pu, h1.u2, hmk, h1.one⟩, t1.trans (S' := R5 r) t2 (fun j _ q => r5_rs r kv av q), o1⟩
theorem fe_ok {x : Wd} (h : x.Ok) : x.fe.Ok := by
  unfold Wd.fe
  split
  · exact ⟨h.n, h.n, h.nb, h.nb⟩
  · exact h
theorem fe_mk {x : Wd} (h : x.mark = true → x.pend = true) : x.fe.mark = true → x.fe.pend = true := by
  unfold Wd.fe
  split
  · intro h; cases h
  · exact h
/-- behind some words -/
def FeR (w : World) (r : RI) (L N M : Nat) (kv av : Value) (pl : List Nat) (off : Bool) (u k : Nat) (al : List Value) (ws : List Wd) (iv : Value) (W : World) : Prop :=
  ∃ i : Nat, iv = .int .i64 (i : Int) ∧ i ≤ 8 * L ∧ RL W r N M kv av pl off u k al (turnW (fun _ => Wd.fe) 0 i ws) ∧ Turns (R5 r) w W
set_option maxHeartbeats 8000000 in
theorem do4_R (r : RI) (L N M : Nat) (kv av : Value) (pl : List Nat) (s : DSt) (w : World) (h : RV w r L N M kv av pl s) (hk : s.k < 16384) (hpl : pl.length ≤ 1000000) :
    Calls Try.prog 31 #[.pointer (some ⟨r.g, 0, none⟩)] w (RTo w r L N M kv av (.returned (.int .i64 (actE s L 0 0))) (actS s L 4 0 0 s.ws)) := by
  have HRD := Lib.hid (ready_R r L N M kv av pl s 0 0 (by omega) w h)
  by_cases hq : refS8 L s.off 0 0 = 0
  · by_cases hu : s.u = 1
    · obtain ⟨e1, e2⟩ := act_blow 4 s.ws hq hu
      rw [e1, e2]
      rw [hq] at HRD
      have HAC := Lib.hid (ract_blow r L N M kv av pl s 4 0 0 w h (act_on hq).1 hu hpl)
      clear h hk hpl hq hu e1 e2
      go_enter Try.func31, Try.ntmps31
      go_wp2_with fail
      refine HRD.out.mono ?_
      rintro e w0 ⟨rfl, rfl⟩
      go_wp2_with fail
      refine HAC.out.mono ?_
      rintro e w1 ⟨rfl, hq⟩
      have HQ := Lib.hid hq
      clear hq
      go_wp2
      go_ret
      exact ⟨rfl, HQ.out⟩
    · obtain ⟨e1, e2⟩ := act_go 4 s.ws hq hu
      have HE2 := Lib.hid e2
      rw [e1]
      have HRG := Lib.hid (act_on hq)
      rw [hq] at HRD
      have HAC := Lib.hid (ract_go r L N M kv av pl s 4 0 0 w h hu hk)
      have HH := Lib.hid h
      clear h hk hpl hq hu e1
      go_enter Try.func31, Try.ntmps31
      go_wp2_with fail
      refine HRD.out.mono ?_
      rintro e w0 ⟨rfl, rfl⟩
      go_wp2_with fail
      refine HAC.out.mono ?_
      rintro e w1 ⟨rfl, hq⟩
      have HQ := Lib.hid hq
      clear hq
      go_wp2
      go_ret
      rw [HE2.out]
      exact ⟨rfl, HQ.out⟩
  · obtain ⟨e1, e2⟩ := act_no 4 s.ws hq
    have HF := Lib.hid (h.stay (.returned (.int .i64 (refS8 L s.off 0 0))))
    rw [e1, e2]
    generalize refS8 L s.off 0 0 = q at *
    have hq1 : ((q : Int) == 0) = false := by rw [beq_eq_false_iff_ne]; exact hq
    have hq2 : ((q : Int) != 0) = true := by rw [bne_iff_ne]; exact hq
    clear h hk hpl hq e1 e2
    go_enter Try.func31, Try.ntmps31
    go_wp2_with fail
    refine HRD.out.mono ?_
    rintro e w0 ⟨rfl, rfl⟩
    go_wp2
    go_ret
    exact HF.out
set_option maxHeartbeats 8000000 in
theorem fence_R (r : RI) (L N M : Nat) (kv av : Value) (pl : List Nat) (s : DSt) (w : World) (h : RV w r L N M kv av pl s) (hk : s.k < 16384) (hpl : pl.length ≤ 1000000) :
    Calls Try.prog 29 #[.pointer (some ⟨r.g, 0, none⟩)] w (RTo w r L N M kv av (.returned (.int .i64 (actE s L 0 0))) (actS s L 3 0 0 (turnW (fun _ => Wd.fe) 0 (8 * L) s.ws))) := by
  have HRD := Lib.hid (ready_R r L N M kv av pl s 0 0 (by omega) w h)
  by_cases hq : refS8 L s.off 0 0 = 0
  · by_cases hu : s.u = 1
    · obtain ⟨e1, e2⟩ := act_blow 3 (turnW (fun _ => Wd.fe) 0 (8 * L) s.ws) hq hu
      rw [e1, e2]
      rw [hq] at HRD
      have HAC := Lib.hid (ract_blow r L N M kv av pl s 3 0 0 w h (act_on hq).1 hu hpl)
      clear h hk hpl hq hu e1 e2
      go_enter Try.func29, Try.ntmps29
      go_wp2_with fail
      refine HRD.out.mono ?_
      rintro e w0 ⟨rfl, rfl⟩
      go_wp2_with fail
      refine HAC.out.mono ?_
      rintro e w1 ⟨rfl, hq⟩
      have HQ := Lib.hid hq
      clear hq
      go_wp2
      go_ret
      exact ⟨rfl, HQ.out⟩
    · obtain ⟨e1, e2⟩ := act_go 3 (turnW (fun _ => Wd.fe) 0 (8 * L) s.ws) hq hu
      have HE2 := Lib.hid e2
      rw [e1]
      have HRG := Lib.hid (act_on hq)
      rw [hq] at HRD
      have HAC := Lib.hid (ract_go r L N M kv av pl s 3 0 0 w h hu hk)
      have HH := Lib.hid h
      clear h hk hpl hq hu e1 e2
      go_enter Try.func29, Try.ntmps29
      go_wp2_with fail
      refine HRD.out.mono ?_
      rintro e w0 ⟨rfl, rfl⟩
      go_wp2_with fail
      refine HAC.out.mono ?_
      rintro e w1 ⟨rfl, kv1, av1, pl1, hr1, ht1, ho1⟩
      have HR1 := Lib.hid (And.intro hr1 (And.intro ht1 ho1))
      obtain ⟨ws, hws⟩ : ∃ ws, ws = s.ws := ⟨_, rfl⟩
      have HWS := Lib.hid hws
      have HLM : Hid (ws.length = 8 * L ∧ L ≤ 1024 ∧ N = 64 * L ∧ M = 8 * L) := Lib.hid ⟨by rw [hws]; exact hr1.len, hr1.L1, hr1.sz⟩
      have HOK0 : Hid (OkM ws ∧ MkP ws) := Lib.hid (by rw [hws]; exact ⟨hr1.ok, hr1.mkp⟩)
      obtain ⟨u1, hu1⟩ : ∃ u1, u1 = s.u - 1 := ⟨_, rfl⟩
      obtain ⟨al1, hal1⟩ : ∃ al1, al1 = s.al ++ actV 3 0 0 := ⟨_, rfl⟩
      have HDN := Lib.hid (And.intro hu1 hal1)
      have hst : RL w1 r N M kv1 av1 pl1 s.off u1 (s.k + 1) al1 ws := by rw [hws, hu1, hal1]; exact hr1.w
      have HST : Hid (FeR w1 r L N M kv1 av1 pl1 s.off u1 (s.k + 1) al1 ws (.int .i64 0) w1) := Lib.hid ⟨0, rfl, by omega, by rw [turnW_none]; exact hst, Turns.of_below (Below.refl _ _)⟩
      have k3 : w1.cell? ⟨r.g, 3, none⟩ = some (.slice (some ⟨r.bm, 0, none⟩) M M) := hr1.w.cell 3
      clear hr1 ht1 ho1 hws hst hu1 hal1 HRD HAC
      go_wp2_with fail
      clear k3
      go_loopw [19] (fun iv wr => FeR w1 r L N M kv1 av1 pl1 s.off u1 (s.k + 1) al1 ws iv wr) (fun iv _ => (8 * L - (intOf iv).toNat))
      case atStart => exact HST.out
      case round =>
        clear HST
        obtain ⟨i, rfl, hi, hrl, htt⟩ := hrel
        have HR := Lib.hid hrl
        have HT0 := Lib.hid htt
        by_cases hlt : i < M
        · have hlti : (i : Int) < (M : Int) := by omega
          have hiM := hlt
          obtain ⟨x, hx⟩ : ∃ x, ws[i]? = some x := ⟨_, List.getElem?_eq_getElem (by have := HLM.out; omega)⟩
          have HX := Lib.hid hx
          have HXO := Lib.hid (HOK0.out.1 x (List.mem_of_getElem? hx))
          obtain ⟨V, hV⟩ : ∃ V, V = turnW (fun _ => Wd.fe) 0 i ws := ⟨_, rfl⟩
          have hxV : V[i]? = some x := by rw [hV]; exact turnW_here _ hx
          have HXV := Lib.hid hxV
          have HV := Lib.hid hV
          have HOKV : Hid (OkM (turnW (fun _ => Wd.fe) 0 i ws)) := Lib.hid (turnW_ok _ (fun _ _ => fe_ok) 0 i HOK0.out.1)
          have HOKV2 : Hid (OkM V) := Lib.hid (by rw [hV]; exact HOKV.out)
          rw [← hV] at HR hrl
          unfold RL at HR
          have k3 : wr.cell? ⟨r.g, 3, none⟩ = some (.slice (some ⟨r.bm, 0, none⟩) M M) := HR.out.cell 3
          have hpc := (RL.mcell hrl hxV).1
          have hL9 := HLM.out
          have hi9 : i ≤ 8192 := by omega
          have hwi : IntKind.i64.wrap ((i : Int) + 1) = (i : Int) + 1 := IntWalk.i64_in _ ⟨by omega, by omega⟩
          have HIM : Hid (i < 8 * L) := Lib.hid (by omega)
          obtain ⟨a, ha⟩ : ∃ a, a = 8 * i := ⟨_, rfl⟩
          obtain ⟨a2, ha2⟩ : ∃ a2, a2 = a + 8 := ⟨_, rfl⟩
          obtain ⟨e9, he9⟩ : ∃ e9, N - a = e9 := ⟨_, rfl⟩
          have HAA : Hid (a = 8 * i ∧ a + 8 ≤ N) := Lib.hid ⟨ha, by omega⟩
          have hw8 : IntKind.i64.wrap (8 * (i : Int)) = (a : Int) := by rw [show (8 : Int) * (i : Int) = (a : Int) by omega]; exact IntWalk.i64_in _ ⟨by omega, by omega⟩
          have hwa : IntKind.i64.wrap ((a : Int) + 8) = (a2 : Int) := by rw [show (a : Int) + 8 = (a2 : Int) by omega]; exact IntWalk.i64_in _ ⟨by omega, by omega⟩
          have hs1 : ∀ W : World, (Instr.slice 28 (.slice (some ⟨r.bl, 0, none⟩) N N) (some (.int .i64 (a : Int))) (some (.int .i64 (a2 : Int))) none).run Try.prog W = .ok (.slice (some ⟨r.bl, a, none⟩) 8 e9) W := fun W => run_part8N r.bl N a a2 e9 ha2 (by omega) he9 W
          have hs2 : ∀ W : World, (Instr.slice 28 (.slice (some ⟨r.bn, 0, none⟩) N N) (some (.int .i64 (a : Int))) (some (.int .i64 (a2 : Int))) none).run Try.prog W = .ok (.slice (some ⟨r.bn, a, none⟩) 8 e9) W := fun W => run_part8N r.bn N a a2 e9 ha2 (by omega) he9 W
          clear hrl htt hx hV hxV hL9 ha ha2 he9
          cases hm : x.mark
          · rw [hm] at hpc
            have HG : Hid (FeR w1 r L N M kv1 av1 pl1 s.off u1 (s.k + 1) al1 ws (.int .i64 ((i : Int) + 1)) wr) := Lib.hid (by
              refine ⟨i + 1, by simp, by have := HIM.out; omega, ?_, HT0.out⟩
              have hy : Wd.fe x = x := by unfold Wd.fe; rw [hm]; rfl
              have e := turnW_next (fun _ => Wd.fe) (Nat.zero_le i) HX.out
              rw [hy, set_sameQ (by rw [← HV.out]; exact HXV.out), ← HV.out] at e
              rw [← e]
              exact HR.out)
            clear hm
            go_wp2_with fail
            go_roundw
            case rel => exact HG.out
            case measure => have := HIM.out; simp [intOf]; omega
          · rw [hm] at hpc
            have HY : Hid (Wd.fe x = x.keep) := Lib.hid (by unfold Wd.fe; rw [hm]; rfl)
            clear hm
            go_upto_region 10 with (fail)
            have hl8 : (((nowsL V).drop a).take 8).length = 8 := by rw [List.length_take, List.length_drop]; have := HR.out.ln; have := HAA.out; omega
            have HCL : Hid ((bvals (((nowsL V).drop a).take 8)).length = Nat.min 8 8) := Lib.hid (by rw [bvals_len, hl8]; rfl)
            have HPO : Hid (0 < (bvals (((nowsL V).drop a).take 8)).length → (some ⟨r.bl, a, none⟩ : Option Addr) = some ⟨r.bl, a, none⟩ ∧ ∃ ad, (some ⟨r.bn, a, none⟩ : Option Addr) = some ad ∧ ∀ j v, (bvals (((nowsL V).drop a).take 8))[j]? = some v → wr.cell? (ad.add j) = some v) := Lib.hid (fun _ => ⟨rfl, _, rfl, row_reads HR.out.hn (by have := HR.out.ln; have := HAA.out; omega)⟩)
            have HFT : Hid (a + (bvals (((nowsL V).drop a).take 8)).length ≤ (bvals (lastsQ V)).length) := Lib.hid (by rw [bvals_len, bvals_len, hl8]; have := HR.out.ln; have := HAA.out; omega)
            have k0 : wr.cell? ⟨r.g, 0, none⟩ = some (.slice (some ⟨r.bl, 0, none⟩) N N) := HR.out.cell 0
            have k1 : wr.cell? ⟨r.g, 1, none⟩ = some (.slice (some ⟨r.bn, 0, none⟩) N N) := HR.out.cell 1
            refine wp_region_F (S := fun w' => w' = wr.drew) [20] (by kernel_rfl) (rfl) (fun hHeld => ?_)
            refine wpAnyG_take (i := 0) (oi := _) (v := ?_) rfl (by kernel_rfl) (by kernel_rfl) (by kernel_rfl) (by kernel_rfl) (by kernel_rfl) (fun _ _ _ h => h) (Or.inl ⟨by rfl, ?_⟩) (by assumption) ?_
            rotate_left 1
            · intro w hSw
              (try dsimp only at hSw)
              (first | (go_simp; done) | (go_simp; with_reducible rfl))
            (try simp only [Act.put, List.getElem_toArray, List.getElem_cons_succ, List.getElem_cons_zero, List.setIfInBounds_toArray, List.set_cons_zero, List.set_cons_succ])
            refine wpAnyG_take (i := 1) (oi := _) (v := ?_) rfl (by kernel_rfl) (by kernel_rfl) (by kernel_rfl) (by kernel_rfl) (by kernel_rfl) (fun _ _ _ h => h) (Or.inl ⟨by rfl, ?_⟩) (by assumption) ?_
            rotate_left 1
            · intro w hSw
              (try dsimp only at hSw)
              (first | (go_simp; done) | (go_simp; with_reducible rfl))
            (try simp only [Act.put, List.getElem_toArray, List.getElem_cons_succ, List.getElem_cons_zero, List.setIfInBounds_toArray, List.set_cons_zero, List.set_cons_succ])
            refine wpAnyG_take (i := 2) (oi := _) (v := ?_) rfl (by kernel_rfl) (by kernel_rfl) (by kernel_rfl) (by kernel_rfl) (by kernel_rfl) (fun _ _ _ h => h) (Or.inl ⟨by rfl, ?_⟩) (by assumption) ?_
            rotate_left 1
            · intro w hSw
              (try dsimp only at hSw)
              (first | (go_simp; done) | (go_simp; with_reducible rfl))
            (try simp only [Act.put, List.getElem_toArray, List.getElem_cons_succ, List.getElem_cons_zero, List.setIfInBounds_toArray, List.set_cons_zero, List.set_cons_succ])
            refine wpAnyG_take (i := 3) (oi := _) (v := ?_) rfl (by kernel_rfl) (by kernel_rfl) (by kernel_rfl) (by kernel_rfl) (by kernel_rfl) (fun _ _ _ h => h) (Or.inl ⟨by rfl, ?_⟩) (by assumption) ?_
            rotate_left 1
            · intro w hSw
              (try dsimp only at hSw)
              (first | (go_simp; done) | (go_simp; with_reducible rfl))
            (try simp only [Act.put, List.getElem_toArray, List.getElem_cons_succ, List.getElem_cons_zero, List.setIfInBounds_toArray, List.set_cons_zero, List.set_cons_succ])
            refine wpAnyG_take (i := 4) (oi := _) (v := ?_) rfl (by kernel_rfl) (by kernel_rfl) (by kernel_rfl) (by kernel_rfl) (by kernel_rfl) (fun _ _ _ h => h) (Or.inl ⟨by rfl, ?_⟩) (by assumption) ?_
            rotate_left 1
            · intro w hSw
              (try dsimp only at hSw)
              (first | (go_simp; done) | (go_simp; with_reducible rfl))
            (try simp only [Act.put, List.getElem_toArray, List.getElem_cons_succ, List.getElem_cons_zero, List.setIfInBounds_toArray, List.set_cons_zero, List.set_cons_succ])
            refine wpAnyG_take (i := 5) (oi := _) (v := ?_) rfl (by kernel_rfl) (by kernel_rfl) (by kernel_rfl) (by kernel_rfl) (by kernel_rfl) (fun _ _ _ h => h) (Or.inl ⟨by rfl, ?_⟩) (by assumption) ?_
            rotate_left 1
            · intro w hSw
              (try dsimp only at hSw)
              (first | (go_simp; done) | (go_simp; with_reducible rfl))
            (try simp only [Act.put, List.getElem_toArray, List.getElem_cons_succ, List.getElem_cons_zero, List.setIfInBounds_toArray, List.set_cons_zero, List.set_cons_succ])
            refine wpAnyG_take (i := 6) (oi := _) (v := ?_) rfl (by kernel_rfl) (by kernel_rfl) (by kernel_rfl) (by kernel_rfl) (by kernel_rfl) (fun _ _ _ h => h) (Or.inl ⟨by rfl, ?_⟩) (by assumption) ?_
            rotate_left 1
            · intro w hSw
              (try dsimp only at hSw)
              (first | (go_simp; done) | (go_simp; with_reducible rfl))
            (try simp only [Act.put, List.getElem_toArray, List.getElem_cons_succ, List.getElem_cons_zero, List.setIfInBounds_toArray, List.set_cons_zero, List.set_cons_succ])
            refine wpAnyG_take (i := 7) (oi := _) (v := ?_) rfl (by kernel_rfl) (by kernel_rfl) (by kernel_rfl) (by kernel_rfl) (by kernel_rfl) (fun _ _ _ h => h) (Or.inl ⟨by rfl, ?_⟩) (by assumption) ?_
            rotate_left 1
            · intro w hSw
              (try dsimp only at hSw)
              (first | (go_simp; done) | (go_simp; with_reducible rfl))
            (try simp only [Act.put, List.getElem_toArray, List.getElem_cons_succ, List.getElem_cons_zero, List.setIfInBounds_toArray, List.set_cons_zero, List.set_cons_succ])
            refine wpAnyG_take (i := 8) (oi := _) (v := ?_) rfl (by kernel_rfl) (by kernel_rfl) (by kernel_rfl) (by kernel_rfl) (by kernel_rfl) (fun _ _ _ h => h) (Or.inl ⟨by rfl, ?_⟩) (by assumption) ?_
            rotate_left 1
            · intro w hSw
              (try dsimp only at hSw)
              (first | (go_simp; done) | (go_simp; with_reducible rfl))
            (try simp only [Act.put, List.getElem_toArray, List.getElem_cons_succ, List.getElem_cons_zero, List.setIfInBounds_toArray, List.set_cons_zero, List.set_cons_succ])
            refine wpAnyG_take (i := 9) (oi := _) (v := ?_) rfl (by kernel_rfl) (by kernel_rfl) (by kernel_rfl) (by kernel_rfl) (by kernel_rfl) (fun _ _ _ h => h) (Or.inl ⟨by rfl, ?_⟩) (by assumption) ?_
            rotate_left 1
            · intro w hSw
              (try dsimp only at hSw)
              (first | (go_simp; done) | (go_simp; with_reducible rfl))
            (try simp only [Act.put, List.getElem_toArray, List.getElem_cons_succ, List.getElem_cons_zero, List.setIfInBounds_toArray, List.set_cons_zero, List.set_cons_succ])
            refine wpAnyG_take (i := 10) (oi := _) (v := ?_) rfl (by kernel_rfl) (by kernel_rfl) (by kernel_rfl) (by kernel_rfl) (by kernel_rfl) (fun _ _ _ h => h) (Or.inl ⟨by rfl, ?_⟩) (by assumption) ?_
            rotate_left 1
            · intro w hSw
              (try dsimp only at hSw)
              (first | (go_simp; done) | (go_simp; with_reducible rfl))
            (try simp only [Act.put, List.getElem_toArray, List.getElem_cons_succ, List.getElem_cons_zero, List.setIfInBounds_toArray, List.set_cons_zero, List.set_cons_succ])
            refine wpAnyG_take (i := 11) (oi := _) (v := ?_) rfl (by kernel_rfl) (by kernel_rfl) (by kernel_rfl) (by kernel_rfl) (by kernel_rfl) (fun _ _ _ h => h) (Or.inl ⟨by rfl, ?_⟩) (by assumption) ?_
            rotate_left 1
            · intro w hSw
              (try dsimp only at hSw)
              (first | (go_simp; done) | (go_simp; with_reducible rfl))
            (try simp only [Act.put, List.getElem_toArray, List.getElem_cons_succ, List.getElem_cons_zero, List.setIfInBounds_toArray, List.set_cons_zero, List.set_cons_succ])
            refine wpAnyG_take (i := 12) (oi := _) (v := ?_) rfl (by kernel_rfl) (by kernel_rfl) (by kernel_rfl) (by kernel_rfl) (by kernel_rfl) (fun _ _ _ h => h) (Or.inl ⟨by rfl, ?_⟩) (by assumption) ?_
            rotate_left 1
            · intro w hSw
              (try dsimp only at hSw)
              (first | (go_simp; done) | (go_simp; with_reducible rfl))
            (try simp only [Act.put, List.getElem_toArray, List.getElem_cons_succ, List.getElem_cons_zero, List.setIfInBounds_toArray, List.set_cons_zero, List.set_cons_succ])
            refine wpAnyG_take (i := 13) (oi := _) (v := ?_) rfl (by kernel_rfl) (by kernel_rfl) (by kernel_rfl) (by kernel_rfl) (by kernel_rfl) (fun _ _ _ h => h) (Or.inl ⟨by rfl, ?_⟩) (by assumption) ?_
            rotate_left 1
            · intro w hSw
              (try dsimp only at hSw)
              (first | (go_simp; done) | (go_simp; with_reducible rfl))
            (try simp only [Act.put, List.getElem_toArray, List.getElem_cons_succ, List.getElem_cons_zero, List.setIfInBounds_toArray, List.set_cons_zero, List.set_cons_succ])
            refine wpAnyG_take (i := 14) (oi := _) (v := ?_) rfl (by kernel_rfl) (by kernel_rfl) (by kernel_rfl) (by kernel_rfl) (by kernel_rfl) (fun _ _ _ h => h) (Or.inl ⟨by rfl, ?_⟩) (by assumption) ?_
            rotate_left 1
            · intro w hSw
              (try dsimp only at hSw)
              (first | (go_simp; done) | (go_simp; with_reducible rfl))
            (try simp only [Act.put, List.getElem_toArray, List.getElem_cons_succ, List.getElem_cons_zero, List.setIfInBounds_toArray, List.set_cons_zero, List.set_cons_succ])
            refine wpAnyG_take (i := 15) (oi := _) (v := ?_) rfl (by kernel_rfl) (by kernel_rfl) (by kernel_rfl) (by kernel_rfl) (by kernel_rfl) (fun _ _ _ h => h) (Or.inl ⟨by rfl, ?_⟩) (by assumption) ?_
            rotate_left 1
            · intro w hSw
              (try dsimp only at hSw)
              (first | (go_simp; done) | (go_simp; with_reducible rfl))
            (try simp only [Act.put, List.getElem_toArray, List.getElem_cons_succ, List.getElem_cons_zero, List.setIfInBounds_toArray, List.set_cons_zero, List.set_cons_succ])
            refine wpAnyG_take (i := 16) (oi := _) (v := ?_) rfl (by kernel_rfl) (by kernel_rfl) (by kernel_rfl) (by kernel_rfl) (by kernel_rfl) (fun _ _ _ h => h) (Or.inl ⟨by rfl, ?_⟩) (by assumption) ?_
            rotate_left 1
            · intro w hSw
              (try dsimp only at hSw)
              (first | (go_simp; done) | (go_simp; with_reducible rfl))
            (try simp only [Act.put, List.getElem_toArray, List.getElem_cons_succ, List.getElem_cons_zero, List.setIfInBounds_toArray, List.set_cons_zero, List.set_cons_succ])
            refine wpAnyG_take (i := 17) (oi := _) (v := ?_) rfl (by kernel_rfl) (by kernel_rfl) (by kernel_rfl) (by kernel_rfl) (by kernel_rfl) (fun _ _ _ h => h) (Or.inl ⟨by rfl, ?_⟩) (by assumption) ?_
            rotate_left 1
            · intro w hSw
              (try dsimp only at hSw)
              (first | (go_simp; done) | (go_simp; with_reducible rfl))
            (try simp only [Act.put, List.getElem_toArray, List.getElem_cons_succ, List.getElem_cons_zero, List.setIfInBounds_toArray, List.set_cons_zero, List.set_cons_succ])
            refine wpAnyG_take (i := 18) (oi := _) (v := ?_) rfl (by kernel_rfl) (by kernel_rfl) (by kernel_rfl) (by kernel_rfl) (by kernel_rfl) (fun _ _ _ h => h) (Or.inl ⟨by rfl, ?_⟩) (by assumption) ?_
            rotate_left 1
            · intro w hSw
              (try dsimp only at hSw)
              (first | (go_simp; done) | (go_simp; with_reducible rfl))
            (try simp only [Act.put, List.getElem_toArray, List.getElem_cons_succ, List.getElem_cons_zero, List.setIfInBounds_toArray, List.set_cons_zero, List.set_cons_succ])
            refine wpAnyG_take (i := 19) (oi := _) (v := ?_) rfl (by kernel_rfl) (by kernel_rfl) (by kernel_rfl) (by kernel_rfl) (by kernel_rfl) (fun _ _ _ h => h) (Or.inl ⟨by rfl, ?_⟩) (by assumption) ?_
            rotate_left 1
            · intro w hSw
              (try dsimp only at hSw)
              (first | (go_simp; done) | (go_simp; with_reducible rfl))
            (try simp only [Act.put, List.getElem_toArray, List.getElem_cons_succ, List.getElem_cons_zero, List.setIfInBounds_toArray, List.set_cons_zero, List.set_cons_succ])
            refine wpAnyF_ready (rs := [20]) (by kernel_rfl) (by simp) ?_
            refine AllReadyF.last (o := _) rfl (by rfl) (fun K hK => ?_) AllReadyF.nil
            refine step_copy_only rfl (.tmp 38) (.tmp 48) 28 28 rfl 5 Try.underlying28 size_u8 (some ⟨r.bl, a, none⟩) (some ⟨r.bn, a, none⟩) 8 e9 8 e9 rfl rfl r.bl a (bvals (lastsQ V)) 5 HR.out.hl (bvals (((nowsL V).drop a).take 8)) HCL.out HPO.out HFT.out (bvals_one _) ?_
            intro w2 hq3 hg3
            rw [bvals_splB] at hq3
            have HG3 := Lib.hid (grown_undrew hg3)
            have hw3 := HR.out.lasts' HG3.out hq3.out (by rw [splB_len (by rw [hl8]; have := HR.out.ln; have := HAA.out; omega)]; exact HR.out.ln.1) (splB_ok (by rw [hl8]; have := HR.out.ln; have := HAA.out; omega) HR.out.by_.1 (fun v hv => HR.out.by_.2.1 v (List.mem_of_mem_drop (List.mem_of_mem_take hv))))
            have HWw2 := Lib.hid hw3
            have HTw2 : Hid (Turns (R5 r) wr w2) := Lib.hid (Turns.of_grown HG3.out (fun j e => by injection e with e; exact .inr (.inl e.symm)))
            clear hq3 hg3 hw3 hl8 k0 k1
            rw [show goInt (bvals (((nowsL V).drop a).take 8)).length = Value.int .i64 8 from by rw [HCL.out]; rfl]
            refine hK.out _ _ ?_
            clear hK K
            (try simp only [Act.put, List.getElem_toArray, List.getElem_cons_succ, List.getElem_cons_zero, List.setIfInBounds_toArray, List.set_cons_zero, List.set_cons_succ])
            refine wpAnyF_done (by kernel_rfl) ?_ _
            clear HCL HPO HFT
            have c2 : w2.cell? ⟨r.g, 2, none⟩ = some (.slice (some ⟨r.bp, 0, none⟩) M M) := HWw2.out.cell 2
            have c3 : w2.cell? ⟨r.g, 3, none⟩ = some (.slice (some ⟨r.bm, 0, none⟩) M M) := HWw2.out.cell 3
            obtain ⟨⟨bp1, p1⟩, ⟨bm1, p2⟩, p3, p4⟩ := HWw2.out.pm hiM
            have n1 := HWw2.out.lt
            have n2 := HWw2.out.ne
            have n3 : ¬ r.g = r.bm := by omega
            have n4 : ¬ r.bp = r.bm := n2.2.2.2.2.2
            have HG : Hid (FeR w1 r L N M kv1 av1 pl1 s.off u1 (s.k + 1) al1 ws (.int .i64 ((i : Int) + 1)) ((w2.setCell ⟨r.bm, i, none⟩ (.bool false)).setCell ⟨r.bp, i, none⟩ (.bool false))) := Lib.hid (by
              have e1 := (HWw2.out.setMark i false).setPend i false
              refine ⟨i + 1, by simp, by have := HIM.out; omega, ?_, ?_⟩
              · unfold RL
                rw [← turnW_next (fun _ => Wd.fe) (Nat.zero_le i) HX.out]
                have hxx : (turnW (fun _ => Wd.fe) 0 i ws)[i]? = some x := turnW_here _ HX.out
                rw [HY.out, List.map_set, List.map_set, set_lasts HOKV.out hxx (show x.keep.lasts.length = 8 from HXO.out.n), same_now hxx (show x.keep.now = x.now from rfl), ← HV.out, show x.keep.lasts = x.now from rfl, ← take8_now HOKV2.out HXV.out, ← HAA.out.1]
                exact e1
              · exact (((HT0.out.trans (S' := R5 r) HTw2.out (fun _ _ q => q)).trans (S' := R5 r) (Turns.set (S := R5 r) ⟨r.bm, i, none⟩ _ (.inr (.inr (.inr (.inr rfl))))) (fun _ _ q => q)).trans (S' := R5 r) (Turns.set (S := R5 r) ⟨r.bp, i, none⟩ _ (.inr (.inr (.inr (.inl rfl))))) (fun _ _ q => q)))
            clear n1 n2
            go_wp2_with fail
            go_roundw
            case rel => exact HG.out
            case measure => have := HIM.out; simp [intOf]; omega
        · have hlti : ¬ (i : Int) < (M : Int) := by omega
          obtain rfl : i = 8 * L := by have := HLM.out; omega
          have HF : Hid (RTo w r L N M kv av (.returned (.int .i64 0)) (s.done 3 0 0 (turnW (fun _ => Wd.fe) 0 (8 * L) s.ws)) (.returned (.int .i64 0)) wr) := Lib.hid (by
            rw [← HWS.out]
            refine loop_end HR1.out.1 HR1.out.2.1 HR1.out.2.2 ?_ HT0.out (turnW_ok _ (fun _ _ => fe_ok) 0 _ HOK0.out.1) (by rw [turnW_len]; exact HLM.out.1) (turnW_mk _ (fun _ _ => fe_mk) 0 _ HOK0.out.2) _
            rw [← HDN.out.1, ← HDN.out.2]
            exact HR.out)
          clear hrl htt
          go_wp2
          go_ret
          rw [HE2.out]
          exact HF.out
  · obtain ⟨e1, e2⟩ := act_no 3 (turnW (fun _ => Wd.fe) 0 (8 * L) s.ws) hq
    have HF := Lib.hid (h.stay (.returned (.int .i64 (refS8 L s.off 0 0))))
    rw [e1, e2]
    generalize refS8 L s.off 0 0 = q at *
    have hq1 : ((q : Int) == 0) = false := by rw [beq_eq_false_iff_ne]; exact hq
    have hq2 : ((q : Int) != 0) = true := by rw [bne_iff_ne]; exact hq
    clear h hk hpl hq e1 e2
    go_enter Try.func29, Try.ntmps29
    go_wp2_with fail
    refine HRD.out.mono ?_
    rintro e w0 ⟨rfl, rfl⟩
    go_wp2
    go_ret
    exact HF.out
end
section
open Go.RowKit Go
set_option linter.unusedVariables false
set_option linter.unusedSimpArgs false
set_option maxRecDepth 100000
/-- behind some bytes -/
def StR (w : World) (r : RI) (L N M n : Nat) (kv av : Value) (pl : List Nat) (off : Bool) (u k : Nat) (al : List Value) (ws : List Wd) (at_ : Nat) (l : List Nat) (iv : Value) (W : World) : Prop :=
  ∃ i : Nat, iv = .int .i64 (i : Int) ∧ i ≤ n ∧ RL W r N M kv av pl off u k al (putW Wd.st at_ (l.take i) ws) ∧ Turns (R5 r) w W
theorem RW.ncell {W : World} {r : RI} {N M : Nat} {kv av : Value} {pl : List Nat} {off : Bool} {u k : Nat} {al : List Value} {la no : List Nat} {pe ma : List Bool} (h : RW W r N M kv av pl off u k al la no pe ma) {i : Nat} (hi : i < N) : ∃ v, W.cell? ⟨r.bn, i, none⟩ = some (.int .u8 v) := by
  have h1 := h.ln
  refine ⟨((no[i]'(by omega) : Nat) : Int), ?_⟩
  rw [blk_cell h.hn i, List.getElem?_toArray]
  unfold bvals
  rw [List.getElem?_map, List.getElem?_eq_getElem (by omega)]
  rfl
theorem st_lasts (at_ : Nat) (l : List Nat) (ws : List Wd) : lastsQ (putW Wd.st at_ l ws) = lastsQ ws := lastsL_put at_ l ws
theorem st_now {ws : List Wd} (h : OkM ws) (at_ : Nat) (l : List Nat) (i : Nat) (hi : i < l.length) (hfit : at_ + l.length ≤ 8 * ws.length) : nowsL (putW Wd.st at_ (l.take (i + 1)) ws) = (nowsL (putW Wd.st at_ (l.take i) ws)).set (at_ + i) (l.getD i 0) := by
  have hl : ∀ j, j ≤ l.length → (l.take j).length = j := fun j hj => by rw [List.length_take]; omega
  rw [nowsL_put h _ _ (by rw [hl _ (by omega)]; omega), nowsL_put h _ _ (by rw [hl _ (by omega)]; omega)]
  have hn := nowsL_len h
  refine List.ext_getElem? fun p => ?_
  have e1 : splB (nowsL ws) at_ (l.take (i + 1)) = splice (nowsL ws) at_ (l.take (i + 1)) := rfl
  have e2 : splB (nowsL ws) at_ (l.take i) = splice (nowsL ws) at_ (l.take i) := rfl
  rw [e1, e2]
  by_cases hp : p = at_ + i
  · subst hp
    rw [List.getElem?_set_self (by rw [splice_len _ _ _ (by rw [hl _ (by omega)]; omega)]; omega), splice_get _ _ _ (by rw [hl _ (by omega)]; omega), hl _ (by omega), if_pos (by omega), List.getElem?_take_of_lt (by omega)]
    rw [show at_ + i - at_ = i by omega, List.getD_eq_getElem?_getD, List.getElem?_eq_getElem hi]
    rfl
  · rw [List.getElem?_set_ne (fun q => hp q.symm), splice_get _ _ _ (by rw [hl _ (by omega)]; omega), splice_get _ _ _ (by rw [hl _ (by omega)]; omega), hl _ (by omega), hl _ (by omega)]
    by_cases hin : at_ ≤ p ∧ p < at_ + i
    · rw [if_pos (by omega), if_pos hin, List.getElem?_take_of_lt (by omega), List.getElem?_take_of_lt (by omega)]
    · rw [if_neg (by omega), if_neg hin]
theorem st_flag (f : Wd → Bool) (z : Bool) (hf : ∀ x o q, f (Wd.st x o q) = z) {ws : List Wd} (at_ : Nat) (l : List Nat) (i : Nat) (hi : i < l.length) (hfit : at_ + l.length ≤ 8 * ws.length) : (putW Wd.st at_ (l.take (i + 1)) ws).map f = ((putW Wd.st at_ (l.take i) ws).map f).set ((at_ + i) / 8) z := by
  have hl : ∀ j, j ≤ l.length → (l.take j).length = j := fun j hj => by rw [List.length_take]; omega
  refine List.ext_getElem? fun j => ?_
  by_cases hj : j = (at_ + i) / 8
  · subst hj
    have hlt : (at_ + i) / 8 < ws.length := by omega
    rw [List.getElem?_set_self (by rw [List.length_map, putW_len]; exact hlt), List.getElem?_map, putW_at, List.getElem?_eq_getElem hlt, Option.map_some, Option.map_some]
    unfold putB
    rw [hl _ (by omega), if_pos (by omega), hf]
  · rw [List.getElem?_set_ne (fun q => hj q.symm), List.getElem?_map, List.getElem?_map, putW_at, putW_at]
    cases ws[j]? with
    | none => rfl
    | some x =>
      rw [Option.map_some, Option.map_some, Option.map_some, Option.map_some]
      congr 1
      unfold putB
      rw [hl _ (by omega), hl _ (by omega)]
      by_cases hc : max (8 * j) at_ < min (8 * j + 8) (at_ + i)
      · rw [if_pos (by omega), if_pos hc, hf, hf]
      · rw [if_neg (by omega), if_neg hc]
theorem st_pend {ws : List Wd} (at_ : Nat) (l : List Nat) (i : Nat) (hi : i < l.length) (hfit : at_ + l.length ≤ 8 * ws.length) : (putW Wd.st at_ (l.take (i + 1)) ws).map (·.pend) = ((putW Wd.st at_ (l.take i) ws).map (·.pend)).set ((at_ + i) / 8) true := st_flag (·.pend) true (fun _ _ _ => rfl) at_ l i hi hfit
theorem st_mark {ws : List Wd} (at_ : Nat) (l : List Nat) (i : Nat) (hi : i < l.length) (hfit : at_ + l.length ≤ 8 * ws.length) : (putW Wd.st at_ (l.take (i + 1)) ws).map (·.mark) = ((putW Wd.st at_ (l.take i) ws).map (·.mark)).set ((at_ + i) / 8) false := st_flag (·.mark) false (fun _ _ _ => rfl) at_ l i hi hfit
set_option maxHeartbeats 8000000 in
theorem rstore_R (r : RI) (L N M n c9 at_ : Nat) (kv av : Value) (pl : List Nat) (s : DSt) (A : Option Addr) (l : List Nat) (w : World) (h : RV w r L N M kv av pl s) (hk : s.k < 16384) (hpl : pl.length ≤ 1000000) (hb : BS w w.heap.size A n c9 l) (hoff : 0 < n → ∀ ad, A = some ad → ¬ RS r kv av ad.block) (hat : (at_ : Int) ≤ 9223372036854775807) :
    Calls Try.prog 27 #[.pointer (some ⟨r.g, 0, none⟩), .int .i64 (at_ : Int), .slice A n c9] w (RTo w r L N M kv av (.returned (.int .i64 (actE s L (at_ : Int) (n : Int)))) (actS s L 1 (at_ : Int) (n : Int) (putW Wd.st at_ l s.ws))) := by
  have hN := h.sz.1
  have hL1 := h.L1
  have hcap := hb.cap
  have HB := Lib.hid hb
  have HOFF := Lib.hid hoff
  have HSZ := Lib.hid (And.intro hN hL1)
  obtain ⟨a, ha⟩ : ∃ a : Int, a = (at_ : Int) := ⟨_, rfl⟩
  clear ha a
  have HRD := Lib.hid (ready_R r L N M kv av pl s (at_ : Int) (n : Int) (by omega) w h)
  clear hN hL1 hcap
  by_cases hq : refS8 L s.off (at_ : Int) (n : Int) = 0
  · by_cases hu : s.u = 1
    · obtain ⟨e1, e2⟩ := act_blow 1 (putW Wd.st at_ l s.ws) hq hu
      rw [e1, e2]
      rw [hq] at HRD
      have HAC := Lib.hid (ract_blow r L N M kv av pl s 1 (at_ : Int) (n : Int) w h (act_on hq).1 hu hpl)
      clear h hk hpl hq hu e1 e2 hb hoff hat
      go_enter Try.func27, Try.ntmps27
      go_wp2_with fail
      refine HRD.out.mono ?_
      rintro e w0 ⟨rfl, rfl⟩
      go_wp2_with fail
      refine HAC.out.mono ?_
      rintro e w1 ⟨rfl, hq⟩
      have HQ := Lib.hid hq
      clear hq
      go_wp2
      go_ret
      exact ⟨rfl, HQ.out⟩
    · obtain ⟨e1, e2⟩ := act_go 1 (putW Wd.st at_ l s.ws) hq hu
      have HE2 := Lib.hid e2
      rw [e1]
      have HRG : Hid (at_ + n ≤ N) := Lib.hid (by have h2 := of_decide_eq_true (act_on hq).2; have := HSZ.out; omega)
      rw [hq] at HRD
      have HAC := Lib.hid (ract_go r L N M kv av pl s 1 (at_ : Int) (n : Int) w h hu hk)
      have HH := Lib.hid h
      clear h hk hpl hq hu e1 e2
      go_enter Try.func27, Try.ntmps27
      go_wp2_with fail
      refine HRD.out.mono ?_
      rintro e w0 ⟨rfl, rfl⟩
      go_wp2_with fail
      refine HAC.out.mono ?_
      rintro e w1 ⟨rfl, kv1, av1, pl1, hr1, ht1, ho1⟩
      have HR1 := Lib.hid (And.intro hr1 (And.intro ht1 ho1))
      obtain ⟨ws, hws⟩ : ∃ ws, ws = s.ws := ⟨_, rfl⟩
      have HWS := Lib.hid hws
      have HLM : Hid (ws.length = 8 * L ∧ L ≤ 1024 ∧ N = 64 * L ∧ M = 8 * L) := Lib.hid ⟨by rw [hws]; exact hr1.len, hr1.L1, hr1.sz⟩
      have HOK0 : Hid (OkM ws ∧ MkP ws) := Lib.hid (by rw [hws]; exact ⟨hr1.ok, hr1.mkp⟩)
      obtain ⟨u1, hu1⟩ : ∃ u1, u1 = s.u - 1 := ⟨_, rfl⟩
      obtain ⟨al1, hal1⟩ : ∃ al1, al1 = s.al ++ actV 1 (at_ : Int) (n : Int) := ⟨_, rfl⟩
      have HDN := Lib.hid (And.intro hu1 hal1)
      have hst : RL w1 r N M kv1 av1 pl1 s.off u1 (s.k + 1) al1 ws := by rw [hws, hu1, hal1]; exact hr1.w
      have HB1 : Hid (∀ W, Turns (R5 r) w1 W → BS W 0 A n c9 l ∨ True) := Lib.hid (fun _ _ => .inr trivial)
      have HBY : Hid (∀ W, Turns (R5 r) w1 W → ∀ i, i < n → ∃ xb xo, A = some ⟨xb, xo, none⟩ ∧ W.cell? ⟨xb, xo + i, none⟩ = some (.int .u8 ((l.getD i 0 : Nat) : Int))) := Lib.hid (fun W hW i hi => by
        obtain ⟨xb, xo, hA, hxb, hxc⟩ := HB.out.at_ (show 0 < n by omega)
        have h0 := HOFF.out (show 0 < n by omega) _ hA
        refine ⟨xb, xo, hA, ?_⟩
        exact (World.cell?_of_block (hW.block xb (Nat.lt_of_lt_of_le hxb ht1.size) (fun q => h0 (r5_rs r kv av q)))).trans ((World.cell?_of_block (ht1.block xb hxb h0)).trans (hxc i hi)))
      have HST : Hid (StR w1 r L N M n kv1 av1 pl1 s.off u1 (s.k + 1) al1 ws at_ l (.int .i64 0) w1) := Lib.hid ⟨0, rfl, by omega, by rw [List.take_zero, putW_none]; exact hst, Turns.of_below (Below.refl _ _)⟩
      clear hr1 ht1 ho1 hws hst hu1 hal1 HRD HAC HB1
      go_wp2_with fail
      go_loopw [27] (fun iv wr => StR w1 r L N M n kv1 av1 pl1 s.off u1 (s.k + 1) al1 ws at_ l iv wr) (fun iv _ => (n - (intOf iv).toNat))
      case atStart => exact HST.out
      case round =>
        clear HST
        obtain ⟨i, rfl, hi, hrl, htt⟩ := hrel
        have HR := Lib.hid hrl
        have HT0 := Lib.hid htt
        by_cases hlt : i < n
        · have hlti : (i : Int) < (n : Int) := by omega
          obtain ⟨xb, xo, hA, hbc⟩ := HBY.out wr htt i hlt
          obtain ⟨p, hp⟩ : ∃ p, p = at_ + i := ⟨_, rfl⟩
          obtain ⟨q, hq⟩ : ∃ q, q = p / 8 := ⟨_, rfl⟩
          obtain ⟨v, hv⟩ : ∃ v, v = l.getD i 0 := ⟨_, rfl⟩
          rw [← hv] at hbc
          subst hA
          have hpN : p < N := by have := HRG.out; omega
          have hqM : q < M := by have := HRG.out; have := HLM.out; omega
          have hL9 := HLM.out
          have hi9 : i ≤ 65536 := by have := HRG.out; omega
          have hwi : IntKind.i64.wrap ((i : Int) + 1) = (i : Int) + 1 := IntWalk.i64_in _ ⟨by omega, by omega⟩
          have hwp : IntKind.i64.wrap ((at_ : Int) + (i : Int)) = (p : Int) := by rw [show (at_ : Int) + (i : Int) = (p : Int) by omega]; exact IntWalk.i64_in _ ⟨by omega, by omega⟩
          have hdv : (p : Int).tdiv 8 = (q : Int) := by rw [hq]; exact Int.ofNat_tdiv p 8
          have hdw : IntKind.i64.wrap ((p : Int) / 8) = (q : Int) := by rw [show (p : Int) / 8 = (q : Int) by omega]; exact IntWalk.i64_in _ ⟨by omega, by omega⟩
          have hdd : (p : Int) / 8 = (q : Int) := by omega
          have hwq : IntKind.i64.wrap (q : Int) = (q : Int) := IntWalk.i64_in _ ⟨by omega, by omega⟩
          have hpNi : (p : Int) < (N : Int) := by omega
          have hqMi : (q : Int) < (M : Int) := by omega
          have HIM : Hid (i < n ∧ p = at_ + i ∧ q = p / 8 ∧ v = l.getD i 0) := Lib.hid ⟨hlt, hp, hq, hv⟩
          unfold RL at HR
          have k1 : wr.cell? ⟨r.g, 1, none⟩ = some (.slice (some ⟨r.bn, 0, none⟩) N N) := HR.out.cell 1
          have k2 : wr.cell? ⟨r.g, 2, none⟩ = some (.slice (some ⟨r.bp, 0, none⟩) M M) := HR.out.cell 2
          have k3 : wr.cell? ⟨r.g, 3, none⟩ = some (.slice (some ⟨r.bm, 0, none⟩) M M) := HR.out.cell 3
          obtain ⟨⟨bp1, p1⟩, ⟨bm1, p2⟩, p3, p4⟩ := HR.out.pm hqM
          obtain ⟨ov, hov⟩ := HR.out.ncell hpN
          have hfr := blk_free HR.out.hn p
          have n1 := HR.out.lt
          have n2 := HR.out.ne
          have n3 : ¬ r.g = r.bn := by omega
          have n4 : ¬ r.g = r.bp := by omega
          have n5 : ¬ r.bp = r.bn := fun e => n2.2.2.2.1 e.symm
          have n6 : ¬ r.bm = r.bn := fun e => n2.2.2.2.2.1 e.symm
          have n7 : ¬ r.bm = r.bp := fun e => n2.2.2.2.2.2 e.symm
          have HG : Hid (StR w1 r L N M n kv1 av1 pl1 s.off u1 (s.k + 1) al1 ws at_ l (.int .i64 ((i : Int) + 1)) (((wr.setCell ⟨r.bn, p, none⟩ (.int .u8 (v : Int))).setCell ⟨r.bp, q, none⟩ (.bool true)).setCell ⟨r.bm, q, none⟩ (.bool false))) := Lib.hid (by
            have e1 := ((HR.out.setNow p v (by rw [HIM.out.2.2.2]; exact HB.out.byte i)).setPend q true).setMark q false
            refine ⟨i + 1, by simp, by have := HIM.out.1; omega, ?_, ?_⟩
            · have hil : i < l.length := by rw [HB.out.len]; exact HIM.out.1
              have hfit : at_ + l.length ≤ 8 * ws.length := by rw [HB.out.len, HLM.out.1]; have := HRG.out; have := HLM.out.2.2; omega
              unfold RL
              rw [st_lasts, ← st_lasts at_ (l.take i) ws, st_now HOK0.out.1 at_ l i hil hfit, st_pend at_ l i hil hfit, st_mark at_ l i hil hfit, ← HIM.out.2.1, ← HIM.out.2.2.1, ← HIM.out.2.2.2]
              exact e1
            · exact ((HT0.out.trans (S' := R5 r) (Turns.set (S := R5 r) ⟨r.bn, p, none⟩ _ (.inr (.inr (.inl rfl)))) (fun _ _ q => q)).trans (S' := R5 r) (Turns.set (S := R5 r) ⟨r.bp, q, none⟩ _ (.inr (.inr (.inr (.inl rfl))))) (fun _ _ q => q)).trans (S' := R5 r) (Turns.set (S := R5 r) ⟨r.bm, q, none⟩ _ (.inr (.inr (.inr (.inr rfl))))) (fun _ _ q => q))
          clear n1 n2 hrl htt hp hq hv hL9
          go_wp2_with fail
          go_roundw
          case rel => exact HG.out
          case measure => have := HIM.out.1; simp [intOf]; omega
        · have hlti : ¬ (i : Int) < (n : Int) := by omega
          obtain rfl : i = n := by omega
          have HF : Hid (RTo w r L N M kv av (.returned (.int .i64 0)) (s.done 1 (at_ : Int) (i : Int) (putW Wd.st at_ l s.ws)) (.returned (.int .i64 0)) wr) := Lib.hid (by
            rw [← HWS.out]
            have hll := HB.out.len
            refine loop_end HR1.out.1 HR1.out.2.1 HR1.out.2.2 ?_ HT0.out (putW_ok Wd.st (fun x hx f q hf hq => hx.st hf hq) at_ l (bs_bytes HB.out) HOK0.out.1) (by rw [putW_len]; exact HLM.out.1) (putW_mk Wd.st (fun x hx f q h => by cases h) at_ l HOK0.out.2) _
            rw [← HDN.out.1, ← HDN.out.2]
            have h9 := HR.out
            rw [List.take_of_length_le (by omega)] at h9
            exact h9)
          clear hrl htt
          go_wp2
          go_ret
          rw [HE2.out]
          exact HF.out
  · obtain ⟨e1, e2⟩ := act_no 1 (putW Wd.st at_ l s.ws) hq
    have HF := Lib.hid (h.stay (.returned (.int .i64 (refS8 L s.off (at_ : Int) (n : Int)))))
    rw [e1, e2]
    generalize refS8 L s.off (at_ : Int) (n : Int) = q at *
    have hq1 : ((q : Int) == 0) = false := by rw [beq_eq_false_iff_ne]; exact hq
    have hq2 : ((q : Int) != 0) = true := by rw [bne_iff_ne]; exact hq
    clear h hk hpl hq e1 e2 hb hoff hat
    go_enter Try.func27, Try.ntmps27
    go_wp2_with fail
    refine HRD.out.mono ?_
    rintro e w0 ⟨rfl, rfl⟩
    go_wp2
    go_ret
    exact HF.out
end
section
open Go.RowKit Go
set_option linter.unusedVariables false
set_option linter.unusedSimpArgs false
set_option maxRecDepth 100000
/-- up to which word the lines of the bytes ahead of i reach -/
def hiF (at_ i : Nat) : Nat := if i ≤ at_ then 8 * (at_ / 64) else 8 * ((i - 1) / 64 + 1)
theorem hiF_at (at_ : Nat) : hiF at_ at_ = 8 * (at_ / 64) := if_pos (Nat.le_refl _)
theorem hiF_zero {at_ i : Nat} (h : at_ ≤ i) : max (hiF at_ i) (8 * (i / 64) + 0) = hiF at_ i := by
  unfold hiF
  split
  · have : i = at_ := by omega
    subst this
    omega
  · omega
theorem hiF_eight {at_ i : Nat} (h : at_ ≤ i) : max (hiF at_ i) (8 * (i / 64) + 8) = hiF at_ (i + 1) := by
  unfold hiF
  rw [if_neg (show ¬ i + 1 ≤ at_ by omega)]
  split
  · omega
  · omega
theorem flush_end (at_ n : Nat) (ws : List Wd) : flushW at_ n ws = turnW (fun _ => Wd.fl) (8 * (at_ / 64)) (hiF at_ (at_ + n)) ws := by
  unfold flushW hiF
  by_cases h : n = 0
  · subst h
    rw [if_pos rfl, if_pos (by omega), turnW_none]
  · rw [if_neg h, if_neg (by omega)]
theorem flushW_ok {at_ n : Nat} {ws : List Wd} (h : OkM ws) : OkM (flushW at_ n ws) := by
  rw [flush_end]
  exact turnW_ok _ (fun _ x hx => hx.fl) _ _ h
theorem flushW_mk {at_ n : Nat} {ws : List Wd} (h : MkP ws) : MkP (flushW at_ n ws) := by
  rw [flush_end]
  exact turnW_mk _ (fun _ x _ h => h) _ _ h
theorem fl_here {ws : List Wd} {j : Nat} {x : Wd} (hx : ws[j]? = some x) (a h : Nat) : ∃ y, (turnW (fun _ => Wd.fl) a h ws)[j]? = some y ∧ y.pend = x.pend := by
  rw [turnW_at, hx]
  refine ⟨_, rfl, ?_⟩
  split <;> rfl
theorem fl_map {β : Type} (p : Wd → β) (hp : ∀ x : Wd, p x.fl = p x) (a h : Nat) (ws : List Wd) : (turnW (fun _ => Wd.fl) a h ws).map p = ws.map p := by
  refine List.ext_getElem? fun i => ?_
  rw [List.getElem?_map, List.getElem?_map, turnW_at]
  cases ws[i]? with
  | none => rfl
  | some x =>
    rw [Option.map_some, Option.map_some, Option.map_some]
    split
    · rw [hp]
    · rfl
/-- one word's mark is put as it is pending -/
theorem fl_step {ws : List Wd} {a j h : Nat} {x : Wd} (hx : ws[j]? = some x) (ha : a ≤ j) (hj : j ≤ h) :
    lastsQ (turnW (fun _ => Wd.fl) a (max h (j + 1)) ws) = lastsQ (turnW (fun _ => Wd.fl) a h ws) ∧ nowsL (turnW (fun _ => Wd.fl) a (max h (j + 1)) ws) = nowsL (turnW (fun _ => Wd.fl) a h ws) ∧
    (turnW (fun _ => Wd.fl) a (max h (j + 1)) ws).map (·.pend) = (turnW (fun _ => Wd.fl) a h ws).map (·.pend) ∧ (turnW (fun _ => Wd.fl) a (max h (j + 1)) ws).map (·.mark) = ((turnW (fun _ => Wd.fl) a h ws).map (·.mark)).set j x.pend := by
  refine ⟨by rw [lastsL_fl, lastsL_fl], by rw [nowsL_fl, nowsL_fl], by rw [fl_map (·.pend) (fun _ => rfl), fl_map (·.pend) (fun _ => rfl)], ?_⟩
  have hjl : j < ws.length := (List.getElem?_eq_some_iff.mp hx).1
  refine List.ext_getElem? fun i => ?_
  by_cases hi : i = j
  · subst hi
    rw [List.getElem?_set_self (by rw [List.length_map, turnW_len]; exact hjl), List.getElem?_map, turnW_at, hx, Option.map_some, Option.map_some, if_pos (by omega)]
    rfl
  · rw [List.getElem?_set_ne (fun q => hi q.symm), List.getElem?_map, List.getElem?_map, turnW_at, turnW_at]
    cases ws[i]? with
    | none => rfl
    | some y =>
      rw [Option.map_some, Option.map_some, Option.map_some, Option.map_some]
      by_cases hc : a ≤ i ∧ i < h
      · rw [if_pos (by omega), if_pos hc]
      · rw [if_neg (by omega), if_neg hc]
def FlR (w : World) (r : RI) (L N M n : Nat) (kv av : Value) (pl : List Nat) (off : Bool) (u k : Nat) (al : List Value) (ws : List Wd) (at_ : Nat) (iv : Value) (W : World) : Prop :=
  ∃ i : Nat, iv = .int .i64 (i : Int) ∧ at_ ≤ i ∧ i ≤ at_ + n ∧ RL W r N M kv av pl off u k al (turnW (fun _ => Wd.fl) (8 * (at_ / 64)) (hiF at_ i) ws) ∧ Turns (R5 r) w W
def FlI (w : World) (r : RI) (L N M : Nat) (kv av : Value) (pl : List Nat) (off : Bool) (u k : Nat) (al : List Value) (ws : List Wd) (at_ i : Nat) (kx : Value) (W : World) : Prop :=
  ∃ q : Nat, kx = .int .i64 (q : Int) ∧ q ≤ 8 ∧ RL W r N M kv av pl off u k al (turnW (fun _ => Wd.fl) (8 * (at_ / 64)) (max (hiF at_ i) (8 * (i / 64) + q)) ws) ∧ Turns (R5 r) w W
set_option maxHeartbeats 8000000 in
theorem rflush_R (r : RI) (L N M n at_ : Nat) (kv av : Value) (pl : List Nat) (s : DSt) (w : World) (h : RV w r L N M kv av pl s) (hk : s.k < 16384) (hpl : pl.length ≤ 1000000) (hat : (n : Int) ≤ 9223372036854775807) :
    Calls Try.prog 28 #[.pointer (some ⟨r.g, 0, none⟩), .int .i64 (at_ : Int), .int .i64 (n : Int)] w (RTo w r L N M kv av (.returned (.int .i64 (actE s L (at_ : Int) (n : Int)))) (actS s L 2 (at_ : Int) (n : Int) (flushW at_ n s.ws))) := by
  have hN := h.sz.1
  have hL1 := h.L1
  have HSZ := Lib.hid (And.intro hN hL1)
  have HRD := Lib.hid (ready_R r L N M kv av pl s (at_ : Int) (n : Int) (by omega) w h)
  clear hN hL1
  by_cases hq : refS8 L s.off (at_ : Int) (n : Int) = 0
  · by_cases hu : s.u = 1
    · obtain ⟨e1, e2⟩ := act_blow 2 (flushW at_ n s.ws) hq hu
      rw [e1, e2]
      rw [hq] at HRD
      have HAC := Lib.hid (ract_blow r L N M kv av pl s 2 (at_ : Int) (n : Int) w h (act_on hq).1 hu hpl)
      clear h hk hpl hq hu e1 e2
      go_enter Try.func28, Try.ntmps28
      go_wp2_with fail
      refine HRD.out.mono ?_
      rintro e w0 ⟨rfl, rfl⟩
      go_wp2_with fail
      refine HAC.out.mono ?_
      rintro e w1 ⟨rfl, hq⟩
      have HQ := Lib.hid hq
      clear hq
      go_wp2
      go_ret
      exact ⟨rfl, HQ.out⟩
    · obtain ⟨e1, e2⟩ := act_go 2 (flushW at_ n s.ws) hq hu
      have HE2 := Lib.hid e2
      rw [e1]
      have HRG : Hid (at_ + n ≤ N) := Lib.hid (by have h2 := of_decide_eq_true (act_on hq).2; have := HSZ.out; omega)
      rw [hq] at HRD
      have HAC := Lib.hid (ract_go r L N M kv av pl s 2 (at_ : Int) (n : Int) w h hu hk)
      have HH := Lib.hid h
      clear h hk hpl hq hu e1 e2
      go_enter Try.func28, Try.ntmps28
      go_wp2_with fail
      refine HRD.out.mono ?_
      rintro e w0 ⟨rfl, rfl⟩
      go_wp2_with fail
      refine HAC.out.mono ?_
      rintro e w1 ⟨rfl, kv1, av1, pl1, hr1, ht1, ho1⟩
      have HR1 := Lib.hid (And.intro hr1 (And.intro ht1 ho1))
      obtain ⟨ws, hws⟩ : ∃ ws, ws = s.ws := ⟨_, rfl⟩
      have HWS := Lib.hid hws
      have HLM : Hid (ws.length = 8 * L ∧ L ≤ 1024 ∧ N = 64 * L ∧ M = 8 * L) := Lib.hid ⟨by rw [hws]; exact hr1.len, hr1.L1, hr1.sz⟩
      have HOK0 : Hid (OkM ws ∧ MkP ws) := Lib.hid (by rw [hws]; exact ⟨hr1.ok, hr1.mkp⟩)
      obtain ⟨u1, hu1⟩ : ∃ u1, u1 = s.u - 1 := ⟨_, rfl⟩
      obtain ⟨al1, hal1⟩ : ∃ al1, al1 = s.al ++ actV 2 (at_ : Int) (n : Int) := ⟨_, rfl⟩
      have HDN := Lib.hid (And.intro hu1 hal1)
      have hst : RL w1 r N M kv1 av1 pl1 s.off u1 (s.k + 1) al1 ws := by rw [hws, hu1, hal1]; exact hr1.w
      have HST : Hid (FlR w1 r L N M n kv1 av1 pl1 s.off u1 (s.k + 1) al1 ws at_ (.int .i64 (at_ : Int)) w1) := Lib.hid ⟨at_, rfl, Nat.le_refl _, by omega, by rw [hiF_at, turnW_none]; exact hst, Turns.of_below (Below.refl _ _)⟩
      clear hr1 ht1 ho1 hws hst hu1 hal1 HRD HAC
      go_wp2_with fail
      go_loopw [8] (fun iv wr => FlR w1 r L N M n kv1 av1 pl1 s.off u1 (s.k + 1) al1 ws at_ iv wr) (fun iv _ => (at_ + n - (intOf iv).toNat))
      case atStart => exact HST.out
      case round =>
        clear HST
        obtain ⟨i, rfl, hi1, hi2, hrl, htt⟩ := hrel
        have HR := Lib.hid hrl
        have HT0 := Lib.hid htt
        obtain ⟨en, hen⟩ : ∃ en, en = at_ + n := ⟨_, rfl⟩
        have hrg := HRG.out
        have hL9 := HLM.out
        have hwe : IntKind.i64.wrap ((at_ : Int) + (n : Int)) = (en : Int) := by rw [show (at_ : Int) + (n : Int) = (en : Int) by omega]; exact IntWalk.i64_in _ ⟨by omega, by omega⟩
        by_cases hlt : i < en
        · have hlti : (i : Int) < (en : Int) := by omega
          have hi9 : i ≤ 65536 := by omega
          have hwi : IntKind.i64.wrap ((i : Int) + 1) = (i : Int) + 1 := IntWalk.i64_in _ ⟨by omega, by omega⟩
          obtain ⟨li, hli⟩ : ∃ li, li = i / 64 := ⟨_, rfl⟩
          obtain ⟨a8, ha8⟩ : ∃ a8, a8 = li * 8 := ⟨_, rfl⟩
          have hdi : (i : Int) / 64 = (li : Int) := by omega
          have hdt : (i : Int).tdiv 64 = (li : Int) := by rw [hli]; exact Int.ofNat_tdiv i 64
          have hwl : IntKind.i64.wrap (li : Int) = (li : Int) := IntWalk.i64_in _ ⟨by omega, by omega⟩
          have hwa : IntKind.i64.wrap ((li : Int) * 8) = (a8 : Int) := by rw [show (li : Int) * 8 = (a8 : Int) by omega]; exact IntWalk.i64_in _ ⟨by omega, by omega⟩
          have HI : Hid (at_ ≤ i ∧ i < at_ + n ∧ a8 = 8 * (i / 64) ∧ i < N) := Lib.hid (by omega)
          have HIN : Hid (FlI w1 r L N M kv1 av1 pl1 s.off u1 (s.k + 1) al1 ws at_ i (.int .i64 0) wr) := Lib.hid ⟨0, rfl, by omega, by rw [hiF_zero hi1]; exact hrl, htt⟩
          clear hrl htt hi1 hi2 hen hrg hL9 hli ha8 HR HT0
          go_wp2_with fail
          go_loopw [9] (fun kx wr => FlI w1 r L N M kv1 av1 pl1 s.off u1 (s.k + 1) al1 ws at_ i kx wr) (fun kx _ => (8 - (intOf kx).toNat))
          case atStart => exact HIN.out
          case round =>
            clear HIN
            obtain ⟨k, rfl, hk8, hrl, htt⟩ := hrel
            have HR := Lib.hid hrl
            have HT0 := Lib.hid htt
            by_cases hkl : k < 8
            · have hkli : (k : Int) < 8 := by omega
              obtain ⟨j, hj⟩ : ∃ j, j = a8 + k := ⟨_, rfl⟩
              have hI := HI.out
              have hL9 := HLM.out
              have hjM : j < M := by omega
              have hjMi : (j : Int) < (M : Int) := by omega
              have ha9 : a8 ≤ 8192 := by omega
              have hwj : IntKind.i64.wrap ((a8 : Int) + (k : Int)) = (j : Int) := by rw [show (a8 : Int) + (k : Int) = (j : Int) by omega]; exact IntWalk.i64_in _ ⟨by omega, by omega⟩
              have hwk : IntKind.i64.wrap ((k : Int) + 1) = (k : Int) + 1 := IntWalk.i64_in _ ⟨by omega, by omega⟩
              obtain ⟨x, hx⟩ : ∃ x, ws[j]? = some x := ⟨_, List.getElem?_eq_getElem (by omega)⟩
              obtain ⟨hh, hhh⟩ : ∃ hh, hh = max (hiF at_ i) (8 * (i / 64) + k) := ⟨_, rfl⟩
              rw [← hhh] at HR hrl
              have hjh : j ≤ hh := by omega
              have haj : 8 * (at_ / 64) ≤ j := by omega
              obtain ⟨y, hy, hyp⟩ := fl_here hx (8 * (at_ / 64)) hh
              have hpc := (RL.pcell hrl hy).1
              rw [hyp] at hpc
              have HM9 : Hid (max hh (j + 1) = max (hiF at_ i) (8 * (i / 64) + (k + 1))) := Lib.hid (by omega)
              unfold RL at HR
              have k2 : wr.cell? ⟨r.g, 2, none⟩ = some (.slice (some ⟨r.bp, 0, none⟩) M M) := HR.out.cell 2
              have k3 : wr.cell? ⟨r.g, 3, none⟩ = some (.slice (some ⟨r.bm, 0, none⟩) M M) := HR.out.cell 3
              obtain ⟨⟨bp1, p1⟩, ⟨bm1, p2⟩, p3, p4⟩ := HR.out.pm hjM
              have HG : Hid (FlI w1 r L N M kv1 av1 pl1 s.off u1 (s.k + 1) al1 ws at_ i (.int .i64 ((k : Int) + 1)) (wr.drew.setCell ⟨r.bm, j, none⟩ (.bool x.pend))) := Lib.hid (by
                have e1 := (HR.out.next (Below.refl _ _).drew).setMark j x.pend
                refine ⟨k + 1, by simp, by omega, ?_, ?_⟩
                · rw [← HM9.out]
                  unfold RL
                  obtain ⟨f1, f2, f3, f4⟩ := fl_step hx haj hjh
                  rw [f1, f2, f3, f4]
                  exact e1
                · exact (HT0.out.trans (S' := R5 r) (Turns.of_below (Below.refl _ _).drew) (fun _ _ q => q)).trans (S' := R5 r) (Turns.set (S := R5 r) ⟨r.bm, j, none⟩ _ (.inr (.inr (.inr (.inr rfl))))) (fun _ _ q => q))
              clear hrl htt hj hI hL9 hx hhh hjh haj hy hyp p1
              generalize x.pend = xp at *
              go_upto_region 13 with (fail)
              refine wp_region_F (S := fun w' => w' = wr.drew) [13] (by kernel_rfl) (rfl) (fun hHeld => ?_)
              refine wpAnyG_take (i := 0) (oi := _) (v := ?_) rfl (by kernel_rfl) (by kernel_rfl) (by kernel_rfl) (by kernel_rfl) (by kernel_rfl) (fun _ _ _ h => h) (Or.inl ⟨by rfl, ?_⟩) (by assumption) ?_
              rotate_left 1
              · intro w hSw
                (try dsimp only at hSw)
                (first | (go_simp; done) | (go_simp; with_reducible rfl))
              (try simp only [Act.put, List.getElem_toArray, List.getElem_cons_succ, List.getElem_cons_zero, List.setIfInBounds_toArray, List.set_cons_zero, List.set_cons_succ])
              refine wpAnyG_take (i := 1) (oi := _) (v := ?_) rfl (by kernel_rfl) (by kernel_rfl) (by kernel_rfl) (by kernel_rfl) (by kernel_rfl) (fun _ _ _ h => h) (Or.inl ⟨by rfl, ?_⟩) (by assumption) ?_
              rotate_left 1
              · intro w hSw
                (try dsimp only at hSw)
                (first | (go_simp; done) | (go_simp; with_reducible rfl))
              (try simp only [Act.put, List.getElem_toArray, List.getElem_cons_succ, List.getElem_cons_zero, List.setIfInBounds_toArray, List.set_cons_zero, List.set_cons_succ])
              refine wpAnyG_take (i := 2) (oi := _) (v := ?_) rfl (by kernel_rfl) (by kernel_rfl) (by kernel_rfl) (by kernel_rfl) (by kernel_rfl) (fun _ _ _ h => h) (Or.inl ⟨by rfl, ?_⟩) (by assumption) ?_
              rotate_left 1
              · intro w hSw
                (try dsimp only at hSw)
                (first | (go_simp; done) | (go_simp; with_reducible rfl))
              (try simp only [Act.put, List.getElem_toArray, List.getElem_cons_succ, List.getElem_cons_zero, List.setIfInBounds_toArray, List.set_cons_zero, List.set_cons_succ])
              refine wpAnyG_take (i := 3) (oi := _) (v := ?_) rfl (by kernel_rfl) (by kernel_rfl) (by kernel_rfl) (by kernel_rfl) (by kernel_rfl) (fun _ _ _ h => h) (Or.inl ⟨by rfl, ?_⟩) (by assumption) ?_
              rotate_left 1
              · intro w hSw
                (try dsimp only at hSw)
                (first | (go_simp; done) | (go_simp; with_reducible rfl))
              (try simp only [Act.put, List.getElem_toArray, List.getElem_cons_succ, List.getElem_cons_zero, List.setIfInBounds_toArray, List.set_cons_zero, List.set_cons_succ])
              refine wpAnyG_take (i := 4) (oi := _) (v := ?_) rfl (by kernel_rfl) (by kernel_rfl) (by kernel_rfl) (by kernel_rfl) (by kernel_rfl) (fun _ _ _ h => h) (Or.inl ⟨by rfl, ?_⟩) (by assumption) ?_
              rotate_left 1
              · intro w hSw
                (try dsimp only at hSw)
                (first | (go_simp; done) | (go_simp; with_reducible rfl))
              (try simp only [Act.put, List.getElem_toArray, List.getElem_cons_succ, List.getElem_cons_zero, List.setIfInBounds_toArray, List.set_cons_zero, List.set_cons_succ])
              refine wpAnyG_take (i := 5) (oi := _) (v := ?_) rfl (by kernel_rfl) (by kernel_rfl) (by kernel_rfl) (by kernel_rfl) (by kernel_rfl) (fun _ _ _ h => h) (Or.inl ⟨by rfl, ?_⟩) (by assumption) ?_
              rotate_left 1
              · intro w hSw
                (try dsimp only at hSw)
                (first | (go_simp; done) | (go_simp; with_reducible rfl))
              (try simp only [Act.put, List.getElem_toArray, List.getElem_cons_succ, List.getElem_cons_zero, List.setIfInBounds_toArray, List.set_cons_zero, List.set_cons_succ])
              refine wpAnyG_take (i := 6) (oi := _) (v := ?_) rfl (by kernel_rfl) (by kernel_rfl) (by kernel_rfl) (by kernel_rfl) (by kernel_rfl) (fun _ _ _ h => h) (Or.inl ⟨by rfl, ?_⟩) (by assumption) ?_
              rotate_left 1
              · intro w hSw
                (try dsimp only at hSw)
                (first | (go_simp; done) | (go_simp; with_reducible rfl))
              (try simp only [Act.put, List.getElem_toArray, List.getElem_cons_succ, List.getElem_cons_zero, List.setIfInBounds_toArray, List.set_cons_zero, List.set_cons_succ])
              refine wpAnyG_take (i := 7) (oi := _) (v := ?_) rfl (by kernel_rfl) (by kernel_rfl) (by kernel_rfl) (by kernel_rfl) (by kernel_rfl) (fun _ _ _ h => h) (Or.inl ⟨by rfl, ?_⟩) (by assumption) ?_
              rotate_left 1
              · intro w hSw
                (try dsimp only at hSw)
                (first | (go_simp; done) | (go_simp; with_reducible rfl))
              (try simp only [Act.put, List.getElem_toArray, List.getElem_cons_succ, List.getElem_cons_zero, List.setIfInBounds_toArray, List.set_cons_zero, List.set_cons_succ])
              refine wpAnyG_take (i := 8) (oi := _) (v := ?_) rfl (by kernel_rfl) (by kernel_rfl) (by kernel_rfl) (by kernel_rfl) (by kernel_rfl) (fun _ _ _ h => h) (Or.inl ⟨by rfl, ?_⟩) (by assumption) ?_
              rotate_left 1
              · intro w hSw
                (try dsimp only at hSw)
                (first | (go_simp; done) | (go_simp; with_reducible rfl))
              (try simp only [Act.put, List.getElem_toArray, List.getElem_cons_succ, List.getElem_cons_zero, List.setIfInBounds_toArray, List.set_cons_zero, List.set_cons_succ])
              refine wpAnyG_take (i := 9) (oi := _) (v := ?_) rfl (by kernel_rfl) (by kernel_rfl) (by kernel_rfl) (by kernel_rfl) (by kernel_rfl) (fun _ _ _ h => h) (Or.inl ⟨by rfl, ?_⟩) (by assumption) ?_
              rotate_left 1
              · intro w hSw
                (try dsimp only at hSw)
                (first | (go_simp; done) | (go_simp; with_reducible rfl))
              (try simp only [Act.put, List.getElem_toArray, List.getElem_cons_succ, List.getElem_cons_zero, List.setIfInBounds_toArray, List.set_cons_zero, List.set_cons_succ])
              refine wpAnyG_take (i := 10) (oi := _) (v := ?_) rfl (by kernel_rfl) (by kernel_rfl) (by kernel_rfl) (by kernel_rfl) (by kernel_rfl) (fun _ _ _ h => h) (Or.inl ⟨by rfl, ?_⟩) (by assumption) ?_
              rotate_left 1
              · intro w hSw
                (try dsimp only at hSw)
                (first | (go_simp; done) | (go_simp; with_reducible rfl))
              (try simp only [Act.put, List.getElem_toArray, List.getElem_cons_succ, List.getElem_cons_zero, List.setIfInBounds_toArray, List.set_cons_zero, List.set_cons_succ])
              refine wpAnyG_take (i := 11) (oi := _) (v := ?_) rfl (by kernel_rfl) (by kernel_rfl) (by kernel_rfl) (by kernel_rfl) (by kernel_rfl) (fun _ _ _ h => h) (Or.inl ⟨by rfl, ?_⟩) (by assumption) ?_
              rotate_left 1
              · intro w hSw
                (try dsimp only at hSw)
                (first | (go_simp; done) | (go_simp; with_reducible rfl))
              (try simp only [Act.put, List.getElem_toArray, List.getElem_cons_succ, List.getElem_cons_zero, List.setIfInBounds_toArray, List.set_cons_zero, List.set_cons_succ])
              refine wpAnyG_take (i := 12) (oi := _) (v := ?_) rfl (by kernel_rfl) (by kernel_rfl) (by kernel_rfl) (by kernel_rfl) (by kernel_rfl) (fun _ _ _ h => h) (Or.inl ⟨by rfl, ?_⟩) (by assumption) ?_
              rotate_left 1
              · intro w hSw
                (try dsimp only at hSw)
                (first | (go_simp; done) | (go_simp; with_reducible rfl))
              (try simp only [Act.put, List.getElem_toArray, List.getElem_cons_succ, List.getElem_cons_zero, List.setIfInBounds_toArray, List.set_cons_zero, List.set_cons_succ])
              refine wpAnyF_ready (rs := [13]) (by kernel_rfl) (by simp) ?_
              refine AllReadyF.last (o := _) rfl (by rfl) (fun K hK => ?_) AllReadyF.nil
              go_simp
              refine hK.out _ _ ?_
              clear hK K
              (try simp only [Act.put, List.getElem_toArray, List.getElem_cons_succ, List.getElem_cons_zero, List.setIfInBounds_toArray, List.set_cons_zero, List.set_cons_succ])
              refine wpAnyF_done (by kernel_rfl) ?_ _
              go_wp2_with fail
              go_roundw
              case rel => exact HG.out
              case measure => simp [intOf]; omega
            · have hkli : ¬ (k : Int) < 8 := by omega
              obtain rfl : k = 8 := by omega
              have HG : Hid (FlR w1 r L N M n kv1 av1 pl1 s.off u1 (s.k + 1) al1 ws at_ (.int .i64 ((i : Int) + 1)) wr) := Lib.hid (by
                have hI := HI.out
                refine ⟨i + 1, by simp, by omega, by omega, ?_, HT0.out⟩
                have h9 := HR.out
                rw [hiF_eight hI.1] at h9
                exact h9)
              clear hrl htt
              go_wp2_with fail
              go_roundw
              case rel => exact HG.out
              case measure => have := HI.out; simp [intOf]; omega
        · have hlti : ¬ (i : Int) < (en : Int) := by omega
          obtain rfl : i = at_ + n := by omega
          have HF : Hid (RTo w r L N M kv av (.returned (.int .i64 0)) (s.done 2 (at_ : Int) (n : Int) (flushW at_ n s.ws)) (.returned (.int .i64 0)) wr) := Lib.hid (by
            rw [← HWS.out]
            refine loop_end HR1.out.1 HR1.out.2.1 HR1.out.2.2 ?_ HT0.out (flushW_ok HOK0.out.1) (by rw [flushW_len]; exact HLM.out.1) (flushW_mk HOK0.out.2) _
            rw [← HDN.out.1, ← HDN.out.2, flush_end]
            exact HR.out)
          clear hrl htt hi1 hi2 hrg hL9
          go_wp2
          go_ret
          rw [HE2.out]
          exact HF.out
  · obtain ⟨e1, e2⟩ := act_no 2 (flushW at_ n s.ws) hq
    have HF := Lib.hid (h.stay (.returned (.int .i64 (refS8 L s.off (at_ : Int) (n : Int)))))
    rw [e1, e2]
    generalize refS8 L s.off (at_ : Int) (n : Int) = q at *
    have hq1 : ((q : Int) == 0) = false := by rw [beq_eq_false_iff_ne]; exact hq
    have hq2 : ((q : Int) != 0) = true := by rw [bne_iff_ne]; exact hq
    clear h hk hpl hq e1 e2
    go_enter Try.func28, Try.ntmps28
    go_wp2_with fail
    refine HRD.out.mono ?_
    rintro e w0 ⟨rfl, rfl⟩
    go_wp2
    go_ret
    exact HF.out
theorem store_noR (r : RI) (L N M : Nat) (kv av : Value) (pl : List Nat) (s : DSt) (at_ : Int) (n c9 : Nat) (A : Option Addr) (w : World) (h : RV w r L N M kv av pl s) (hn9 : n ≤ 9223372036854775807) (hq : refS8 L s.off at_ (n : Int) ≠ 0) :
    Calls Try.prog 27 #[.pointer (some ⟨r.g, 0, none⟩), .int .i64 at_, .slice A n c9] w (RTo w r L N M kv av (.returned (.int .i64 (refS8 L s.off at_ (n : Int)))) s) := by
  have HRD := Lib.hid (ready_R r L N M kv av pl s at_ (n : Int) (by omega) w h)
  have HF := Lib.hid (h.stay (.returned (.int .i64 (refS8 L s.off at_ (n : Int)))))
  generalize refS8 L s.off at_ (n : Int) = q at *
  have hq1 : ((q : Int) == 0) = false := by rw [beq_eq_false_iff_ne]; exact hq
  have hq2 : ((q : Int) != 0) = true := by rw [bne_iff_ne]; exact hq
  clear h hq
  go_enter Try.func27, Try.ntmps27
  go_wp2_with fail
  refine HRD.out.mono ?_
  rintro e w0 ⟨rfl, rfl⟩
  go_wp2
  go_ret
  exact HF.out
theorem flush_noR (r : RI) (L N M : Nat) (kv av : Value) (pl : List Nat) (s : DSt) (at_ n : Int) (w : World) (h : RV w r L N M kv av pl s) (hn9 : -9223372036854775808 ≤ n ∧ n ≤ 9223372036854775807) (hq : refS8 L s.off at_ n ≠ 0) :
    Calls Try.prog 28 #[.pointer (some ⟨r.g, 0, none⟩), .int .i64 at_, .int .i64 n] w (RTo w r L N M kv av (.returned (.int .i64 (refS8 L s.off at_ n))) s) := by
  have HRD := Lib.hid (ready_R r L N M kv av pl s at_ n (by omega) w h)
  have HF := Lib.hid (h.stay (.returned (.int .i64 (refS8 L s.off at_ n))))
  generalize refS8 L s.off at_ n = q at *
  have hq1 : ((q : Int) == 0) = false := by rw [beq_eq_false_iff_ne]; exact hq
  have hq2 : ((q : Int) != 0) = true := by rw [bne_iff_ne]; exact hq
  clear h hq
  go_enter Try.func28, Try.ntmps28
  go_wp2_with fail
  refine HRD.out.mono ?_
  rintro e w0 ⟨rfl, rfl⟩
  go_wp2
  go_ret
  exact HF.out
theorem store_R (r : RI) (L N M n c9 : Nat) (kv av : Value) (pl : List Nat) (s : DSt) (at_ : Int) (A : Option Addr) (l : List Nat) (w : World) (h : RV w r L N M kv av pl s) (hk : s.k < 16384) (hpl : pl.length ≤ 1000000) (hb : BS w w.heap.size A n c9 l) (hoff : 0 < n → ∀ ad, A = some ad → ¬ RS r kv av ad.block) (hat : at_ ≤ 9223372036854775807) :
    Calls Try.prog 27 #[.pointer (some ⟨r.g, 0, none⟩), .int .i64 at_, .slice A n c9] w (RTo w r L N M kv av (.returned (.int .i64 (actE s L at_ (n : Int)))) (actS s L 1 at_ (n : Int) (putW Wd.st at_.toNat l s.ws))) := by
  by_cases hq : refS8 L s.off at_ (n : Int) = 0
  · have h1 := (hasB_nat (act_on hq).2).1
    obtain ⟨a, ha⟩ : ∃ a, a = at_.toNat := ⟨_, rfl⟩
    rw [← ha] at h1 ⊢
    subst h1
    exact rstore_R r L N M n c9 a kv av pl s A l w h hk hpl hb hoff hat
  · obtain ⟨e1, e2⟩ := act_no 1 (putW Wd.st at_.toNat l s.ws) hq
    rw [e1, e2]
    exact store_noR r L N M kv av pl s at_ n c9 A w h (by have := hb.cap; omega) hq
theorem flush_R (r : RI) (L N M : Nat) (kv av : Value) (pl : List Nat) (s : DSt) (at_ n : Int) (w : World) (h : RV w r L N M kv av pl s) (hk : s.k < 16384) (hpl : pl.length ≤ 1000000) (hn9 : -9223372036854775808 ≤ n ∧ n ≤ 9223372036854775807) :
    Calls Try.prog 28 #[.pointer (some ⟨r.g, 0, none⟩), .int .i64 at_, .int .i64 n] w (RTo w r L N M kv av (.returned (.int .i64 (actE s L at_ n))) (actS s L 2 at_ n (flushW at_.toNat n.toNat s.ws))) := by
  by_cases hq : refS8 L s.off at_ n = 0
  · have h1 := (hasB_nat (act_on hq).2).1
    have h2 := (hasB_nat (act_on hq).2).2.1
    obtain ⟨a, ha⟩ : ∃ a, a = at_.toNat := ⟨_, rfl⟩
    obtain ⟨m, hm⟩ : ∃ m, m = n.toNat := ⟨_, rfl⟩
    rw [← ha] at h1 ⊢
    rw [← hm] at h2 ⊢
    subst h1 h2
    exact rflush_R r L N M m a kv av pl s w h hk hpl hn9.2
  · obtain ⟨e1, e2⟩ := act_no 2 (flushW at_.toNat n.toNat s.ws) hq
    rw [e1, e2]
    exact flush_noR r L N M kv av pl s at_ n w h hn9 hq
end
end Go.Proofs.Ythigknolpdohoaa
