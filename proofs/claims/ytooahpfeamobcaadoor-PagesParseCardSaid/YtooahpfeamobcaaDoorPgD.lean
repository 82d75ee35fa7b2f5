/-
  Rows of pages that the call itself made; Ours, Plain, Clone.
-/
import Derived.Test.YtooahpfeamobcaaDoorPgC
import Derived.OwnWalk
import Derived.Laws.AppendOwnNone
import Derived.Deep.AppendLies
namespace Go.Proofs.YtooahpfeamobcaaDoor
open Go.RowKit Go
set_option linter.unusedVariables false
set_option linter.unusedSimpArgs false
set_option maxRecDepth 100000
def flatP (xs : List Pg) : List Value := xs.flatMap Pg.cs
theorem flatP_app (a b : List Pg) : flatP (a ++ b) = flatP a ++ flatP b := by simp [flatP]
theorem flatP_len (xs : List Pg) : (flatP xs).length = xs.length * 5 := by
  induction xs with
  | nil => rfl
  | cons e r ih => simp only [flatP, List.flatMap_cons, List.length_append, List.length_cons] at *; simp only [Pg.cs, List.length_cons, List.length_nil]; omega
theorem flatP_get (xs : List Pg) : ∀ (i j : Nat), i < xs.length → j < 5 → (flatP xs)[i * 5 + j]? = (pg xs i).cs[j]? := by
  induction xs with
  | nil => intro i j h; simp at h
  | cons e r ih =>
    intro i j hi hj
    have e1 : flatP (e :: r) = e.cs ++ flatP r := rfl
    rw [e1]
    cases i with
    | zero => rw [List.getElem?_append_left (by simp [Pg.cs]; omega)]; simp
    | succ i =>
      have h3 : e.cs.length = 5 := rfl
      rw [List.getElem?_append_right (by omega), h3, show (i + 1) * 5 + j - 5 = i * 5 + j by omega, ih i j (by simpa using hi) hj]
      rfl
theorem cs_one (p : Pg) : ∀ u ∈ p.cs, u.oneCell' = true := by intro u hu; simp [Pg.cs] at hu; rcases hu with rfl | rfl | rfl | rfl | rfl <;> rfl
theorem flatP_one (xs : List Pg) : ∀ u ∈ flatP xs, u.oneCell' = true := by
  intro u hu
  obtain ⟨p, _, hp⟩ := List.mem_flatMap.1 hu
  exact cs_one p u hp
theorem flatP_ext {vs : List Value} {xs : List Pg} (h : vs.length = xs.length * 5) (hc : ∀ i j, i < xs.length → j < 5 → vs[i * 5 + j]? = (pg xs i).cs[j]?) : vs = flatP xs := by
  apply List.ext_getElem?
  intro j
  by_cases hj : j < xs.length * 5
  · have h1 := hc (j / 5) (j % 5) (by omega) (by omega)
    have h2 := flatP_get xs (j / 5) (j % 5) (by omega) (by omega)
    rw [show j / 5 * 5 + j % 5 = j by omega] at h1 h2
    rw [h1, h2]
  · rw [List.getElem?_eq_none (by omega), List.getElem?_eq_none (by rw [flatP_len]; omega)]
/-- a row of pages of the call's own, from block B on -/
def OwnP (W : World) (B : Nat) (E : TypeId) (v : Value) (xs : List Pg) : Prop := W.ownsRow B E 5 v xs.length (flatP xs)
section
variable {W W' : World} {B : Nat} {E : TypeId} {v : Value} {xs : List Pg}
theorem OwnP.nil (W : World) (B : Nat) (E : TypeId) : OwnP W B E (.slice none 0 0) [] := World.ownsRow_nil _ _ _ _
theorem OwnP.keep (h : OwnP W B E v xs) (hk : ∀ g, v.ownBlock = some g → W'.heap[g]? = W.heap[g]?) : OwnP W' B E v xs := by
  obtain ⟨h1, h2⟩ := h
  refine ⟨h1, ?_⟩
  rcases h2 with h2 | ⟨g, cap, cur, hv, hg, hh, hr⟩
  · exact .inl h2
  · exact .inr ⟨g, cap, cur, hv, hg, (hk g (by rw [hv]; rfl)).trans hh, hr⟩
theorem OwnP.lt (h : OwnP W B E v xs) : ∀ k, v.ownBlock = some k → B ≤ k ∧ k < W.heap.size := World.ownsRow.lt h
theorem OwnP.below (h : OwnP W B E v xs) (hb : Below W.heap.size W W') : OwnP W' B E v xs := h.keep fun g hg => hb.block g (h.lt g hg).2
theorem OwnP.alloc (h : OwnP W B E v xs) (o : Obj) : OwnP (W.alloc o) B E v xs := World.ownsRow.alloc h o
theorem pat_of {b o : Nat} {p : Pg} (h : ∀ j u, p.cs[j]? = some u → W.cell? ⟨b, o + j, none⟩ = some u) : PAt W b o p :=
  ⟨h 0 _ rfl, h 1 _ rfl, h 2 _ rfl, h 3 _ rfl, h 4 _ rfl⟩
/-- .. as a slice -/
theorem OwnP.ps (h : OwnP W B E v xs) : ∃ A c, v = .slice A xs.length c ∧ PS W A xs.length c xs ∧ ∀ ad, A = some ad → B ≤ ad.block := by
  have hc := fun g (hg : v.ownBlock = some g) => World.ownsRow.cells h hg
  obtain ⟨h1, ⟨hv, h0⟩ | ⟨g, cap, cur, hv, hg, hh, hn, hm, _⟩⟩ := h
  · refine ⟨none, 0, by rw [hv, h0], ⟨rfl, by omega, by omega, fun _ => rfl, fun q => by omega⟩, fun _ q => by cases q⟩
  · refine ⟨_, cap, hv, ⟨rfl, hn, by unfold maxLen at hm; omega, (fun q => by cases q), fun q => ⟨g, 0, rfl, blk_lt hh, fun i hi => pat_of fun j u hu => ?_⟩⟩, fun ad q => by cases q; exact hg⟩
    have hj : j < 5 := by have := (List.getElem?_eq_some_iff.1 hu).1; simpa [Pg.cs] using this
    have := hc g (by rw [hv]; rfl) (i * 5 + j) u ((flatP_get xs i j hi hj).trans hu)
    rw [Addr.add_mid] at this
    rw [show 0 + i * 5 + j = 0 + (i * 5 + j) by omega]
    exact this
end
theorem info_ot : (Tryd.prog.info? OT).map (fun i => (i.zero, i.size, i.bytes)) = some (some (Pg.val pz), 5, 40) := by kernel_rfl
theorem info_rt : (Tryd.prog.info? RT).map (fun i => (i.zero, i.size, i.bytes)) = some (some (Pg.val pz), 5, 40) := by kernel_rfl
abbrev OS : TypeId := 30
abbrev RS : TypeId := 22
/-- the two types of pages -/
structure Kd (E SL : TypeId) : Prop where
  info : (Tryd.prog.info? E).map (fun i => (i.zero, i.size, i.bytes)) = some (some (Pg.val pz), 5, 40)
  under : Tryd.prog.underlying SL = some (.slice E)
theorem kdO : Kd OT OS := ⟨info_ot, Tryd.underlying30⟩
theorem kdR : Kd RT RS := ⟨info_rt, Tryd.underlying22⟩
/-- one page is appended -/
theorem wp_appP {E SL : TypeId} (kd : Kd E SL) {ops : Array Oper} {rest : List Oper} {o : Oper} {a : Act} {Q : Exit → Act → World → Prop} (W : World) (hgd : o.guard = none) (s x : Operand)
    (ho : o.op = .call { callee := .builtin .append, args := #[s, x], argTypes := #[SL, SL] })
    (B : Nat) (v : Value) (xs : List Pg) (p : Pg) (hs : a.eval s = v) (hown : OwnP W B E v xs)
    (H : Nat) (hH : W.heap.size = H) (hx : a.eval x = .slice (some ⟨H, 0, none⟩) 1 1) (hn : xs.length < 1000000) (hB : B ≤ W.heap.size)
    (h : ∀ v' w', OwnP w' B E v' (xs ++ [p]) → Below B W w' → wpList Tryd.prog ops Q rest (a.put o.dst v') w') :
    wpList Tryd.prog ops Q (o :: rest) a (W.alloc (.cells #[.int .i64 p.k, .int .i64 p.c, .int .i64 p.r, .int .i64 p.s, .int .u64 p.n] E)) := by
  subst hH
  obtain ⟨i0, hi, hz0, hz1, hz2⟩ := info_parts kd.info
  have hnb := heap_alloc_new W (.cells #[.int .i64 p.k, .int .i64 p.c, .int .i64 p.r, .int .i64 p.s, .int .u64 p.n] E)
  refine wpList_append_own _ hgd s x SL ho B E i0 (Pg.val pz) 5 40 kd.under hi hz0 hz1 hz2 rfl (by decide) v xs.length (flatP xs) hs (World.ownsRow.alloc hown _) ⟨W.heap.size, 0, none⟩ 1 1
    p.cs hx rfl ?_ (cs_one p) (by unfold maxLen; omega) (by omega) (by simp; omega) ?_
  · intro j u hj
    rw [Addr.add_mid, Nat.zero_add]
    rw [blk_cell hnb j, ← hj]
    simp [Pg.cs]
  · intro v' w1 hown' hg _
    refine h v' w1 ?_ (((Below.refl B W).alloc hB _).grown hg (by simp; omega) (fun k hk => (World.ownsRow.lt hown k hk).1))
    have e : flatP (xs ++ [p]) = flatP xs ++ p.cs := by rw [flatP_app]; simp [flatP]
    unfold OwnP
    rw [e, List.length_append]
    exact hown'
/-- a slice of pages is appended -/
theorem wp_appsP {E SL : TypeId} (kd : Kd E SL) {ops : Array Oper} {rest : List Oper} {o : Oper} {a : Act} {Q : Exit → Act → World → Prop} (W : World) (hgd : o.guard = none) (s x : Operand)
    (ho : o.op = .call { callee := .builtin .append, args := #[s, x], argTypes := #[SL, SL] })
    (B : Nat) (v : Value) (xs : List Pg) (hs : a.eval s = v) (hown : OwnP W B E v xs)
    (A : Option Addr) (m c : Nat) (l : List Pg) (hx : a.eval x = .slice A m c) (hr : PS W A m c l) (hn : xs.length + m < 1000000) (hB : B ≤ W.heap.size)
    (h : ∀ v' w', OwnP w' B E v' (xs ++ l) → Below B W w' → wpList Tryd.prog ops Q rest (a.put o.dst v') w') :
    wpList Tryd.prog ops Q (o :: rest) a W := by
  obtain ⟨i0, hi, hz0, hz1, hz2⟩ := info_parts kd.info
  have hm := hr.len
  rcases A with _ | ad
  · have h0 := hr.nil_ rfl
    have h1 := hr.cap
    have hm0 : m = 0 := by omega
    subst hm0 h0
    obtain rfl := List.length_eq_zero_iff.mp hm
    refine wpList_append_own_none hgd s x SL ho B E i0 5 kd.under hi v xs.length (flatP xs) hs hown hx ?_
    exact h v W (by rw [List.append_nil]; exact hown) (Below.refl _ _)
  · refine wpList_append_own _ hgd s x SL ho B E i0 (Pg.val pz) 5 40 kd.under hi hz0 hz1 hz2 rfl (by decide) v xs.length (flatP xs) hs hown ad m c
      (flatP l) hx (by rw [flatP_len, hm]) ?_ (flatP_one l) (by unfold maxLen; omega) (by omega) hB ?_
    · intro j u hj
      have hjl : j < l.length * 5 := by
        rcases Nat.lt_or_ge j (l.length * 5) with h | h
        · exact h
        · rw [List.getElem?_eq_none (by rw [flatP_len]; exact h)] at hj; cases hj
      obtain ⟨b, o, e, _, hc⟩ := hr.at_ (by omega)
      obtain rfl : ad = ⟨b, o, none⟩ := Option.some.inj e
      have h2 := hc (j / 5) (by omega)
      have h3 := flatP_get l (j / 5) (j % 5) (by omega) (by omega)
      rw [show j / 5 * 5 + j % 5 = j by omega, hj] at h3
      rw [Addr.add_mid, h3]
      have h5 : j % 5 = 0 ∨ j % 5 = 1 ∨ j % 5 = 2 ∨ j % 5 = 3 ∨ j % 5 = 4 := by omega
      rcases h5 with h5 | h5 | h5 | h5 | h5
      · rw [show o + j = o + j / 5 * 5 by omega, h5]; exact h2.c0
      · rw [show o + j = o + j / 5 * 5 + 1 by omega, h5]; exact h2.c1
      · rw [show o + j = o + j / 5 * 5 + 2 by omega, h5]; exact h2.c2
      · rw [show o + j = o + j / 5 * 5 + 3 by omega, h5]; exact h2.c3
      · rw [show o + j = o + j / 5 * 5 + 4 by omega, h5]; exact h2.c4
    · intro v' w1 hown' hg _
      refine h v' w1 ?_ ((Below.refl B W).grown hg hB (fun k hk => (World.ownsRow.lt hown k hk).1))
      unfold OwnP
      rw [flatP_app, List.length_append, hm]
      exact hown'
/-- the call answers pages in memory of its own -/
def CopyTo (w : World) (l : List Pg) (e : Ending) (w' : World) : Prop := ∃ A c, e = .returned (.slice A l.length c) ∧ PS w' A l.length c l ∧ (∀ ad, A = some ad → w.heap.size ≤ ad.block) ∧ Below w.heap.size w w'
theorem OwnP.copy {w W : World} {E : TypeId} {v : Value} {l : List Pg} (h : OwnP W w.heap.size E v l) (hb : Below w.heap.size w W) : CopyTo w l (.returned v) W := by
  obtain ⟨A, c, hv, h1, h2⟩ := h.ps
  exact ⟨A, c, by rw [hv], h1, h2, hb⟩
theorem take_one {l : List Pg} {k : Nat} (h : k < l.length) : l.take (k + 1) = l.take k ++ [pg l k] := by
  rw [List.take_add_one, pg_some h]; rfl
set_option maxHeartbeats 2000000 in
theorem plain_any (A : Option Addr) (n c : Nat) (l : List Pg) (w : World) (h : PS w A n c l) (hn : n < 1000000) : Calls Tryd.prog 10 #[.slice A n c] w (CopyTo w l) := by
  have HP := Lib.hid h
  have hln := h.len
  have HLN := Lib.hid hln
  have hcn := h.cap
  have hcm := h.capm
  clear h hln
  go_enter Tryd.func10, Tryd.ntmps10
  go_wp2
  go_loopw [3, 8] (fun v i W => ∃ k : Nat, i = .int .i64 (k : Int) ∧ k ≤ n ∧ OwnP W w.heap.size RT v (l.take k) ∧ Below w.heap.size w W) (fun _ i _ => n - (intOf i).toNat)
  case atStart => exact ⟨0, rfl, Nat.zero_le _, OwnP.nil _ _ _, Below.refl _ _⟩
  case round =>
    obtain ⟨k, rfl, hk, hown, hb⟩ := hrel
    have HB := Lib.hid hb
    have HOW := Lib.hid hown
    clear hown hb
    by_cases hlt : k < n
    · obtain ⟨b, o, rfl, hb0, hcell⟩ := HP.out.cells (by omega)
      have hbW := (hcell _ HB.out).1
      have hp := (hcell _ HB.out).2 k hlt
      obtain ⟨p, hpe⟩ : ∃ p, p = pg l k := ⟨_, rfl⟩
      rw [← hpe] at hp
      have HPE := Lib.hid hpe
      obtain ⟨c0, c1, c2, c3, c4⟩ := hp
      have HO2 := Lib.hid (HOW.out.alloc (.cells #[.int .i64 p.k, .int .i64 p.c, .int .i64 p.r, .int .i64 p.s, .int .u64 p.n] OT))
      have HL2 : Hid ((l.take k).length = k) := Lib.hid (by rw [List.length_take, HLN.out]; omega)
      have HS2 : Hid (w.heap.size ≤ (wr.alloc (.cells #[.int .i64 p.k, .int .i64 p.c, .int .i64 p.r, .int .i64 p.s, .int .u64 p.n] OT)).heap.size) := Lib.hid (by have := HB.out.size; simp; omega)
      have HB2 := Lib.hid (HB.out.trans ((bel_alloc wr (.cells #[.int .i64 p.k, .int .i64 p.c, .int .i64 p.r, .int .i64 p.s, .int .u64 p.n] OT)).mono HB.out.size))
      clear hpe hcell
      go_wp2_with (at_builtin; refine wp_appP kdR _ rfl (.tmp 12) (.tmp 24) rfl w.heap.size u3 (l.take k) p rfl HO2.out (wr.heap.size + 1) (by simp) rfl (by rw [HL2.out]; omega) HS2.out ?_; intro v' w1 hown1 hb1; have HOW1 := Lib.hid hown1; have HB1 := Lib.hid (HB2.out.trans hb1); clear hown1 hb1)
      go_roundw
      case rel => exact ⟨k + 1, by go_num, by omega, by rw [take_one (by rw [HLN.out]; exact hlt), ← HPE.out]; exact HOW1.out, HB1.out⟩
      case measure => simp [intOf]; omega
    · obtain rfl : k = n := by omega
      have HE := Lib.hid (OwnP.copy (l := l) (by have := HOW.out; rw [List.take_of_length_le (by rw [HLN.out]; exact Nat.le_refl _)] at this; exact this) HB.out)
      go_wp2
      go_ret
      exact HE.out
theorem OwnP.empty (w : World) (B : Nat) (E : TypeId) (hB : B ≤ w.heap.size) : OwnP (w.alloc (.cells #[] E)) B E (.slice (some ⟨w.heap.size, 0, none⟩) 0 0) [] :=
  ⟨rfl, .inr ⟨w.heap.size, 0, #[], rfl, hB, heap_alloc_new _ _, Nat.le_refl _, by unfold maxLen; omega, rfl, rfl⟩⟩
set_option maxHeartbeats 2000000 in
theorem clone_any (A : Option Addr) (n c : Nat) (l : List Pg) (w : World) (h : PS w A n c l) (hn : n < 1000000) :
    Calls Tryd.prog 41 #[.slice A n c] w fun e w' => ∃ v, e = .returned v ∧ OwnP w' w.heap.size OT v l ∧ Below w.heap.size w w' := by
  have qT : ∀ (w : World) (a : Option Addr) (n c n' c' : Nat), (binOp .eql OS (.slice a n c) (.slice none n' c')).run Tryd.prog w = .ok (.bool a.isNone) w := fun w a n c n' c' => Lib.run_eql_slice_nil w _ _ a n c n' c' kdO.under
  have HP := Lib.hid h
  have hcn := h.cap
  rcases A with _ | ad
  · have h0 := h.nil_ rfl
    have hm := h.len
    have hm0 : n = 0 := by omega
    subst hm0 h0
    obtain rfl := List.length_eq_zero_iff.mp hm
    clear h
    go_enter Tryd.func41, Tryd.ntmps41
    go_wp2
    go_ret
    exact ⟨_, rfl, OwnP.nil _ _ _, Below.refl _ _⟩
  · have HO := Lib.hid (OwnP.empty w w.heap.size OT (Nat.le_refl _))
    have HPA := Lib.hid (h.below (bel_alloc w (.cells #[] OT)))
    have HS2 : Hid (w.heap.size ≤ (w.alloc (.cells #[] OT)).heap.size) := Lib.hid (by simp)
    clear h
    go_enter Tryd.func41, Tryd.ntmps41
    go_wp2_with (at_builtin; refine wp_appsP kdO _ rfl (.tmp 5) (.tmp 6) rfl w.heap.size _ [] rfl HO.out _ n c l rfl HPA.out (by simp; omega) HS2.out ?_; intro v' w1 hown1 hb1; have HOW1 := Lib.hid hown1; have HB1 := Lib.hid ((bel_alloc w (.cells #[] OT)).trans hb1); clear hown1 hb1)
    go_ret
    exact ⟨_, rfl, HOW1.out, HB1.out⟩
end Go.Proofs.YtooahpfeamobcaaDoor
