/-
  The document's device, of which no word is pending: Arm without picks, ready, act, Do.
-/
import Derived.Test.YtbanknppdgiflaaRdA
namespace Go.Proofs.Ytbanknppdgiflaa
open Go.RowKit Go
set_option linter.unusedVariables false
set_option linter.unusedSimpArgs false
def armU' (a : Int) : Int := if a < 0 then 0 else a
theorem wpList_app0 {P : Program} {w : World} {ops : Array Oper} {rest : List Oper} {o : Oper} {a : Act} {Q : Exit → Act → World → Prop} (hgd : o.guard = none) (s x : Operand) (t : TypeId)
    (ho : o.op = .call { callee := .builtin .append, args := #[s, x], argTypes := #[t, t] }) (e : TypeId) (hi5 : (P.info? e).isSome = true) (ht : P.underlying t = some (.slice e)) (b0 : Addr)
    (hs : a.eval s = .slice (some b0) 0 0) (hx : a.eval x = .slice none 0 0) (h : wpList P ops Q rest (a.put o.dst (.slice (some b0) 0 0)) w) : wpList P ops Q (o :: rest) a w := by
  refine wpList_plain hgd fun K hK => ?_
  obtain ⟨i, hi⟩ := Option.isSome_iff_exists.mp hi5
  have hrun : (Builtin.append_ #[t, t] o.type #[.slice (some b0) 0 0, .slice none 0 0]).run P w = .ok (.slice (some b0) 0 0) w := by
    simp [Builtin.append_, run_underlying ht, sizeOf, typeInfo, hi, Builtin.lenOf, Builtin.firstCells, loadCells, loadCellsFrom, storeCells]
  unfold Oper.wp
  simp [execOp, ho, resolve, invoke, builtin, hs, hx, hrun, Result.andThen]
  exact hK _ _ h
set_option maxHeartbeats 1000000 in
theorem rarm_any (g bp bm L nc : Nat) (lv : Value) (nA : Option Addr) (off : Bool) (u a : Int) (kv av : Value) (k : Nat) (al : List Value) (w : World) (h : RdQ w g bp bm L nc lv nA off u kv av k al) :
    Calls Try.prog 14 #[.pointer (some ⟨g, 0, none⟩), .int .i64 a, .slice none 0 0] w fun e w' => e = .returned (.tuple #[]) ∧ (∃ kv', RdQ w' g bp bm L nc lv nA off (armU' a) kv' av k al) ∧ Turns (RdS g bp bm) w w' := by
  have k5 : w.cell? ⟨g, 5, none⟩ = some (.int .i64 u) := h.dev.cell 5
  have k6 : w.cell? ⟨g, 6, none⟩ = some kv := h.dev.cell 6
  have f5 := h.dev.free 5
  have f6 := h.dev.free 6
  have HQ := Lib.hid h
  have hgl := h.dev.lt
  have fin : ∀ c : Int, RdQ (((w.setCell ⟨g, 5, none⟩ (.int .i64 c)).setCell ⟨g, 6, none⟩ (.slice (some ⟨w.heap.size, 0, none⟩) 0 0)).alloc (.cells #[] 5)) g bp bm L nc lv nA off c (.slice (some ⟨w.heap.size, 0, none⟩) 0 0) av k al ∧ Turns (RdS g bp bm) w (((w.setCell ⟨g, 5, none⟩ (.int .i64 c)).setCell ⟨g, 6, none⟩ (.slice (some ⟨w.heap.size, 0, none⟩) 0 0)).alloc (.cells #[] 5)) := fun c => by
    have h1 := (h.dev_set.2.1 c).dev_set.2.2 (.slice (some ⟨w.heap.size, 0, none⟩) 0 0)
    have b1 : Below ((w.setCell ⟨g, 5, none⟩ (.int .i64 c)).setCell ⟨g, 6, none⟩ (.slice (some ⟨w.heap.size, 0, none⟩) 0 0)).heap.size ((w.setCell ⟨g, 5, none⟩ (.int .i64 c)).setCell ⟨g, 6, none⟩ (.slice (some ⟨w.heap.size, 0, none⟩) 0 0)) (((w.setCell ⟨g, 5, none⟩ (.int .i64 c)).setCell ⟨g, 6, none⟩ (.slice (some ⟨w.heap.size, 0, none⟩) 0 0)).alloc (.cells #[] 5)) := (Below.refl _ _).alloc (Nat.le_refl _) _
    exact ⟨h1.next b1, ((Turns.set (S := RdS g bp bm) ⟨g, 5, none⟩ _ (.inl rfl)).trans (S' := RdS g bp bm) (Turns.set (S := RdS g bp bm) ⟨g, 6, none⟩ _ (.inl rfl)) (fun _ _ q => q)).trans (S' := RdS g bp bm) (Turns.of_below b1) (fun _ _ q => q)⟩
  have HF := Lib.hid fin
  clear h fin
  by_cases ha : a < 0
  · have HA : Hid (armU' a = 0) := Lib.hid (if_pos ha)
    go_enter Try.func14, Try.ntmps14
    go_wp2_with (at_builtin; refine wpList_app0 rfl (.tmp 13) (.tmp 14) 47 rfl 5 (by kernel_rfl) Try.underlying47 ⟨w.heap.size, 0, none⟩ rfl rfl ?_)
    go_end0
    exact ⟨rfl, ⟨_, by rw [HA.out]; exact (HF.out 0).1⟩, (HF.out 0).2⟩
  · have HA : Hid (armU' a = a) := Lib.hid (if_neg ha)
    go_enter Try.func14, Try.ntmps14
    go_wp2_with (at_builtin; refine wpList_app0 rfl (.tmp 13) (.tmp 14) 47 rfl 5 (by kernel_rfl) Try.underlying47 ⟨w.heap.size, 0, none⟩ rfl rfl ?_)
    go_end0
    exact ⟨rfl, ⟨_, by rw [HA.out]; exact (HF.out a).1⟩, (HF.out a).2⟩
theorem rready_on (g bp bm L nc : Nat) (lv : Value) (nA : Option Addr) (u : Int) (kv av : Value) (k : Nat) (al : List Value) (w : World) (h : RdQ w g bp bm L nc lv nA false u kv av k al) :
    Calls Try.prog 31 #[.pointer (some ⟨g, 0, none⟩), .int .i64 0, .int .i64 0] w fun e w' => e = .returned (.int .i64 0) ∧ w = w' := by
  have k4 : w.cell? ⟨g, 4, none⟩ = some (.bool false) := h.dev.cell 4
  have k1 : w.cell? ⟨g, 1, none⟩ = some (.slice nA L nc) := h.dev.cell 1
  have hL := h.L1
  have hl0 : ¬ (L : Int) < 0 := by omega
  have hl1 : (L : Int) ≤ 65536 := by omega
  have hl2 : ¬ L < 0 := by omega
  clear h
  go_enter Try.func31, Try.ntmps31
  go_wp2
  go_ret
  exact ⟨rfl, rfl⟩
theorem rready_off (g bp bm L nc : Nat) (lv : Value) (nA : Option Addr) (u : Int) (kv av : Value) (k : Nat) (al : List Value) (w : World) (h : RdQ w g bp bm L nc lv nA true u kv av k al) :
    Calls Try.prog 31 #[.pointer (some ⟨g, 0, none⟩), .int .i64 0, .int .i64 0] w fun e w' => e = .returned (.int .i64 8) ∧ w = w' := by
  have k4 : w.cell? ⟨g, 4, none⟩ = some (.bool true) := h.dev.cell 4
  clear h
  go_enter Try.func31, Try.ntmps31
  go_wp2
  go_ret
  exact ⟨rfl, rfl⟩
theorem info_ract : (Try.prog.info? RaT).map (fun i => (i.zero, i.size, i.bytes)) = some (some (.agg #[.int .i64 0, .int .i64 0, .int .i64 0]), 3, 24) := by kernel_rfl
theorem RdQ.down {W W' : World} {g bp bm L nc : Nat} {lv : Value} {nA : Option Addr} {off : Bool} {u : Int} {kv av av' : Value} {k : Nat} {al al' : List Value} (h : RdQ W g bp bm L nc lv nA off u kv av k al) (hg : W.grownBy W' av.ownBlock) (ho : W'.ownsRow (g + 1) RaT 3 av' (k + 1) al') :
    RdQ (W'.setCell ⟨g, 7, none⟩ av') g bp bm L nc lv nA off u kv av' (k + 1) al' := by
  have hlt := h.own.lt
  have h1 := h.bg
  have h2 := h.mg
  have hgl := h.dev.lt
  have far : ∀ b, b ≤ g → W'.heap[b]? = W.heap[b]? := fun b hb => hg.block b (by omega) (fun e => by have := (hlt b e.symm).1; omega)
  have hd : RdB W' g bp bm L nc lv nA off u kv av := (far g (Nat.le_refl _)).trans h.dev
  refine ⟨?_, owns_other ho _ _ _ (Nat.le_refl _), (Below.heap_setCell _ _ _ _ (by show bp ≠ g; omega)).trans ((far bp (by omega)).trans h.pend), (Below.heap_setCell _ _ _ _ (by show bm ≠ g; omega)).trans ((far bm (by omega)).trans h.mark), h1, h2, h.pm, h.L1⟩
  have := blk_set hd 7 av'
  unfold RdB
  rw [this]; rfl
theorem wp_ract {ops : Array Oper} {rest : List Oper} {o : Oper} {a : Act} {Q : Exit → Act → World → Prop} (W : World) (hgd : o.guard = none) (s x : Operand)
    (ho : o.op = .call { callee := .builtin .append, args := #[s, x], argTypes := #[49, 49] })
    (B : Nat) (v : Value) (k : Nat) (al : List Value) (hs : a.eval s = v) (hown : W.ownsRow B RaT 3 v k al)
    (B0 : Nat) (hB0 : W.heap.size = B0) (hx : a.eval x = .slice (some ⟨B0, 0, none⟩) 1 1) (hn : k < 100000) (hB : B ≤ W.heap.size)
    (h : ∀ gg cap w', w'.ownsRow B RaT 3 (.slice (some ⟨gg, 0, none⟩) (k + 1) cap) (k + 1) (al ++ actV 4 0 0) → (W.alloc (.cells #[.int .i64 4, .int .i64 0, .int .i64 0] RaT)).grownBy w' v.ownBlock → (v.ownBlock = some gg ∨ gg = W.heap.size + 1) → wpList Try.prog ops Q rest (a.put o.dst (.slice (some ⟨gg, 0, none⟩) (k + 1) cap)) w') :
    wpList Try.prog ops Q (o :: rest) a (W.alloc (.cells #[.int .i64 4, .int .i64 0, .int .i64 0] RaT)) := by
  subst hB0
  obtain ⟨i0, hi, hz0, hz1, hz2⟩ := info_parts info_ract
  refine wpList_append_lies _ hgd s x 49 ho B RaT i0 (.agg #[.int .i64 0, .int .i64 0, .int .i64 0]) 3 24 Try.underlying49 hi hz0 hz1 hz2 rfl (by decide) v k al hs (World.ownsRow.alloc hown _) ⟨W.heap.size, 0, none⟩ 1 1
    (actV 4 0 0) hx rfl ?_ ?_ (by decide) (by unfold maxLen; omega) (by omega) (by simp; omega) (W.heap.size + 1) (by simp) ?_
  · intro j u hj
    match j, hj with
    | 0, hj => simp [actV] at hj; subst hj; simp [Addr.add]
    | 1, hj => simp [actV] at hj; subst hj; simp [Addr.add]
    | 2, hj => simp [actV] at hj; subst hj; simp [Addr.add]
  · intro u hu
    simp [actV] at hu
    rcases hu with rfl | rfl <;> rfl
  · intro gg cap w1 hown' hg hat _
    exact h gg cap w1 hown' hg hat
def RActE (w : World) (g bp bm L nc : Nat) (lv : Value) (nA : Option Addr) (u : Int) (kv av : Value) (k : Nat) (al : List Value) (e : Ending) (w' : World) : Prop :=
  ∃ av', e = .returned (.int .i64 0) ∧ RdQ w' g bp bm L nc lv nA false u kv av' (k + 1) (al ++ actV 4 0 0) ∧ Turns (fun j => j = g ∨ av.ownBlock = some j) w w' ∧ (av'.ownBlock = av.ownBlock ∨ ∃ j, w.heap.size ≤ j ∧ av'.ownBlock = some j)
theorem ract_end {w V w1 : World} {g bp bm L nc gg cap : Nat} {lv : Value} {nA : Option Addr} {u : Int} {kv av : Value} {k : Nat} {al : List Value} (hs : V.heap.size = w.heap.size) (hq : RdQ V g bp bm L nc lv nA false u kv av k al) (ht : Turns (fun j => j = g ∨ av.ownBlock = some j) w V)
    (hown : w1.ownsRow (g + 1) RaT 3 (.slice (some ⟨gg, 0, none⟩) (k + 1) cap) (k + 1) (al ++ actV 4 0 0)) (hg : (V.alloc (.cells #[.int .i64 4, .int .i64 0, .int .i64 0] RaT)).grownBy w1 av.ownBlock) (hat : av.ownBlock = some gg ∨ gg = V.heap.size + 1) :
    RActE w g bp bm L nc lv nA u kv av k al (.returned (.int .i64 0)) (w1.setCell ⟨g, 7, none⟩ (.slice (some ⟨gg, 0, none⟩) (k + 1) cap)) := by
  have b1 : Below V.heap.size V (V.alloc (.cells #[.int .i64 4, .int .i64 0, .int .i64 0] RaT)) := (Below.refl _ _).alloc (Nat.le_refl _) _
  refine ⟨_, rfl, (hq.next b1).down hg hown, ?_, ?_⟩
  · exact ((ht.trans (S' := fun _ => False) (Turns.of_below b1) (fun j _ q => q.elim)).trans (S' := fun j => av.ownBlock = some j) (Turns.of_grown hg (fun j e => e)) (fun j _ q => .inr q)).trans (S' := fun j => j = g) (Turns.set _ _ rfl) (fun j _ q => .inl q)
  · rcases hat with h3 | h3
    · exact .inl h3.symm
    · exact .inr ⟨gg, by omega, rfl⟩
theorem ract_blow (g bp bm L nc : Nat) (lv : Value) (nA : Option Addr) (kv av : Value) (k : Nat) (al : List Value) (w : World) (h : RdQ w g bp bm L nc lv nA false 1 kv av k al) :
    Calls Try.prog 32 #[.pointer (some ⟨g, 0, none⟩), .int .i64 4, .int .i64 0, .int .i64 0] w fun e w' => e = .returned (.int .i64 8) ∧ RdQ w' g bp bm L nc lv nA true 0 kv av k al ∧ Turns (RdS g bp bm) w w' := by
  have k5 : w.cell? ⟨g, 5, none⟩ = some (.int .i64 1) := h.dev.cell 5
  have k6 : w.cell? ⟨g, 6, none⟩ = some kv := h.dev.cell 6
  have HC := Lib.hid (rcrash_any g bp bm L nc lv nA 1 kv av kv k al w h)
  clear h
  go_enter Try.func32, Try.ntmps32
  go_wp2_with fail
  refine HC.out.mono ?_
  rintro e w1 ⟨rfl, hq, ht⟩
  have HQ := Lib.hid hq
  have HT := Lib.hid ht
  clear hq ht
  go_wp2
  go_ret
  exact ⟨rfl, HQ.out, HT.out⟩
set_option maxHeartbeats 1000000 in
set_option maxRecDepth 100000 in
theorem ract_go (g bp bm L nc : Nat) (lv : Value) (nA : Option Addr) (u : Int) (kv av : Value) (k : Nat) (al : List Value) (w : World) (h : RdQ w g bp bm L nc lv nA false u kv av k al) (hu1 : u ≠ 1) (hu0 : 0 ≤ u) (hub : u ≤ 9223372036854775807) (hk : k < 1000) :
    Calls Try.prog 32 #[.pointer (some ⟨g, 0, none⟩), .int .i64 4, .int .i64 0, .int .i64 0] w (RActE w g bp bm L nc lv nA (if 1 < u then u - 1 else u) kv av k al) := by
  have hlen : ∃ A9 c9, av = .slice A9 k c9 := by
    rcases h.own.2 with ⟨hv, h0⟩ | ⟨b9, cap, cur, hv, _⟩
    · exact ⟨none, 0, by rw [hv, h0]⟩
    · exact ⟨_, _, hv⟩
  obtain ⟨A9, c9, rfl⟩ := hlen
  have hk2 : (k : Int) < 16384 := by omega
  have hk3 : k < 16384 := by omega
  have hne : (u == 1) = false := beq_eq_false_iff_ne.mpr hu1
  have k5 : w.cell? ⟨g, 5, none⟩ = some (.int .i64 u) := h.dev.cell 5
  have f5 := h.dev.free 5
  by_cases hgt : 1 < u
  · have hw : IntKind.i64.wrap (u - 1) = u - 1 := IntWalk.i64_in _ (by omega)
    have hq := h.dev_set.2.1 (u - 1)
    have ht0 : Turns (fun j => j = g ∨ (Value.slice A9 k c9).ownBlock = some j) w (w.setCell ⟨g, 5, none⟩ (.int .i64 (u - 1))) := Turns.set _ _ (.inl rfl)
    obtain ⟨V, hV⟩ : ∃ V, V = w.setCell ⟨g, 5, none⟩ (.int .i64 (u - 1)) := ⟨_, rfl⟩
    rw [← hV] at hq ht0
    have k7 : V.cell? ⟨g, 7, none⟩ = some (.slice A9 k c9) := hq.dev.cell 7
    rw [hV] at k7
    have HQ := Lib.hid hq
    have HT0 := Lib.hid ht0
    have HV := Lib.hid hV
    have HOWN := Lib.hid hq.own
    have hgl := hq.dev.lt
    have HSZ : Hid (g + 1 ≤ V.heap.size) := Lib.hid (by omega)
    have HSW : Hid (V.heap.size = w.heap.size) := Lib.hid (by rw [hV]; simp [World.setCell])
    have HNG : Hid ((Value.slice A9 k c9).ownBlock ≠ some g) := Lib.hid (fun e => by have := (hq.own.lt g e).1; omega)
    have HF7 := Lib.hid (hq.dev.free 7)
    have HC7 : Hid (V.cell? ⟨g, 7, none⟩ = some (.slice A9 k c9)) := Lib.hid (hq.dev.cell 7)
    have HIF : Hid ((if 1 < u then u - 1 else u) = u - 1) := Lib.hid (if_pos hgt)
    rw [HIF.out]
    rw [hV] at HSZ HOWN
    have HSX : Hid ((w.setCell ⟨g, 5, none⟩ (.int .i64 (u - 1))).heap.size = w.heap.size) := Lib.hid (by simp [World.setCell])
    clear h hq ht0 hV hgl
    go_enter Try.func32, Try.ntmps32
    go_wp2_with (at_builtin; refine wp_ract (w.setCell ⟨g, 5, none⟩ (.int .i64 (u - 1))) rfl (.tmp 42) (.tmp 47) rfl (g + 1) (.slice A9 k c9) k al rfl HOWN.out w.heap.size HSX.out rfl (by omega) HSZ.out ?_)
    intro gg cap w1 hown1 hg1 hat1
    rw [← HV.out] at hg1
    rw [← HSW.out] at hat1
    have HE := Lib.hid (ract_end HSW.out HQ.out HT0.out hown1 hg1 hat1)
    have c7 : w1.cell? ⟨g, 7, none⟩ = some (.slice A9 k c9) := (hg1.cell_far ⟨g, 7, none⟩ (by simp; have := HQ.out.dev.lt; omega) (fun e => HNG.out e.symm)).trans ((World.cell?_alloc_lt V _ ⟨g, 7, none⟩ HQ.out.dev.lt).trans HC7.out)
    have f7 : w1.frozen? ⟨g, 7, none⟩ = false := (hg1.frozen_far ⟨g, 7, none⟩ (by simp; have := HQ.out.dev.lt; omega) (fun e => HNG.out e.symm)).trans ((HQ.out.next ((Below.refl _ _).alloc (Nat.le_refl _) _)).dev.free 7)
    clear hown1 hg1 hat1
    go_wp2
    go_ret
    exact HE.out
  · have hq := h
    have k7 : w.cell? ⟨g, 7, none⟩ = some (.slice A9 k c9) := hq.dev.cell 7
    have HQ := Lib.hid hq
    have HOWN := Lib.hid hq.own
    have hgl := hq.dev.lt
    have HSZ : Hid (g + 1 ≤ w.heap.size) := Lib.hid (by omega)
    have HNG : Hid ((Value.slice A9 k c9).ownBlock ≠ some g) := Lib.hid (fun e => by have := (hq.own.lt g e).1; omega)
    have HC7 : Hid (w.cell? ⟨g, 7, none⟩ = some (.slice A9 k c9)) := Lib.hid (hq.dev.cell 7)
    have HIF : Hid ((if 1 < u then u - 1 else u) = u) := Lib.hid (if_neg hgt)
    rw [HIF.out]
    clear h hq hgl
    go_enter Try.func32, Try.ntmps32
    go_wp2_with (at_builtin; refine wp_ract w rfl (.tmp 42) (.tmp 47) rfl (g + 1) (.slice A9 k c9) k al rfl HOWN.out w.heap.size rfl rfl (by omega) HSZ.out ?_; intro gg cap w1 hown1 hg1 hat1; have HE := Lib.hid (ract_end rfl HQ.out (Turns.of_below (Below.refl _ _)) hown1 hg1 hat1); have c7 : w1.cell? ⟨g, 7, none⟩ = some (.slice A9 k c9) := (hg1.cell_far ⟨g, 7, none⟩ (by simp; have := HQ.out.dev.lt; omega) (fun e => HNG.out e.symm)).trans ((World.cell?_alloc_lt w _ ⟨g, 7, none⟩ HQ.out.dev.lt).trans HC7.out); have f7 : w1.frozen? ⟨g, 7, none⟩ = false := (hg1.frozen_far ⟨g, 7, none⟩ (by simp; have := HQ.out.dev.lt; omega) (fun e => HNG.out e.symm)).trans ((HQ.out.next ((Below.refl _ _).alloc (Nat.le_refl _) _)).dev.free 7); clear hown1 hg1 hat1)
    go_ret
    exact HE.out
/-- what Do leaves -/
def RDoE (w : World) (g bp bm L nc : Nat) (lv : Value) (nA : Option Addr) (off : Bool) (u : Int) (kv av : Value) (k : Nat) (al : List Value) (e : Ending) (w' : World) : Prop :=
  (off = true ∧ e = .returned (.int .i64 8) ∧ w' = w) ∨ (off = false ∧ u = 1 ∧ e = .returned (.int .i64 8) ∧ RdQ w' g bp bm L nc lv nA true 0 kv av k al ∧ Turns (RdS g bp bm) w w') ∨
  (off = false ∧ u ≠ 1 ∧ RActE w g bp bm L nc lv nA (if 1 < u then u - 1 else u) kv av k al e w')
theorem rdo_any (g bp bm L nc : Nat) (lv : Value) (nA : Option Addr) (off : Bool) (u : Int) (kv av : Value) (k : Nat) (al : List Value) (w : World) (h : RdQ w g bp bm L nc lv nA off u kv av k al) (hu0 : 0 ≤ u) (hub : u ≤ 9223372036854775807) (hk : k < 1000) :
    Calls Try.prog 21 #[.pointer (some ⟨g, 0, none⟩)] w (RDoE w g bp bm L nc lv nA off u kv av k al) := by
  cases off
  · have HR := Lib.hid (rready_on g bp bm L nc lv nA u kv av k al w h)
    by_cases hu1 : u = 1
    · subst hu1
      have HA := Lib.hid (ract_blow g bp bm L nc lv nA kv av k al w h)
      clear h
      go_enter Try.func21, Try.ntmps21
      go_wp2_with fail
      refine HR.out.mono ?_
      rintro e w1 ⟨rfl, rfl⟩
      go_wp2_with fail
      refine HA.out.mono ?_
      rintro e w2 ⟨rfl, hq, ht⟩
      have HE := Lib.hid (show RDoE w g bp bm L nc lv nA false 1 kv av k al (.returned (.int .i64 8)) w2 from .inr (.inl ⟨rfl, rfl, rfl, hq, ht⟩))
      clear hq ht
      go_wp2
      go_ret
      exact HE.out
    · have HA := Lib.hid (ract_go g bp bm L nc lv nA u kv av k al w h hu1 hu0 hub hk)
      have HU := Lib.hid hu1
      clear h hu1
      go_enter Try.func21, Try.ntmps21
      go_wp2_with fail
      refine HR.out.mono ?_
      rintro e w1 ⟨rfl, rfl⟩
      go_wp2_with fail
      refine HA.out.mono ?_
      rintro e w2 ⟨av', rfl, hq⟩
      have HE := Lib.hid (show RDoE w g bp bm L nc lv nA false u kv av k al (.returned (.int .i64 0)) w2 from .inr (.inr ⟨rfl, HU.out, av', rfl, hq⟩))
      clear hq
      go_wp2
      go_ret
      exact HE.out
  · have HR := Lib.hid (rready_off g bp bm L nc lv nA u kv av k al w h)
    clear h
    go_enter Try.func21, Try.ntmps21
    go_wp2_with fail
    refine HR.out.mono ?_
    rintro e w1 ⟨rfl, rfl⟩
    go_wp2
    go_ret
    exact .inl ⟨rfl, rfl, rfl⟩
end Go.Proofs.Ytbanknppdgiflaa
