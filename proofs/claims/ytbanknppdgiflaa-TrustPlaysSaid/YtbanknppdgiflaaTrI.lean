/-
  TrustRises: what its walk asks: New of one line, the operations that came in, two quiet operations.
-/
import Derived.Test.YtbanknppdgiflaaTrH
import Derived.Test.YtbanknppdgiflaaTrE
import Derived.Test.YtbanknppdgiflaaClsC
import Derived.WalkKit
import Derived.ProofKit
import Derived.OpenShut
import Derived.Deep.Slices
import Derived.Deep.Fields
import Derived.ChangeSame
namespace Go.Proofs.Ytbanknppdgiflaa
open Go.RowKit Go
set_option linter.unusedVariables false
set_option linter.unusedSimpArgs false
theorem quiet_field {P : Program} {C : World → Prop} {o : Oper} {a : Act} {K : Act → Prop} (ty : TypeId) (x : Operand) (ix : Nat) (ho : o.op = .field ty x ix) (v r : Value) (hx : a.eval x = v)
    (hS : ∀ w, (Instr.field ty v ix).run P w = .ok r w) (hk : K (a.put o.dst r)) : o.quiet P a C K :=
  ⟨_, fun w hw => by
    unfold Oper.quietAt execOp
    simp only [ho, hx, Sem.run_bind, Sem.run_pure, Result.andThen_ok, hS]
    exact ⟨rfl, rfl⟩, hk⟩
theorem quiet_neq {P : Program} {C : World → Prop} {o : Oper} {a : Act} {K : Act → Prop} (ty z : TypeId) (x y : Operand) (ho : o.op = .binOp .neq ty x y z) (xs ys : Array Value) (r : Value) (hx : a.eval x = .agg xs) (hy : a.eval y = .agg ys)
    (hm : P.eqGuardType P.depth ty = false) (hS : ∀ w, (binOp .neq ty (.agg xs) (.agg ys)).run P w = .ok r w) (hk : K (a.put o.dst r)) : o.quiet P a C K :=
  ⟨_, fun w hw => by
    unfold Oper.quietAt execOp
    simp only [ho, hx, hy, Sem.run_bind, Sem.run_pure, Result.andThen_ok, run_eqGuard_agg w .neq ty x y xs ys hm, hS]
    exact ⟨rfl, rfl⟩, hk⟩
theorem guard_reg : Try.prog.eqGuardType Try.prog.depth RegT = false := by kernel_rfl
theorem field_reg (c : Nat) (l : List Nat) (w : World) : (Instr.field RegT (.agg (rowV (regF c l) 33)) 0).run Try.prog w = .ok (.int .u64 (c : Int)) w := by kernel_rfl
theorem make_line1 (n : Nat) (hn : n = 1) : ∃ cs : Array Value, (∀ m, m < 8 → cs[m * 18 + 16]? = some (.bool false)) ∧ ∀ w, (Instr.makeSlice 55 (.int .i64 (n : Int)) (.int .i64 (n : Int))).run Try.prog w = .ok (.slice (some ⟨w.heap.size, 0, none⟩) n n) (w.alloc (.cells cs 79)) := by
  obtain ⟨i, h0, h1, h2, h3⟩ := info_parts info_line
  refine ⟨madeCells (Value.agg (rowV lineZ 144)).cells (n * 144), fun m hm => ?_, fun w => ?_⟩
  · subst hn
    rcases (by omega : m = 0 ∨ m = 1 ∨ m = 2 ∨ m = 3 ∨ m = 4 ∨ m = 5 ∨ m = 6 ∨ m = 7) with rfl | rfl | rfl | rfl | rfl | rfl | rfl | rfl <;> kernel_rfl
  · have hr := run_make (P := Try.prog) w 55 79 i _ Try.underlying55 h0 h1 .i64 .i64 n n (by omega) (by omega) (by rw [h3]; omega) (by omega)
    rw [hr, h2]
    simp only [Int.toNat_natCast]
def NewQ1 (n : Nat) (w : World) (e : Ending) (w' : World) : Prop :=
  e = .returned (.pointer (some ⟨w.heap.size + 1, 0, none⟩)) ∧ DevQ w' (w.heap.size + 1) w.heap.size n n false (.slice none 0 0) 0 [] 0 (.slice none 0 0) ∧ Below w.heap.size w w' ∧ w'.heap.size = w.heap.size + 1 + 1
set_option maxHeartbeats 1000000 in
set_option maxRecDepth 100000 in
theorem newQn_any (n : Nat) (hn : n = 1) (w : World) : Calls Try.prog 4 #[.int .i64 (n : Int)] w (NewQ1 n w) := by
  obtain ⟨cs, hcs, hmk⟩ := make_line1 n hn
  have hnb : n ≤ 1024 := by omega
  have hmin : min (n : Int) 1024 = (n : Int) := by omega
  have e1 : ∀ o, (w.alloc o).heap.size = w.heap.size + 1 := fun o => by simp
  have hl := heap_alloc_new w (.cells cs 79)
  have hd := heap_alloc_new (w.alloc (.cells cs 79)) (.cells #[.slice (some ⟨w.heap.size, 0, none⟩) n n, .bool false, .slice none 0 0, .int .i64 0, .slice none 0 0] 57)
  rw [e1] at hd
  have hl2 := blk_alloc hl (.cells #[.slice (some ⟨w.heap.size, 0, none⟩) n n, .bool false, .slice none 0 0, .int .i64 0, .slice none 0 0] 57)
  have H : Hid (NewQ1 n w (.returned (.pointer (some ⟨w.heap.size + 1, 0, none⟩))) ((w.alloc (.cells cs 79)).alloc (.cells #[.slice (some ⟨w.heap.size, 0, none⟩) n n, .bool false, .slice none 0 0, .int .i64 0, .slice none 0 0] 57))) :=
    Lib.hid ⟨rfl, ⟨⟨hd, World.ownsRow_nil _ _ _ _⟩, fun m hm => (blk_cell hl2 _).trans (hcs m (by omega)), by omega, by omega, by omega⟩, ((Below.refl _ _).alloc (Nat.le_refl _) _).alloc (by rw [e1]; omega) _, by simp⟩
  clear e1 hd hl hl2 hcs hn
  go_enter Try.func4, Try.ntmps4
  go_wp2
  go_ret
  exact H.out
theorem newQ1_any (w : World) : Calls Try.prog 4 #[.int .i64 1] w (NewQ1 1 w) := newQn_any 1 rfl w
abbrev OpT9 : TypeId := 38
/-- a call's cells -/
def opL (K : Int) (c : Nat) (l : List Nat) (B N : Int) : List Value := .int .i64 K :: ((rowV (regF c l) 33).toList ++ [.int .u64 B, .int .i64 N])
theorem opL_len (K : Int) (c : Nat) (l : List Nat) (B N : Int) : (opL K c l B N).length = 36 := by simp [opL, rowV_size]
theorem opL_one (K : Int) (c : Nat) (l : List Nat) (B N : Int) : ∀ v ∈ opL K c l B N, v.oneCell' = true := by
  intro v hv
  unfold opL at hv
  rcases List.mem_cons.1 hv with rfl | hv
  · rfl
  · rcases List.mem_append.1 hv with hv | hv
    · exact (Array.all_eq_true_iff_forall_mem.1 (one_reg c l)) v (by simpa using hv)
    · simp at hv; rcases hv with rfl | rfl <;> rfl
/-- the calls that came in -/
def OpsQ (w : World) (A : Option Addr) (n : Nat) : Prop :=
  0 < n → ∃ b o, A = some ⟨b, o, none⟩ ∧ b < w.heap.size ∧ ∀ i, i < n → ∃ (K B N : Int) (c : Nat) (l : List Nat), c < 2 ^ 64 ∧ N ≤ 9223372036854775807 ∧ w.rangeAt b (o + i * 36) (opL K c l B N)
theorem OpsQ.below {w w' : World} {A : Option Addr} {n : Nat} (h : OpsQ w A n) (hb : Below w.heap.size w w') : OpsQ w' A n := fun hn => by
  obtain ⟨b, o, h1, h2, h3⟩ := h hn
  refine ⟨b, o, h1, Nat.lt_of_lt_of_le h2 hb.size, fun i hi => ?_⟩
  obtain ⟨K, B, N, c, l, a1, a2, a3⟩ := h3 i hi
  exact ⟨K, B, N, c, l, a1, a2, fun j v hv => (hb.cell (p := ⟨b, o + i * 36 + j, none⟩) h2).trans (a3 j v hv)⟩
def opZ (i : Nat) : Value := if i = 0 then .int .i64 0 else if i = 1 then .int .u64 0 else if i < 34 then .int .u8 0 else if i = 34 then .int .u64 0 else .int .i64 0
theorem zero_op (w : World) : (zeroValue OpT9).run Try.prog w = .ok (.agg (rowV opZ 36)) w := by kernel_rfl
theorem info_op9 : (Try.prog.info? OpT9).map (·.size) = some 36 := by kernel_rfl
theorem info_rg9 : (Try.prog.info? RegT).map (·.size) = some 33 := by kernel_rfl
structure RiC (w0 : World) (t g b i c : Nat) (l : List Nat) (off : Bool) (av : Value) (k : Nat) (al : List Value) (u : Int) (W : World) : Prop where
  tb : TrustB W t g (regF c l)
  dq : DevQ W g b 1 1 off av k al u (.slice none 0 0)
  cb : c < 2 ^ 64
  hav : av.ownBlock ≠ some t
  u0 : 0 ≤ u
  u1 : u ≤ 9223372036854775807
  ki : k ≤ i
  below : Below w0.heap.size w0 W
  bw : w0.heap.size ≤ b
  gt : g < t
def RiR (w0 : World) (t g b n : Nat) (iv : Value) (W : World) : Prop :=
  ∃ (i c : Nat) (l : List Nat) (off : Bool) (av : Value) (k : Nat) (al : List Value) (u : Int), iv = .int .i64 (i : Int) ∧ i ≤ 40 ∧ i ≤ n ∧ RiC w0 t g b i c l off av k al u W
section
variable {w0 W W' : World} {t g b i c : Nat} {l : List Nat} {off : Bool} {av : Value} {k : Nat} {al : List Value} {u : Int}
theorem RiC.next (h : RiC w0 t g b i c l off av k al u W) (hb : Below W.heap.size W W') : RiC w0 t g b i c l off av k al u W' :=
  ⟨Cells.after h.tb hb, h.dq.next hb, h.cb, h.hav, h.u0, h.u1, h.ki, h.below.trans (hb.mono h.below.size), h.bw, h.gt⟩
theorem RiC.step (h : RiC w0 t g b i c l off av k al u W) : RiC w0 t g b (i + 1) c l off av k al u W :=
  ⟨h.tb, h.dq, h.cb, h.hav, h.u0, h.u1, by have := h.ki; omega, h.below, h.bw, h.gt⟩
/-- a call of the device alone -/
theorem RiC.dev {off' : Bool} {u' : Int} (h : RiC w0 t g b i c l off av k al u W) (hd : DevQ W' g b 1 1 off' av k al u' (.slice none 0 0)) (ht : Turns (fun j => j = g) W W') (h0 : 0 ≤ u') (h1 : u' ≤ 9223372036854775807) : RiC w0 t g b i c l off' av k al u' W' := by
  have hgt := h.gt
  have hbg := h.dq.bg
  have hbw := h.bw
  exact ⟨Cells.same h.tb ht.size (ht.block t h.tb.lt (fun q => by omega)), hd, h.cb, h.hav, h0, h1, h.ki, h.below.trans (ht.below h.below.size (fun j q => by omega)), h.bw, h.gt⟩
theorem RiC.set {c' c1 : Nat} {l' l1 : List Nat} {off' : Bool} {av' : Value} {k' : Nat} {al' : List Value} {u' : Int} (h : RiC w0 t g b i c l off av k al u W) (hc1 : c1 < 2 ^ 64) (htb : TrustB W' t g (regF c1 l1)) (hd : DevQ W' g b 1 1 off' av' k' al' u' (.slice none 0 0)) (hk : k' ≤ k + 1) (h0 : 0 ≤ u') (h1 : u' ≤ 9223372036854775807)
    (ht : Turns (fun j => j = t ∨ j = g ∨ av.ownBlock = some j) W W') (ho : av'.ownBlock = av.ownBlock ∨ ∃ j, W.heap.size ≤ j ∧ av'.ownBlock = some j) : RiC w0 t g b (i + 1) c1 l1 off' av' k' al' u' W' := by
  have hgt := h.gt
  have hbg := h.dq.bg
  have hbw := h.bw
  refine ⟨htb, hd, hc1, ?_, h0, h1, by have := h.ki; omega, h.below.trans (ht.below h.below.size (fun j q => ?_)), h.bw, h.gt⟩
  · rcases ho with q | ⟨j, hj, q⟩
    · rw [q]; exact h.hav
    · rw [q]; intro e; injection e with e; have := h.tb.lt; omega
  · rcases q with q | q | q
    · omega
    · omega
    · have := (h.dq.dev.own.lt j q).1; omega
end
end Go.Proofs.Ytbanknppdgiflaa
