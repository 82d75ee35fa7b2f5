/-
  TrustPlays: the two registers beside one another while a block of the call's own stays; what an operation yields in every world of a condition.
-/
import Derived.Test.YtbanknppdgiflaaTrP
import Derived.Test.YtbanknppdgiflaaTrY
import Derived.Test.YtbanknppdgiflaaHeldF
import Derived.Great.Ranges
namespace Go.Proofs.Ytbanknppdgiflaa
open Go.RowKit Go
set_option linter.unusedVariables false
set_option linter.unusedSimpArgs false
section
variable {P : Program} {ops : Array Oper} {S : World → Prop} {o : Oper} {a : Act}
theorem yields_row (hw : Region.wanted o (yielded ops a.tmps) = true) (ty : TypeId) (x : Operand) (ho : o.op = .load ty x) (b off : Nat) (hx : a.eval x = .pointer (some ⟨b, off, none⟩)) (cs : List Value) (d : TypeDesc)
    (hS : ∀ w, S w → w.rangeAt b off cs) (hu : P.underlying ty = some d) (hd : d.isRow = true) (hi : (P.info? ty).map (·.size) = some cs.length) : YieldsIf P ops S o (.agg cs.toArray) a :=
  .inl ⟨hw, fun w h => by
    unfold execOp
    simp only [ho, hx, Instr.loadAt, Instr.sureAddr, Sem.run_bind, Sem.run_pure, Result.andThen_ok, run_loadVar_mid w b off ty cs d (hS w h) hu hd hi]⟩
theorem yields_rowA (hw : Region.wanted o (yielded ops a.tmps) = true) (ty : TypeId) (x : Operand) (ho : o.op = .load ty x) (b off : Nat) (hx : a.eval x = .pointer (some ⟨b, off, none⟩)) (xs : Array Value) (d : TypeDesc)
    (hS : ∀ w, S w → w.rangeAt b off xs.toList) (hu : P.underlying ty = some d) (hd : d.isRow = true) (hi : (P.info? ty).map (·.size) = some xs.size) : YieldsIf P ops S o (.agg xs) a := by
  have := yields_row (S := S) hw ty x ho b off hx xs.toList d hS hu hd (by simpa using hi)
  simpa using this
theorem yields_cell (hw : Region.wanted o (yielded ops a.tmps) = true) (ty : TypeId) (x : Operand) (ho : o.op = .load ty x) (b off : Nat) (hx : a.eval x = .pointer (some ⟨b, off, none⟩)) (v : Value) (d : TypeDesc)
    (hS : ∀ w, S w → w.cell? ⟨b, off, none⟩ = some v) (hu : P.underlying ty = some d) (hd : d.isRow = false) : YieldsIf P ops S o v a :=
  .inl ⟨hw, fun w h => by
    unfold execOp
    simp only [ho, hx, Instr.loadAt, Instr.sureAddr, Sem.run_bind, Sem.run_pure, Result.andThen_ok, run_loadVar_cell w b off ty d v hu hd (hS w h)]⟩
theorem yields_bin (op : BinOp) (hop : op = .neq ∨ op = .eql) (hw : Region.wanted o (yielded ops a.tmps) = true) (ty z : TypeId) (x y : Operand) (ho : o.op = .binOp op ty x y z) (xs ys : Array Value) (r : Value) (hx : a.eval x = .agg xs) (hy : a.eval y = .agg ys)
    (hm : P.eqGuardType P.depth ty = false) (hS : ∀ w, (binOp op ty (.agg xs) (.agg ys)).run P w = .ok r w) : YieldsIf P ops S o r a :=
  .inl ⟨hw, fun w h => by
    unfold execOp
    simp only [ho, hx, hy, Sem.run_bind, Sem.run_pure, Result.andThen_ok, run_eqGuard_agg w op ty x y xs ys hm, hS]⟩
theorem yields_build (hw : Region.wanted o (yielded ops a.tmps) = true) (t : TypeId) (parts : Array (Nat × Operand)) (ho : o.op = .build t parts) (cs : Array Value) (hf : P.built t (parts.map fun (i, x) => (i, a.eval x)).toList = some cs) : YieldsIf P ops S o (.agg cs) a :=
  .inl ⟨hw, fun w h => by
    unfold execOp
    simp only [ho, Sem.run_bind, run_build w t _ cs hf, Result.andThen_ok, Sem.run_pure]⟩
end
theorem wp_boxTo {P : Program} {o : Oper} {a : Act} {w : World} {K : Act → World → Prop} {Q : Exit → Act → World → Prop} (t : TypeId) (x : Operand) (ho : o.op = .box t x) (N : Nat) (hN : w.heap.size = N) (cells : Array Value) (hx : (a.eval x).cells = cells)
    (h : K (a.put o.dst (.pointer (some ⟨N, 0, none⟩))) (w.alloc (.cells cells t))) : Oper.wp P o a w K Q := by
  subst hN hx
  unfold Oper.wp execOp
  simp only [ho, Sem.run_bind, Instr.box, newVar, newRow, run_newObj_alloc, Sem.run_pure, Result.andThen_ok]
  exact h
/-- a register beside its device, as numbers -/
structure St where
  c : Nat
  l : List Nat
  off : Bool
  k : Nat
  u : Int
def SXs (s : St) (c' : Nat) (l' : List Nat) (z : Int) (s1 : St) : Prop := SX s.c c' s.l l' s.off s.u s.k z s1.c s1.l s1.off s1.k s1.u
theorem SXs.det {s s1 s2 : St} {c' : Nat} {l' : List Nat} {z z2 : Int} (h : SXs s c' l' z s1) (h2 : SXs s c' l' z2 s2) : z = z2 ∧ s1 = s2 := by
  obtain ⟨e1, e2, e3, e4, e5, e6⟩ := SX.det h h2
  cases s1; cases s2
  simp only at e2 e3 e4 e5 e6
  subst e1 e2 e3 e4 e5 e6
  exact ⟨rfl, rfl⟩
structure DuoA (w0 : World) (t g b r rg bp bm : Nat) (X : World → (Nat → Prop) → Prop) (s s2 : St) (av av2 kv lv : Value) (al al2 : List Value) (nA : Option Addr) (W : World) : Prop where
  ts : TS w0.heap.size t g b r rg bp bm s.c s2.c s.l s2.l s.off s2.off av s.k s2.k al al2 s.u s2.u lv nA kv av2 W
  blk : X W (fun j => pF t g b av j ∨ rF r rg bp bm av2 j)
  below : Below w0.heap.size w0 W
/-- the two beside one another, and a block p that holds o -/
def Duo (w0 : World) (t g b r rg bp bm : Nat) (X : World → (Nat → Prop) → Prop) (s s2 : St) (W : World) : Prop :=
  ∃ av av2 kv lv al al2 nA, DuoA w0 t g b r rg bp bm X s s2 av av2 kv lv al al2 nA W
/-- a condition on the world that a call keeps which turns blocks of F alone -/
def KeptX (X : World → (Nat → Prop) → Prop) : Prop := ∀ {W W' : World} {F F' S : Nat → Prop}, X W F → Turns S W W' → (∀ j, S j → F j) → (∀ j, F' j → F j ∨ W.heap.size ≤ j) → X W' F'
def nilX : World → (Nat → Prop) → Prop := fun _ _ => True
theorem kept_nil : KeptX nilX := fun _ _ _ _ => trivial
def blkX (p : Nat) (o : Obj) : World → (Nat → Prop) → Prop := fun W F => W.heap[p]? = some o ∧ ¬ F p
theorem kept_blk {p : Nat} {o : Obj} : KeptX (blkX p o) := fun {W W' F F' S} h ht hs hf => by
  have hl : p < W.heap.size := (Array.getElem?_eq_some_iff.1 h.1).1
  exact ⟨(ht.block p hl (fun q => h.2 (hs _ q))).trans h.1, fun q => by
    rcases hf _ q with q | q
    · exact h.2 q
    · omega⟩
theorem kept_and {X Y : World → (Nat → Prop) → Prop} (hx : KeptX X) (hy : KeptX Y) : KeptX (fun W F => X W F ∧ Y W F) := fun h ht hs hf => ⟨hx h.1 ht hs hf, hy h.2 ht hs hf⟩
section
variable {w0 : World} {t g b r rg bp bm : Nat} {X Y : World → (Nat → Prop) → Prop} {s s2 : St} {W W' : World}
theorem Duo.x (h : Duo w0 t g b r rg bp bm X s s2 W) : ∃ F, X W F := by
  obtain ⟨av, av2, kv, lv, al, al2, nA, h⟩ := h
  exact ⟨_, h.blk⟩
theorem Duo.next (hX : KeptX X) (h : Duo w0 t g b r rg bp bm X s s2 W) (hb : Below W.heap.size W W') : Duo w0 t g b r rg bp bm X s s2 W' := by
  obtain ⟨av, av2, kv, lv, al, al2, nA, h⟩ := h
  exact ⟨av, av2, kv, lv, al, al2, nA, h.ts.next hb, hX h.blk (Turns.of_below (S := fun _ => False) hb) (fun _ q => q.elim) (fun _ q => .inl q), h.below.trans (hb.mono h.below.size)⟩
/-- a block that came behind -/
theorem Duo.more (h : Duo w0 t g b r rg bp bm X s s2 W) {p : Nat} {o : Obj} (hX : KeptX X) (hb : Below W.heap.size W W') (hp : W.heap.size ≤ p) (ho : W'.heap[p]? = some o) : Duo w0 t g b r rg bp bm (fun W F => X W F ∧ blkX p o W F) s s2 W' := by
  have h2 := h.next hX hb
  obtain ⟨av, av2, kv, lv, al, al2, nA, h⟩ := h
  refine ⟨av, av2, kv, lv, al, al2, nA, h.ts.next hb, ⟨hX h.blk (Turns.of_below (S := fun _ => False) hb) (fun _ q => q.elim) (fun _ q => .inl q), ho, ?_⟩, h.below.trans (hb.mono h.below.size)⟩
  rintro (q | q)
  · have := (h.ts.pp.lt q).2; omega
  · have := (h.ts.rr.lt q).2; omega
theorem Duo.less (h : Duo w0 t g b r rg bp bm X s s2 W) (hXY : ∀ W F, X W F → Y W F) : Duo w0 t g b r rg bp bm Y s s2 W := by
  obtain ⟨av, av2, kv, lv, al, al2, nA, h⟩ := h
  exact ⟨av, av2, kv, lv, al, al2, nA, h.ts, hXY _ _ h.blk, h.below⟩
theorem Duo.u (h : Duo w0 t g b r rg bp bm X s s2 W) : 0 ≤ s.u ∧ s.u ≤ 9223372036854775807 ∧ s.c < 2 ^ 64 := by
  obtain ⟨av, av2, kv, lv, al, al2, nA, h⟩ := h
  exact ⟨h.ts.pp.u0, h.ts.pp.u1, h.ts.pp.cb⟩
theorem Duo.below (h : Duo w0 t g b r rg bp bm X s s2 W) : Below w0.heap.size w0 W := by
  obtain ⟨av, av2, kv, lv, al, al2, nA, h⟩ := h
  exact h.below
theorem Duo.pset (h : Duo w0 t g b r rg bp bm X s s2 W) (hX : KeptX X) (c' : Nat) (l' : List Nat) (hc : c' < 2 ^ 64) (hk : s.k < 1000) :
    Calls Try.prog 7 #[.pointer (some ⟨t, 0, none⟩), .agg (rowV (regF c' l') 33)] W (fun e W' => ∃ z s1, e = .returned (.int .i64 z) ∧ SXs s c' l' z s1 ∧ Duo w0 t g b r rg bp bm X s1 s2 W') := by
  obtain ⟨av, av2, kv, lv, al, al2, nA, h⟩ := h
  refine (h.ts.pset h.below.size c' l' hc hk).mono ?_
  rintro e W' ⟨z, c1, l1, off1, av1, k1, al1, u1, he, hsx, hts, hb, ht, hn⟩
  refine ⟨z, ⟨c1, l1, off1, k1, u1⟩, he, hsx, av1, av2, kv, lv, al1, al2, nA, hts, hX h.blk ht (fun _ q => .inl q) ?_, h.below.trans hb⟩
  rintro j (q | q)
  · exact (hn j q).imp .inl id
  · exact .inl (.inr q)
theorem Duo.rset (h : Duo w0 t g b r rg bp bm X s s2 W) (hX : KeptX X) (c' : Nat) (l' : List Nat) (hk : s2.k < 1000) (h0 : 0 ≤ s2.u) (h1 : s2.u ≤ 9223372036854775807) :
    Calls Try.prog 8 #[.pointer (some ⟨r, 0, none⟩), .agg (rowV (regF c' l') 33)] W (fun e W' => ∃ z s1, e = .returned (.int .i64 z) ∧ SXs s2 c' l' z s1 ∧ Duo w0 t g b r rg bp bm X s s1 W') := by
  obtain ⟨av, av2, kv, lv, al, al2, nA, h⟩ := h
  refine (h.ts.rset h.below.size c' l' hk h0 h1).mono ?_
  rintro e W' ⟨z, c1, l1, off1, av1, k1, al1, u1, he, hsx, hts, hb, ht, hn⟩
  refine ⟨z, ⟨c1, l1, off1, k1, u1⟩, he, hsx, av, av1, kv, lv, al, al1, nA, hts, hX h.blk ht (fun _ q => .inr q) ?_, h.below.trans hb⟩
  rintro j (q | q)
  · exact .inl (.inl q)
  · exact (hn j q).imp .inr id
def PDuo (w0 : World) (t g b r rg bp bm : Nat) (X : World → (Nat → Prop) → Prop) (s s2 : St) (e : Ending) (W : World) : Prop := e = .returned (.tuple #[]) ∧ Duo w0 t g b r rg bp bm X s s2 W
theorem Duo.of_p (hX : KeptX X) {off1 : Bool} {u1 : Int} {av av2 kv lv : Value} {al al2 : List Value} {nA : Option Addr} (h : DuoA w0 t g b r rg bp bm X s s2 av av2 kv lv al al2 nA W) {e : Ending}
    (hd : PDev w0.heap.size t g b r rg bp bm s.c s2.c s.l s2.l off1 s2.off av s.k s2.k al al2 u1 s2.u lv nA kv av2 W e W') : PDuo w0 t g b r rg bp bm X ⟨s.c, s.l, off1, s.k, u1⟩ s2 e W' :=
  ⟨hd.1, av, av2, kv, lv, al, al2, nA, hd.2.1, hX h.blk hd.2.2 (fun _ q => .inl q) (fun _ q => .inl q), h.below.trans (h.ts.pbelow h.below.size hd.2.2)⟩
theorem Duo.of_r (hX : KeptX X) {off1 : Bool} {u1 : Int} {av av2 kv lv : Value} {al al2 : List Value} {nA : Option Addr} (h : DuoA w0 t g b r rg bp bm X s s2 av av2 kv lv al al2 nA W) {e : Ending}
    (hd : RDev w0.heap.size t g b r rg bp bm s.c s2.c s.l s2.l s.off off1 av s.k s2.k al al2 s.u u1 lv nA av2 W e W') : PDuo w0 t g b r rg bp bm X s ⟨s2.c, s2.l, off1, s2.k, u1⟩ e W' := by
  obtain ⟨he, ⟨kv', hts⟩, ht⟩ := hd
  exact ⟨he, av, av2, kv', lv, al, al2, nA, hts, hX h.blk ht (fun _ q => .inr q) (fun _ q => .inl q), h.below.trans (h.ts.rbelow h.below.size ht)⟩
theorem Duo.pcrash (h : Duo w0 t g b r rg bp bm X s s2 W) (hX : KeptX X) : Calls Try.prog 9 #[.pointer (some ⟨g, 0, none⟩), .slice none 0 0] W (PDuo w0 t g b r rg bp bm X ⟨s.c, s.l, true, s.k, uCr s.off s.u⟩ s2) := by
  obtain ⟨av, av2, kv, lv, al, al2, nA, h⟩ := h
  exact h.ts.pcrash.mono (fun e W' hd => Duo.of_p hX h hd)
theorem Duo.rcrash (h : Duo w0 t g b r rg bp bm X s s2 W) (hX : KeptX X) : Calls Try.prog 10 #[.pointer (some ⟨rg, 0, none⟩), .slice none 0 0] W (PDuo w0 t g b r rg bp bm X s ⟨s2.c, s2.l, true, s2.k, uCr s2.off s2.u⟩) := by
  obtain ⟨av, av2, kv, lv, al, al2, nA, h⟩ := h
  exact h.ts.rcrash.mono (fun e W' hd => Duo.of_r hX h hd)
theorem Duo.pon (h : Duo w0 t g b r rg bp bm X s s2 W) (hX : KeptX X) : Calls Try.prog 11 #[.pointer (some ⟨g, 0, none⟩)] W (PDuo w0 t g b r rg bp bm X ⟨s.c, s.l, false, s.k, 0⟩ s2) := by
  obtain ⟨av, av2, kv, lv, al, al2, nA, h⟩ := h
  exact h.ts.pon.mono (fun e W' hd => Duo.of_p hX h hd)
theorem Duo.ron (h : Duo w0 t g b r rg bp bm X s s2 W) (hX : KeptX X) : Calls Try.prog 12 #[.pointer (some ⟨rg, 0, none⟩)] W (PDuo w0 t g b r rg bp bm X s ⟨s2.c, s2.l, false, s2.k, 0⟩) := by
  obtain ⟨av, av2, kv, lv, al, al2, nA, h⟩ := h
  exact h.ts.ron.mono (fun e W' hd => Duo.of_r hX h hd)
theorem Duo.parm (h : Duo w0 t g b r rg bp bm X s s2 W) (hX : KeptX X) (N : Int) (hN : N ≤ 9223372036854775807) : Calls Try.prog 13 #[.pointer (some ⟨g, 0, none⟩), .int .i64 N, .slice none 0 0] W (PDuo w0 t g b r rg bp bm X ⟨s.c, s.l, s.off, s.k, armU N⟩ s2) := by
  obtain ⟨av, av2, kv, lv, al, al2, nA, h⟩ := h
  exact (h.ts.parm N hN).mono (fun e W' hd => Duo.of_p hX h hd)
theorem Duo.rarm (h : Duo w0 t g b r rg bp bm X s s2 W) (hX : KeptX X) (N : Int) : Calls Try.prog 14 #[.pointer (some ⟨rg, 0, none⟩), .int .i64 N, .slice none 0 0] W (PDuo w0 t g b r rg bp bm X s ⟨s2.c, s2.l, s2.off, s2.k, armU N⟩) := by
  obtain ⟨av, av2, kv, lv, al, al2, nA, h⟩ := h
  exact (h.ts.rarm N).mono (fun e W' hd => Duo.of_r hX h hd)
/-- what is read of both, in whatever world behind -/
theorem Duo.read (h : Duo w0 t g b r rg bp bm X s s2 W) : Calls Try.prog 15 #[.pointer (some ⟨t, 0, none⟩)] W fun e w' => e = .returned (.agg (rowV (regF s.c s.l) 33)) ∧ Below W.heap.size W w' := by
  obtain ⟨av, av2, kv, lv, al, al2, nA, h⟩ := h
  exact read9_any t g s.c s.l W h.ts.pp.tb
theorem Duo.last (h : Duo w0 t g b r rg bp bm X s s2 W) : Calls Try.prog 16 #[.pointer (some ⟨t, 0, none⟩)] W fun e w' => e = .returned (.bool ((s.c : Int) == (18446744073709551615 : Int))) ∧ Below W.heap.size W w' := by
  obtain ⟨av, av2, kv, lv, al, al2, nA, h⟩ := h
  exact last9_any t g s.c s.l W h.ts.pp.tb
theorem Duo.down (h : Duo w0 t g b r rg bp bm X s s2 W) : Calls Try.prog 17 #[.pointer (some ⟨g, 0, none⟩)] W fun e w' => e = .returned (.bool s.off) ∧ Below W.heap.size W w' := by
  obtain ⟨av, av2, kv, lv, al, al2, nA, h⟩ := h
  refine (down8_any g _ s.off av (.slice none 0 0) s.u W h.ts.pp.dq.dev.dev).mono ?_
  rintro e w' ⟨he, hb⟩
  first | exact ⟨he, hb⟩ | exact ⟨he, hb ▸ Below.refl _ _⟩ | (subst hb; exact ⟨he, Below.refl _ _⟩)
theorem Duo.acts (h : Duo w0 t g b r rg bp bm X s s2 W) (hk : s.k < 1000) : Calls Try.prog 18 #[.pointer (some ⟨g, 0, none⟩)] W fun e w' => (∃ A c, e = .returned (.slice A s.k c)) ∧ Below W.heap.size W w' := by
  obtain ⟨av, av2, kv, lv, al, al2, nA, h⟩ := h
  exact acts8_any g s.k _ s.off av (.slice none 0 0) al s.u W h.ts.pp.dq.dev (by omega) h.ts.pp.k0 h.ts.pp.one
theorem Duo.rlist (h : Duo w0 t g b r rg bp bm X s s2 W) : ∃ cs : List Value, cs.toArray = rowV (regF s2.c s2.l) 33 ∧ cs.length = 33 ∧ ∀ w, Below W.heap.size W w → w.rangeAt r 0 cs := by
  obtain ⟨av, av2, kv, lv, al, al2, nA, h⟩ := h
  obtain ⟨cs, h1, h2⟩ := reg_list s2.c s2.l
  refine ⟨cs, h1, h2, fun w hb => Cells.range (Cells.after h.ts.rr.rb hb) fun j v hv => ?_⟩
  have hj : j < 33 := by have := (List.getElem?_eq_some_iff.mp hv).1; omega
  have h3 : (rowV (regF s2.c s2.l) 33)[j]? = some v := by rw [← h1]; simpa using hv
  rw [rowV_at _ hj] at h3
  refine ⟨by omega, ?_⟩
  rw [Nat.zero_add]
  unfold rgF
  rw [if_pos hj]
  exact (Option.some.inj h3).symm
theorem Duo.rcount (h : Duo w0 t g b r rg bp bm X s s2 W) : ∀ w, Below W.heap.size W w → w.cell? ⟨r, 0, none⟩ = some (.int .u64 (s2.c : Int)) := by
  obtain ⟨av, av2, kv, lv, al, al2, nA, h⟩ := h
  exact fun w hb => (Cells.after h.ts.rr.rb hb).cell 0 (by omega)
theorem Duo.rdown (h : Duo w0 t g b r rg bp bm X s s2 W) : ∀ w, Below W.heap.size W w → w.cell? ⟨rg, 4, none⟩ = some (.bool s2.off) := by
  obtain ⟨av, av2, kv, lv, al, al2, nA, h⟩ := h
  exact fun w hb => (h.ts.rr.next hb).rq.dev.cell 4
theorem Duo.racts (h : Duo w0 t g b r rg bp bm X s s2 W) : ∃ av2, (∃ A c, av2 = .slice A s2.k c) ∧ ∀ w, Below W.heap.size W w → w.cell? ⟨rg, 7, none⟩ = some av2 := by
  obtain ⟨av, av2, kv, lv, al, al2, nA, h⟩ := h
  refine ⟨av2, ?_, fun w hb => (h.ts.rr.next hb).rq.dev.cell 7⟩
  obtain ⟨h1, h2⟩ := h.ts.rr.rq.own
  rcases h2 with h2 | ⟨b9, cap, cur, hv, _⟩
  · rw [h2.1, h2.2]; exact ⟨none, 0, rfl⟩
  · exact ⟨_, _, hv⟩
end
theorem Duo.rrow {w0 : World} {t g b r rg bp bm : Nat} {X : World → (Nat → Prop) → Prop} {s s2 : St} {W : World} (h : Duo w0 t g b r rg bp bm X s s2 W) : ∀ w, Below W.heap.size W w → w.rangeAt r 0 (rowV (regF s2.c s2.l) 33).toList := by
  obtain ⟨cs, h1, h2, h3⟩ := h.rlist
  intro w hb
  rw [← h1]
  simpa using h3 w hb
theorem eql_reg (c : Nat) (l : List Nat) (w : World) : (binOp .eql RegT (.agg (rowV (regF c l) 33)) (.agg (rowV (regF c l) 33))).run Try.prog w = .ok (.bool true) w := by
  have h := neq_reg c l w
  rw [run_neq_struct] at h
  rw [run_eql_struct]
  generalize (Op.equalIn 10000 RegT (.agg (rowV (regF c l) 33)) (.agg (rowV (regF c l) 33))).run Try.prog w = R at h ⊢
  cases R <;> simp [Result.andThen] at h ⊢
  exact h
abbrev DigT : TypeId := 24
theorem opL_reg {U : World} {p : Nat} {K B N : Int} {c : Nat} {l : List Nat} {T : TypeId} (h : U.heap[p]? = some (.cells (opL K c l B N).toArray T (0, 0))) : U.rangeAt p 1 (rowV (regF c l) 33).toList := fun j v hv => by
  have hj : j < (rowV (regF c l) 33).toList.length := (List.getElem?_eq_some_iff.1 hv).1
  rw [blk_cell h, List.getElem?_toArray, opL, Nat.add_comm 1 j, List.getElem?_cons_succ, List.getElem?_append_left hj, hv]
theorem opL_root {U : World} {p : Nat} {K B N : Int} {c : Nat} {l : List Nat} {T : TypeId} (h : U.heap[p]? = some (.cells (opL K c l B N).toArray T (0, 0))) : U.rangeAt p 2 (rowV (rootF l) 32).toList := fun j v hv => by
  have hj : j < 32 := by have := (List.getElem?_eq_some_iff.1 hv).1; simpa [rowV_size] using this
  have h1 := opL_reg h (1 + j) (regF c l (1 + j)) (by rw [Array.getElem?_toList]; exact rowV_at _ (by omega))
  rw [show 2 + j = 1 + (1 + j) by omega, h1]
  have h2 : (rowV (rootF l) 32)[j]? = some v := by rw [← Array.getElem?_toList]; exact hv
  rw [rowV_at _ hj] at h2
  rw [← Option.some.inj h2]
  unfold regF rootF
  rw [if_neg (by omega), show 1 + j - 1 = j by omega]
theorem built_reg2 (c : Nat) (l : List Nat) : Try.prog.built RegT [(0, .int .u64 (c : Int)), (1, .agg (rowV (rootF l) 32))] = some (rowV (regF c l) 33) := by kernel_rfl
theorem info_dig (l : List Nat) : (Try.prog.info? DigT).map (·.size) = some (rowV (rootF l) 32).size := by rw [rowV_size]; kernel_rfl
theorem sum_reg (c : Nat) (B : Int) : ∃ c3 : Nat, c3 < 2 ^ 64 ∧ IntKind.u64.wrap ((c : Int) + B) = (c3 : Int) :=
  ⟨(IntKind.u64.wrap ((c : Int) + B)).toNat, by rw [IntKind.wrap_u64]; omega, by rw [IntKind.wrap_u64]; omega⟩
theorem duo_start {w0 W : World} {t g b r rg bp bm c0 m m2 : Nat} {l0 : List Nat} {lv : Value} {nA : Option Addr} (hc : c0 < 2 ^ 64) (hb : Below w0.heap.size w0 W) (ht : TrustB W t g (regF c0 l0)) (hd : DevQ W g b 1 1 false (.slice none 0 0) 0 [] 0 (.slice none 0 0))
    (hr : RgB W r rg (regF c0 l0)) (hq : RdQ W rg bp bm 64 64 lv nA false 0 (.slice none 0 0) (.slice none 0 0) 0 []) (h1 : w0.heap.size ≤ b) (h2 : g < m) (h3 : m ≤ bp) (h4 : m ≤ bm) (h5 : rg < m2) (h6 : m2 ≤ t) (h7 : m2 ≤ r) (h8 : t ≠ r) : Duo w0 t g b r rg bp bm nilX ⟨c0, l0, false, 0, 0⟩ ⟨c0, l0, false, 0, 0⟩ W := by
  have e1 := hd.bg
  have e2 := hq.bg
  have e3 := hq.mg
  refine ⟨.slice none 0 0, .slice none 0 0, .slice none 0 0, lv, [], [], nA, ⟨⟨ht, hd, hc, by simp [Value.ownBlock], by simp, by simp, h1, by omega, fun _ => rfl, fun v hv => by simp at hv⟩, ⟨hr, hq, by omega, by simp [Value.ownBlock], by omega, by omega⟩, ?_⟩, trivial, hb⟩
  rintro j (q | q | q | q)
  · rintro (q2 | q2 | q2 | q2 | q2) <;> first | omega | simp [Value.ownBlock] at q2
  · rintro (q2 | q2 | q2 | q2 | q2) <;> first | omega | simp [Value.ownBlock] at q2
  · rintro (q2 | q2 | q2 | q2 | q2) <;> first | omega | simp [Value.ownBlock] at q2
  · simp [Value.ownBlock] at q
end Go.Proofs.Ytbanknppdgiflaa
