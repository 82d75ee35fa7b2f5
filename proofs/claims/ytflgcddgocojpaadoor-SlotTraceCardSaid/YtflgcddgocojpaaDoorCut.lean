/-
  Slices that are cut; bytes that are copied. No program is named here.
-/
import Derived.Test.YtflgcddgocojpaaDoorVal
import Derived.Laws.CopyOwn
namespace Go.Proofs.YtflgcddgocojpaaDoor
open Go.RowKit Go
set_option linter.unusedVariables false
def lenV (v : Value) : Nat := match v with | .slice _ l _ => l | _ => 0
/-- where a slice that starts at A and has room for c starts, cut by k -/
def cutA (A : Option Addr) (c k : Nat) : Option Addr := if c = k then A else A.map (·.add k)
theorem run_cut {P : Program} (t e : TypeId) (ht : P.underlying t = some (.slice e)) (hi : (P.info? e).map (·.size) = some 1) (A : Option Addr) (n c k : Nat) (hk : k ≤ n) (w : World) :
    (Instr.slice t (.slice A n c) (some (.int .i64 (k : Int))) none none).run P w = .ok (.slice (cutA A c k) (n - k) (c - k)) w := by
  obtain ⟨i, hi', hz⟩ := Option.map_eq_some_iff.mp hi
  unfold cutA
  simp [Instr.slice, Instr.sliceBounds, Instr.sliceBound, run_underlying ht, asIntOf, go_sem, sizeOf, typeInfo, hi', hz]
  intro h
  omega
theorem run_cut_arr {P : Program} (t e : TypeId) (N : Nat) (ht : P.underlying t = some (.array N e)) (hi : (P.info? e).map (·.size) = some 1) (b o k : Nat) (hk : k < N) (w : World) :
    (Instr.sliceAt t (.pointer (some ⟨b, o, none⟩)) (some (.int .i64 (k : Int))) none none).run P w = .ok (.slice (some ⟨b, o + k, none⟩) (N - k) (N - k)) w := by
  obtain ⟨i, hi', hz⟩ := Option.map_eq_some_iff.mp hi
  have h1 : k ≤ N := by omega
  have h2 : ¬ N = k := by omega
  simp [Instr.sliceAt, Instr.sureAddr, Instr.sliceBounds, Instr.sliceBound, run_underlying ht, asIntOf, go_sem, sizeOf, typeInfo, hi', hz, h1, h2, Go.WideShapes.add_plain]
theorem run_whole_arr {P : Program} (t e : TypeId) (N : Nat) (ht : P.underlying t = some (.array N e)) (hi : (P.info? e).map (·.size) = some 1) (b o : Nat) (w : World) :
    (Instr.sliceAt t (.pointer (some ⟨b, o, none⟩)) none none none).run P w = .ok (.slice (some ⟨b, o, none⟩) N N) w := by
  obtain ⟨i, hi', _⟩ := Option.map_eq_some_iff.mp hi
  simp [Instr.sliceAt, Instr.sureAddr, Instr.sliceBounds, run_underlying ht, go_sem, sizeOf, typeInfo, hi']
theorem BS.cut {w : World} {B n c k : Nat} {A : Option Addr} {l : List Nat} (h : BS w B A n c l) (hk : k ≤ n) : BS w B (cutA A c k) (n - k) (c - k) (l.drop k) := by
  obtain ⟨h1, h2, h3, h4, h5⟩ := h
  refine ⟨by rw [List.length_drop]; omega, by omega, by omega, fun i => ?_, fun hn => ?_⟩
  · have e : (l.drop k).getD i 0 = l.getD (k + i) 0 := by simp [List.getD]
    rw [e]; exact h4 _
  · obtain ⟨b, o, rfl, hb, hc⟩ := h5 (by omega)
    refine ⟨b, o + k, by unfold cutA; rw [if_neg (by omega)]; simp [Go.WideShapes.add_plain], hb, fun i hi => ?_⟩
    have e : (l.drop k).getD i 0 = l.getD (k + i) 0 := by simp [List.getD]
    rw [e, Nat.add_assoc]
    exact hc _ (by omega)
/-- it lies elsewhere than in block X -/
def Off (n : Nat) (A : Option Addr) (X : Nat) : Prop := 0 < n → ∀ ad, A = some ad → ad.block ≠ X
theorem add_block (a : Addr) (k : Nat) : (a.add k).block = a.block := by unfold Addr.add; split <;> rfl
theorem Off.cut {n n' : Nat} {A : Option Addr} {X : Nat} (h : Off n A X) (c k : Nat) (hn : n' ≤ n := by omega) : Off n' (cutA A c k) X := by
  intro h0
  unfold cutA
  split
  · exact h (by omega)
  · intro ad he
    obtain ⟨a, ha, rfl⟩ := Option.map_eq_some_iff.mp he
    rw [add_block]; exact h (by omega) a ha
theorem BS.only {w w' : World} {n c X : Nat} {A : Option Addr} {l : List Nat} (h : BS w w.heap.size A n c l) (ho : Off n A X) (hg : w.grownBy w' (some X)) : BS w' w'.heap.size A n c l := by
  obtain ⟨h1, h2, h3, h4, h5⟩ := h
  refine ⟨h1, h2, h3, h4, fun hn => ?_⟩
  obtain ⟨b, o, e, hb, hc⟩ := h5 hn
  refine ⟨b, o, e, Nat.lt_of_lt_of_le hb hg.size, fun i hi => ?_⟩
  have hne : b ≠ X := ho hn _ e
  exact (World.cell?_of_block (hg.block b hb (fun e => by injection e with e; exact hne e))).trans (hc i hi)
theorem only_setRow (w : World) (g : Nat) (cs : Array Value) : w.grownBy (w.setRow g cs) (some g) :=
  ⟨rfl, rfl, rfl, by simp [World.setRow], fun i _ hne => setRow_other w g i cs (fun e => hne (by rw [e]))⟩
theorem only_trans {a b c : World} {g : Nat} (h : a.grownBy b (some g)) (k : b.grownBy c (some g)) : a.grownBy c (some g) :=
  ⟨k.os.trans h.os, k.tape.trans h.tape, k.output.trans h.output, Nat.le_trans h.size k.size, fun i hi hne => (k.block i (Nat.lt_of_lt_of_le hi h.size) hne).trans (h.block i hi hne)⟩
theorem below_is_only {a b : World} (h : Below a.heap.size a b) (g : Nat) : a.grownBy b (some g) := ⟨h.os, h.tape, h.output, h.size, fun i hi _ => h.block i hi⟩
/-- bytes are copied into block g; nothing else turns -/
theorem wp_copy_only {P : Program} {w : World} {ops : Array Oper} {rest : List Oper} {o : Oper} {a : Act} {Q : Exit → Act → World → Prop} (hgd : o.guard = none) (d s : Operand) (dT sT : TypeId)
    (ho : o.op = .call { callee := .builtin .copy, args := #[d, s], argTypes := #[dT, sT] }) (elem : TypeId) (hu : P.underlying dT = some (.slice elem)) (hsz : (P.info? elem).map (·.size) = some 1)
    (dp sp : Option Addr) (dLen dCap sLen sCap : Nat) (hd : a.eval d = .slice dp dLen dCap) (hs : a.eval s = .slice sp sLen sCap)
    (g off : Nat) (cur : List Value) (t : TypeId) (hg : w.heap[g]? = some (.cells cur.toArray t (0, 0))) (cs : List Value) (hn : cs.length = Nat.min sLen dLen)
    (hpos : 0 < cs.length → dp = some ⟨g, off, none⟩ ∧ ∃ ad, sp = some ad ∧ ∀ j v, cs[j]? = some v → w.cell? (ad.add j) = some v)
    (hfit : off + cs.length ≤ cur.length) (h1 : ∀ v ∈ cs, v.oneCell' = true)
    (h : ∀ w', Hid (w'.heap[g]? = some (.cells (splice cur off cs).toArray t (0, 0))) → w.grownBy w' (some g) → wpList P ops Q rest (a.put o.dst (goInt cs.length)) w') :
    wpList P ops Q (o :: rest) a w := by
  by_cases h0 : cs.length = 0
  · have e0 : cs = [] := List.eq_nil_of_length_eq_zero h0
    subst e0
    refine wpList_copy_nothing hgd d s dT sT ho elem hu hsz dp sp dLen dCap sLen sCap hd hs (by simpa using hn.symm) ?_
    exact h w (show _ = _ by simpa [splice] using hg) (World.grownBy.refl w _)
  · obtain ⟨hdp, ad, hsp, hsrc⟩ := hpos (by omega)
    subst hdp hsp
    refine wpList_copy_own hgd d s dT sT ho elem hu hsz g off dLen dCap ad sLen sCap hd hs cur.toArray t hg cs hn hsrc (by simpa using hfit) h1 ?_
    exact h _ (show _ = _ by simpa [splice] using setRow_heap w g _ _ t _ hg) (only_setRow w g _)
end Go.Proofs.YtflgcddgocojpaaDoor
