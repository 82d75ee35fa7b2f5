/-
  NvmTorn: words of its walk.
-/
import Derived.Test.YthigknolpdohoaaNvBD
import Derived.Test.YthigknolpdohoaaNvAA
import Derived.BigQuiet
import Derived.Test.YthigknolpdohoaaHeldG
namespace Go.Proofs.Ythigknolpdohoaa
open Go.RowKit Go
set_option linter.unusedVariables false
set_option linter.unusedSimpArgs false
set_option maxRecDepth 100000
/-- a row of its own, told as bytes and what lies behind -/
theorem own_row {W : World} {B : Nat} {v : Value} {l : List Nat} (ho : Own W B v l) (h0 : 0 < l.length) : ∃ q c r, v = .slice (some ⟨q, 0, none⟩) l.length c ∧ B ≤ q ∧ W.heap[q]? = some (rowO l r) ∧ l.length ≤ c ∧ c ≤ 9223372036854775807 := by
  obtain ⟨hl, hr⟩ := ho
  rcases hr with ⟨e, e0⟩ | ⟨g, cap, cur, e, hg, hh, hn, hm, hs, ht⟩
  · omega
  · refine ⟨g, cap, cur.toList.drop l.length, e, hg, ?_, hn, by unfold maxLen at hm; omega⟩
    rw [hh]
    unfold rowO
    congr 2
    rw [← ht, Nat.mul_one]
    simp
theorem cut_bs {w : World} {B n c : Nat} {A : Option Addr} {l : List Nat} (h : BS w B A n c l) : BS w B A (min n 150) c (l.take 150) := by
  rcases Nat.le_total n 150 with h1 | h1
  · rw [Nat.min_eq_left h1, List.take_of_length_le (by rw [h.len]; exact h1)]; exact h
  · rw [Nat.min_eq_right h1]; exact h.take h1
theorem info_op8 : (Try.prog.info? 30).map (·.size) = some 5 := by kernel_rfl
theorem and127 (k : Int) : ∃ j : Nat, j < 128 ∧ bits .and .i64 k 127 = (j : Int) := by
  have h1 : (BitVec.ofInt 64 k).toNat &&& 127 ≤ 127 := Nat.and_le_right
  refine ⟨(BitVec.ofInt 64 k).toNat &&& 127, by omega, ?_⟩
  show IntKind.i64.wrap ((BitVec.ofInt 64 k &&& BitVec.ofInt 64 127).toNat : Int) = _
  rw [BitVec.toNat_and]
  have h2 : (BitVec.ofInt 64 127).toNat = 127 := by decide
  rw [h2]
  exact IntWalk.i64_in _ ⟨by omega, by omega⟩
/-- behind some calls -/
def TnR (w : World) (g b n1 q1 q2 : Nat) (o1 : Obj) (old : List Nat) (iv : Value) (W : World) : Prop :=
  ∃ (i k : Nat) (ws : List Wd) (now : List Nat) (r : List Value), iv = .int .i64 (i : Int) ∧ i ≤ n1 ∧ i ≤ 10 ∧ k ≤ 3 + i ∧ AwS w W [(q2, rowO now r), (q1, o1)] g b false k ws ∧ lastsQ ws = old ∧ nowsL ws = now
/-- the same with fewer blocks apart -/
theorem AwS.sub {w W : World} {g b k : Nat} {off : Bool} {ws : List Wd} {z z' : List (Nat × Obj)} (h : AwS w W z g b off k ws) (hs : ∀ x ∈ z', x ∈ z) : AwS w W z' g b off k ws := by
  obtain ⟨av, al, h1, h2, h3, h4, h5, h6⟩ := h
  exact ⟨av, al, h1, h2, h3, h4, h5, fun q o e => h6 q o (hs _ e)⟩
theorem AwS.swap {w W : World} {g b k : Nat} {off : Bool} {ws : List Wd} {z : List (Nat × Obj)} {x y : Nat × Obj} (h : AwS w W (x :: y :: z) g b off k ws) : AwS w W (y :: x :: z) g b off k ws :=
  h.sub fun u hu => by
    rcases List.mem_cons.1 hu with rfl | hu
    · exact List.mem_cons_of_mem _ (List.mem_cons_self ..)
    · rcases List.mem_cons.1 hu with rfl | hu
      · exact List.mem_cons_self ..
      · exact List.mem_cons_of_mem _ (List.mem_cons_of_mem _ hu)
theorem AwS.drop2 {w W : World} {g b k : Nat} {off : Bool} {ws : List Wd} {z : List (Nat × Obj)} {x y : Nat × Obj} (h : AwS w W (x :: y :: z) g b off k ws) : AwS w W (x :: z) g b off k ws :=
  h.sub fun u hu => by
    rcases List.mem_cons.1 hu with rfl | hu
    · exact List.mem_cons_self ..
    · exact List.mem_cons_of_mem _ (List.mem_cons_of_mem _ hu)
theorem splice_apq {α : Type} (L R : List α) (p : Nat) (cs : List α) (h : p + cs.length ≤ L.length) : splice (L ++ R) p cs = splice L p cs ++ R := by
  unfold splice
  rw [List.take_append_of_le_length (by omega), List.drop_append_of_le_length (by omega)]
  simp
theorem row_spl (now : List Nat) (r : List Value) (p : Nat) (l : List Nat) (h : p + l.length ≤ now.length) : splice (bvals now ++ r) p (bvals l) = bvals (splB now p l) ++ r := by
  rw [splice_apq _ _ _ _ (by rw [bvals_len, bvals_len]; exact h), bvals_spl]
/-- copy into a row of its own, as one step of a region that draws: only that row turns -/
theorem step_copy_only {P : Program} {ops : Array Oper} {o : Oper} {a : Act} {w : World} {K : Act → World → Prop} {Q : Exit → Act → World → Prop} {E : Prop} (hgd : o.guard = none) (d s : Operand) (dT sT : TypeId)
    (ho : o.op = .call { callee := .builtin .copy, args := #[d, s], argTypes := #[dT, sT] }) (elem : TypeId) (hu : P.underlying dT = some (.slice elem)) (hsz : (P.info? elem).map (·.size) = some 1)
    (dp sp : Option Addr) (dLen dCap sLen sCap : Nat) (hd : a.eval d = .slice dp dLen dCap) (hs : a.eval s = .slice sp sLen sCap)
    (g off : Nat) (cur : List Value) (t : TypeId) (hg : w.heap[g]? = some (.cells cur.toArray t (0, 0))) (cs : List Value) (hn : cs.length = Nat.min sLen dLen)
    (hpos : 0 < cs.length → dp = some ⟨g, off, none⟩ ∧ ∃ ad, sp = some ad ∧ ∀ j v, cs[j]? = some v → w.cell? (ad.add j) = some v)
    (hfit : off + cs.length ≤ cur.length) (h1 : ∀ v ∈ cs, v.oneCell' = true)
    (h : ∀ w', Hid (w'.heap[g]? = some (.cells (splice cur off cs).toArray t (0, 0))) → w.grownBy w' (some g) → K (a.put o.dst (goInt cs.length)) w') :
    if Region.wanted o (yielded ops a.tmps) = true then Oper.wp P o a w K Q else E := by
  have hw : Region.wanted o (yielded ops a.tmps) = true := by simp [Region.wanted, hgd]
  rw [if_pos hw]
  by_cases h0 : cs.length = 0
  · obtain rfl : cs = [] := List.eq_nil_of_length_eq_zero h0
    have hrun := run_copy_none (P := P) w dT sT o.type elem dp sp dLen dCap sLen sCap hu hsz (by simpa using hn.symm)
    unfold Oper.wp
    simp [execOp, ho, resolve, invoke, builtin, hd, hs, hrun, Result.andThen]
    exact h w (show _ = _ by simpa [splice] using hg) (World.grownBy.refl w _)
  · obtain ⟨rfl, ad, rfl, hsrc⟩ := hpos (by omega)
    have hrun := run_copy_row (P := P) w dT sT o.type elem g off dLen dCap ad sLen sCap cur.toArray t cs hu hsz hg hn hsrc (by simpa using hfit) h1
    unfold Oper.wp
    simp [execOp, ho, resolve, invoke, builtin, hd, hs, hrun, Result.andThen]
    exact h _ (show _ = _ by simpa [splice] using setRow_heap w g _ _ t _ hg) (only_setRow w g _)
theorem run_part8 (q c a a2 : Nat) (ha : a2 = a + 8) (ha2 : a2 ≤ 128) (hc : 128 ≤ c) (W : World) :
    (Instr.slice 28 (.slice (some ⟨q, 0, none⟩) 128 c) (some (.int .i64 (a : Int))) (some (.int .i64 (a2 : Int))) none).run Try.prog W = .ok (.slice (some ⟨q, a, none⟩) 8 (c - a)) W := by
  obtain ⟨i, hi', hz⟩ := Option.map_eq_some_iff.mp (show (Try.prog.info? 5).map (·.size) = some 1 by kernel_rfl)
  have h1 : ¬ c = a := by omega
  have h2 : a ≤ a2 := by omega
  have h3 : a2 ≤ c := by omega
  have h4 : a2 - a = 8 := by omega
  simp [Instr.slice, Instr.sliceBounds, Instr.sliceBound, run_underlying Try.underlying28, asIntOf, go_sem, sizeOf, typeInfo, hi', hz, h1, h2, h3, h4, Go.WideShapes.add_plain]
theorem run_from8 (q c p r : Nat) (hp : p + r = 128) (hr : 0 < r) (hc : 128 ≤ c) (W : World) :
    (Instr.slice 28 (.slice (some ⟨q, 0, none⟩) 128 c) (some (.int .i64 (p : Int))) none none).run Try.prog W = .ok (.slice (some ⟨q, p, none⟩) r (c - p)) W := by
  have h := run_cut 28 5 Try.underlying28 (show (Try.prog.info? 5).map (·.size) = some 1 by kernel_rfl) (some ⟨q, 0, none⟩) 128 c p (by omega) W
  have e : cutA (some ⟨q, 0, none⟩) c p = some ⟨q, p, none⟩ := by
    unfold cutA
    rw [if_neg (by omega)]
    simp [Go.WideShapes.add_plain]
  rw [e, show 128 - p = r by omega] at h
  exact h
theorem bs_all {w : World} {B n c : Nat} {A : Option Addr} {l : List Nat} (h : BS w B A n c l) (h0 : 0 < n) : ∃ ad, A = some ad ∧ ∀ j v, (bvals l)[j]? = some v → w.cell? (ad.add j) = some v := by
  have := bs_reads h (Nat.le_refl n) h0
  rwa [List.take_of_length_le (by rw [h.len]; exact Nat.le_refl _)] at this
theorem nows_b {ws : List Wd} (h : OkM ws) : ∀ v ∈ nowsL ws, v < 256 := fun v hv => by
  unfold nowsL at hv
  obtain ⟨x, hx, hv⟩ := List.mem_flatMap.1 hv
  exact (h x hx).nb _ hv
/-- on the way through the words -/
def TnL (w w1 : World) (iv : Value) (W : World) : Prop := ∃ j : Nat, iv = .int .i64 ((8 * j : Nat) : Int) ∧ j ≤ 16 ∧ Below w.heap.size w W ∧ Below w1.heap.size w1 W
theorem below_drewN {B : Nat} {w W : World} (h : Below B w W) (n : Nat) : Below B w (W.drewN n) := ⟨h.os, h.tape, h.output, h.size, h.block⟩
theorem bs_on {w W : World} {n c : Nat} {A : Option Addr} {l : List Nat} (h : BS w w.heap.size A n c l) (hb : Below w.heap.size w W) : BS W W.heap.size A n c l := (h.below hb).more hb.size
/-- a part of eight bytes, as a string -/
theorem conv_part8 {W : World} {q c a : Nat} {l : List Nat} (h : BS W W.heap.size (some ⟨q, 0, none⟩) 128 c l) (ha : a + 8 ≤ 128) :
    (convert 28 9 (.slice (some ⟨q, a, none⟩) 8 (c - a))).run Try.prog W = .ok (.string (str ((l.drop a).take 8))) W := by
  have hc := h.cap.1
  have h2 := (h.cut (k := a) (by omega)).take (k := 8) (by omega)
  have e : cutA (some ⟨q, 0, none⟩) c a = some ⟨q, a, none⟩ := by
    unfold cutA
    rw [if_neg (by omega)]
    simp [Go.WideShapes.add_plain]
  rw [e] at h2
  exact h2.conv _ 5 _ Try.underlying28 Try.underlying5 Try.underlying9
end Go.Proofs.Ythigknolpdohoaa
