/-
  A cipher's cells; a value that is built of an array and a number.
-/
import Derived.Test.YthjpaligpojlnaaAesL
namespace Go.Proofs.Ythjpaligpojlnaa
open Go.RowKit Go
set_option linter.unusedVariables false
attribute [local irreducible] Gf.inv Gf.tm Gf.pw Gf.spread Gf.sub Gf.boxAt Gf.bk Gf.rm Gf.bit
def cipF (N : Nat) (ks : List Nat) (i : Nat) : Value := if i < 512 then (Gf.boxAt 256)[i]?.getD undef else if i = 512 then .int .i64 (N : Int) else u8 (ks.getD (i - 513) 0)
def CipR (w : World) (g N : Nat) (ks : List Nat) : Prop := Row w g 78 (cipF N ks) 753
section
variable {w w' : World} {g N : Nat} {ks : List Nat}
theorem CipR.key (h : CipR w g N ks) {j : Nat} (hj : j < 240) : w.cell? ⟨g, 513 + j, none⟩ = some (.int .u8 ((ks.getD j 0 : Nat) : Int)) := by
  have := Row.cell h (i := 513 + j) (by omega)
  rw [this]
  unfold cipF
  rw [if_neg (by omega), if_neg (by omega), Nat.add_sub_cancel_left]; rfl
theorem CipR.rounds (h : CipR w g N ks) : w.cell? ⟨g, 512, none⟩ = some (.int .i64 (N : Int)) := by
  have := Row.cell h (i := 512) (by omega)
  rw [this]; rfl
theorem CipR.box (h : CipR w g N ks) : BoxC w g := by
  refine ⟨Row.lt h, fun c hc => ⟨?_, ?_⟩⟩
  · rw [Row.cell h (i := c) (by omega)]
    unfold cipF
    rw [if_pos (by omega), box_sub hc]; rfl
  · rw [Row.cell h (i := 256 + c) (by omega)]
    unfold cipF
    rw [if_pos (by omega), box_back hc]; rfl
theorem CipR.cip (h : CipR w g N ks) (hb : ∀ j, ks.getD j 0 < 256) (hN : 1 ≤ N ∧ N ≤ 14) : Cip w g N ks := ⟨h.box, h.rounds, fun j hj => h.key hj, hb, hN⟩
theorem CipR.free (h : CipR w g N ks) (i : Nat) : w.frozen? ⟨g, i, none⟩ = false := Row.free h i
theorem CipR.only {gs : Nat} (h : CipR w g N ks) (hg : w.grownBy w' (some gs)) (hne : g ≠ gs) : CipR w' g N ks := Row.only h hg (fun e => by injection e with e; exact hne e)
theorem CipR.next (h : CipR w g N ks) (hb : Below w.heap.size w w') : CipR w' g N ks := Row.below h hb (Row.lt h)
theorem CipR.lt (h : CipR w g N ks) : g < w.heap.size := Row.lt h
/-- a word more is put in -/
theorem CipR.word {key : List Nat} {n m a b c d : Nat} (h : CipR w g N (Aes.sch Gf.sub key n m)) (hm : m < 60) (h0 : (Aes.sch Gf.sub key n (m + 1)).getD (4 * m + 0) 0 = a) (h1 : (Aes.sch Gf.sub key n (m + 1)).getD (4 * m + 1) 0 = b)
    (h2 : (Aes.sch Gf.sub key n (m + 1)).getD (4 * m + 2) 0 = c) (h3 : (Aes.sch Gf.sub key n (m + 1)).getD (4 * m + 3) 0 = d) :
    CipR ((((w.setCell ⟨g, 513 + m * 4, none⟩ (.int .u8 (a : Int))).setCell ⟨g, 513 + m * 4 + 1, none⟩ (.int .u8 (b : Int))).setCell ⟨g, 513 + m * 4 + 2, none⟩ (.int .u8 (c : Int))).setCell ⟨g, 513 + m * 4 + 3, none⟩ (.int .u8 (d : Int))) g N (Aes.sch Gf.sub key n (m + 1)) := by
  subst h0 h1 h2 h3
  refine Row.congr ((((Row.set_ h (513 + m * 4) _).set_ (513 + m * 4 + 1) _).set_ (513 + m * 4 + 2) _).set_ (513 + m * 4 + 3) _) fun i hi => ?_
  unfold cipF
  by_cases c1 : i < 512
  · rw [if_neg (by omega), if_neg (by omega), if_neg (by omega), if_neg (by omega), if_pos c1, if_pos c1]
  · by_cases c2 : i = 512
    · rw [if_neg (by omega), if_neg (by omega), if_neg (by omega), if_neg (by omega), if_neg c1, if_pos c2, if_neg c1, if_pos c2]
    · obtain ⟨j, rfl⟩ : ∃ j, i = 513 + j := ⟨i - 513, by omega⟩
      simp only [if_neg c1, if_neg c2, Nat.add_sub_cancel_left]
      by_cases c3 : j < 4 * m
      · rw [if_neg (by omega), if_neg (by omega), if_neg (by omega), if_neg (by omega), Aes.sch_old c3 (m + 1) (by omega)]
      · by_cases c4 : j < 4 * m + 4
        · rcases (by omega : j = 4 * m + 0 ∨ j = 4 * m + 1 ∨ j = 4 * m + 2 ∨ j = 4 * m + 3) with rfl | rfl | rfl | rfl
          · rw [if_neg (by omega), if_neg (by omega), if_neg (by omega), if_pos (by omega)]; rfl
          · rw [if_neg (by omega), if_neg (by omega), if_pos (by omega)]; rfl
          · rw [if_neg (by omega), if_pos (by omega)]; rfl
          · rw [if_pos (by omega)]; rfl
        · have l1 := Aes.sch_len (sb := Gf.sub) (key := key) (n := n) m
          have l2 := Aes.sch_len (sb := Gf.sub) (key := key) (n := n) (m + 1)
          rw [if_neg (by omega), if_neg (by omega), if_neg (by omega), if_neg (by omega), List.getD_eq_getElem?_getD, List.getD_eq_getElem?_getD, List.getElem?_eq_none (by omega), List.getElem?_eq_none (by omega)]
end
/-! what is built -/
theorem fill_fold (off : Nat) : ∀ (l : List Value) (s : Nat) (cs : Array Value) (i : Nat), off + s + l.length ≤ cs.size →
    (((l.zipIdx s).foldl (fun cs (p : Value × Nat) => cs.setIfInBounds (off + p.2) p.1) cs)[i]? = if off + s ≤ i ∧ i < off + s + l.length then l[i - (off + s)]? else cs[i]?) := by
  intro l
  induction l with
  | nil => intro s cs i _; rw [if_neg (by simp only [List.length_nil]; omega)]; rfl
  | cons v l ih =>
    intro s cs i h
    rw [List.zipIdx_cons, List.foldl_cons, ih (s + 1) _ i (by rw [Array.size_setIfInBounds]; simp only [List.length_cons] at h; omega)]
    by_cases c : i = off + s
    · subst c
      rw [if_neg (by omega), if_pos (by simp only [List.length_cons]; omega), Nat.sub_self, Array.getElem?_setIfInBounds_self_of_lt (by simp only [List.length_cons] at h; omega)]
      rfl
    · rw [Array.getElem?_setIfInBounds_ne (by omega)]
      by_cases c2 : off + s ≤ i ∧ i < off + s + (l.length + 1)
      · rw [if_pos (by omega), if_pos (by simp only [List.length_cons]; omega), show i - (off + s) = (i - (off + (s + 1))) + 1 by omega]
        rfl
      · rw [if_neg (by omega), if_neg (by simp only [List.length_cons]; omega)]
theorem wp_build_eq {P : Program} {ops : Array Oper} {rest : List Oper} {o : Oper} {a : Act} {w : World} {Q : Exit → Act → World → Prop} (hg : o.guard = none) (t : TypeId) (parts : Array (Nat × Operand)) (ho : o.op = .build t parts)
    (cs : Array Value) (hf : P.built t (parts.map fun (i, x) => (i, a.eval x)).toList = some cs) (h : wpList P ops Q rest (a.put o.dst (.agg cs)) w) : wpList P ops Q (o :: rest) a w := by
  refine wpList_build hg t parts ho (by rw [hf]; rfl) ?_
  rw [hf]
  exact h
theorem fill_arr (off : Nat) (B cs : Array Value) (i : Nat) (h : off + B.size ≤ cs.size) :
    (B.zipIdx.foldl (fun cs (p : Value × Nat) => cs.setIfInBounds (off + p.2) p.1) cs)[i]? = if off ≤ i ∧ i < off + B.size then B[i - off]? else cs[i]? := by
  have e : B.zipIdx.foldl (fun cs (p : Value × Nat) => cs.setIfInBounds (off + p.2) p.1) cs = (B.toList.zipIdx 0).foldl (fun cs (p : Value × Nat) => cs.setIfInBounds (off + p.2) p.1) cs := by
    rw [← Array.foldl_toList, Array.toList_zipIdx]
  rw [e, fill_fold off B.toList 0 cs i (by simpa using h)]
  simp
def cipZ (i : Nat) : Value := if i = 512 then .int .i64 0 else .int .u8 0
def cipPlaces : Array (Nat × Nat) := #[(0, 512), (512, 1), (513, 240)]
def isZ (i : Nat) (v : Value) : Bool := if i = 512 then (match v with | .int .i64 n => n == 0 | _ => false) else (match v with | .int .u8 n => n == 0 | _ => false)
theorem isZ_eq {i : Nat} {v : Value} (h : isZ i v = true) : v = cipZ i := by
  unfold isZ at h
  unfold cipZ
  split at h
  · rename_i e
    rw [if_pos e]
    split at h
    · rw [eq_of_beq h]
    · cases h
  · rename_i e
    rw [if_neg e]
    split at h
    · rw [eq_of_beq h]
    · cases h
def chkZ : Nat → List Value → Bool
  | _, [] => true
  | i, v :: l => isZ i v && chkZ (i + 1) l
theorem chkZ_at : ∀ (l : List Value) (s : Nat), chkZ s l = true → ∀ i v, l[i]? = some v → v = cipZ (s + i) := by
  intro l
  induction l with
  | nil => intro s _ i v h; cases h
  | cons u l ih =>
    intro s h i v hi
    unfold chkZ at h
    rw [Bool.and_eq_true] at h
    cases i with
    | zero => injection hi with hi; subst hi; exact isZ_eq h.1
    | succ i => rw [ih (s + 1) h.2 i v hi]; congr 1; omega
def cipChk : Option Value → Bool
  | some (.agg cs) => chkZ 0 cs.toList && cs.size == 753
  | _ => false
set_option maxRecDepth 1000000 in
theorem cip_chk : cipChk ((Try.prog.info? 78).bind (·.zero)) = true := by kernel_rfl
theorem cip_places : ((match Try.prog.underlying 78 with | some (.struct fields) => fields.toList.mapM (fun f => (Try.prog.info? f.type).map fun i => (f.offset, i.size)) | _ => none) : Option (List (Nat × Nat))) = some [(0, 512), (512, 1), (513, 240)] := by kernel_rfl
set_option maxRecDepth 100000 in
theorem built_fun (parts : List (Nat × Value)) : Try.prog.built 78 parts = Instr.fill (cipPlaces[·]?) (rowV cipZ 753) parts := by
  have hc := cip_chk
  have hp := cip_places
  unfold Program.built
  generalize Try.prog.info? 78 = oi at *
  rw [Try.underlying78] at hp ⊢
  cases oi with
  | none => cases hc
  | some it =>
    simp only [Option.bind_some] at hc
    simp only at hp ⊢
    cases hz : it.zero with
    | none => rw [hz] at hc; cases hc
    | some z =>
      rw [hz] at hc
      cases z with
      | agg cs =>
        unfold cipChk at hc
        simp only [Bool.and_eq_true, beq_iff_eq] at hc
        have hcs : cs = rowV cipZ 753 := rowV_ext hc.2 fun i hi => by
          have h1 : cs.toList[i]? = some cs[i] := by simp
          have h2 := chkZ_at _ 0 hc.1 i _ h1
          rw [Nat.zero_add] at h2
          rw [Array.getElem?_eq_getElem (by omega), h2]
        simp only [hp]
        rw [hcs]
        rfl
      | _ => cases hc
theorem fold_size (off : Nat) : ∀ (l : List (Value × Nat)) (cs : Array Value), (l.foldl (fun cs (p : Value × Nat) => cs.setIfInBounds (off + p.2) p.1) cs).size = cs.size := by
  intro l
  induction l with
  | nil => intro cs; rfl
  | cons p l ih => intro cs; rw [List.foldl_cons, ih, Array.size_setIfInBounds]
theorem arr_size (off : Nat) (B cs : Array Value) : (B.zipIdx.foldl (fun cs (p : Value × Nat) => cs.setIfInBounds (off + p.2) p.1) cs).size = cs.size := by
  rw [← Array.foldl_toList, fold_size]
theorem boxAt_size' : (Gf.boxAt 256).size = 512 := boxAt_size 256
theorem fill_two (B R : Array Value) (v : Value) (hB : B.size = 512) (hR : R.size = 753) (hv : v.cells = #[v]) :
    ∃ X, Instr.fill (cipPlaces[·]?) R [(0, .agg B), (1, v)] = some X ∧ X.size = 753 ∧ ∀ i, i < 753 → X[i]? = if i = 512 then some v else if i < 512 then B[i]? else R[i]? := by
  have hc : (Value.agg B).cells = B := rfl
  unfold Instr.fill
  have p0 : cipPlaces[0]? = some (0, 512) := rfl
  have p1 : cipPlaces[1]? = some (512, 1) := rfl
  simp only [p0, hc, hB]
  rw [if_neg (by rw [hR]; simp)]
  unfold Instr.fill
  simp only [p1, hv]
  have hs := arr_size 0 B R
  have hs2 := arr_size 512 #[v] (B.zipIdx.foldl (fun cs (p : Value × Nat) => cs.setIfInBounds (0 + p.2) p.1) R)
  rw [hR] at hs
  rw [if_neg (by rw [hs]; simp)]
  unfold Instr.fill
  refine ⟨_, rfl, by rw [hs2, hs], fun i hi => ?_⟩
  rw [fill_arr 512 _ _ i (by rw [hs]; simp), fill_arr 0 B _ i (by rw [hR, hB]; omega), hB]
  by_cases c2 : i = 512
  · rw [if_pos c2, if_pos (by simp; omega), c2]; rfl
  · rw [if_neg (by simp; omega), if_neg c2]
    by_cases c1 : i < 512
    · rw [if_pos (by omega), if_pos c1, Nat.sub_zero]
    · rw [if_neg (by omega), if_neg c1]
theorem built_cip (N : Nat) : Try.prog.built 78 [(0, .agg (Gf.boxAt 256)), (1, .int .i64 (N : Int))] = some (rowV (cipF N []) 753) := by
  rw [built_fun]
  obtain ⟨X, e, h1, h2⟩ := fill_two (Gf.boxAt 256) (rowV cipZ 753) (.int .i64 (N : Int)) (boxAt_size 256) (rowV_size _ _) rfl
  rw [e]
  refine congrArg some (rowV_ext h1 fun i hi => ?_)
  rw [h2 i hi]
  unfold cipF
  have hB := boxAt_size 256
  by_cases c1 : i < 512
  · rw [if_neg (by omega), if_pos c1, if_pos c1, Array.getElem?_eq_getElem (by omega), Option.getD_some]
  · by_cases c2 : i = 512
    · rw [if_pos c2, if_neg c1, if_pos c2]
    · rw [if_neg c2, if_neg c1, if_neg c1, if_neg c2, rowV_at _ hi]
      unfold cipZ
      have hnil : ([] : List Nat).getD (i - 513) 0 = 0 := by simp
      rw [if_neg c2, hnil]; rfl
end Go.Proofs.Ythjpaligpojlnaa
