/-
  Joined: SeK, SeN.
-/
import Derived.Test.YthjpaligpojlnaaOwn
import Derived.Test.YthjpaligpojlnaaByt
import Derived.Maps.OwnSet
import Derived.DeepKeys4
import Derived.Test.YthjpaligpojlnaaSeM
import Derived.Test.YthjpaligpojlnaaCls
import Derived.Carry
import Derived.Great.Ranges
namespace Go.Proofs.Ythjpaligpojlnaa
set_option maxRecDepth 100000
section
open Go.RowKit Go
open Go.Maps (Keyed)
set_option linter.unusedVariables false
set_option linter.unusedSimpArgs false
set_option maxRecDepth 100000
/-! ### nonces as keys -/
abbrev TN : TypeId := 42
abbrev TH : TypeId := 87
abbrev TM : TypeId := 79
def nV (e b : Nat) : Value := .agg #[.int .u64 (e : Int), .int .i64 (b : Int)]
def IsN (e b : Nat) : Prop := e < 2 ^ 64 ∧ b < 65536
theorem nV_inj {e b e2 b2 : Nat} (h : nV e b = nV e2 b2) : e = e2 ∧ b = b2 := by
  unfold nV at h
  injection h with h
  have h1 := congrArg (fun a : Array Value => a[0]?) h
  have h2 := congrArg (fun a : Array Value => a[1]?) h
  simp at h1 h2
  exact ⟨by omega, by omega⟩
theorem nk_laid : laidOutB Try.prog = true := by kernel_rfl
theorem nk_row : TN < Try.prog.types.size := of_decide_eq_true (by kernel_rfl)
theorem nk_wide : (match Try.prog.underlying TN with | some (.array _ _) | some (.struct _) => true | _ => false) = true := by rw [Try.underlying42]
theorem nk_law : Keyed Try.prog TN := Keyed.of_law (deep_law_laid nk_laid (m := 2) (by omega) nk_row (by kernel_rfl) nk_wide)
theorem nk_type : Try.prog.keyType TN = true := by kernel_rfl
theorem nk_cells : Try.prog.cellsOf TN = 2 := by kernel_rfl
theorem nk_cell0 : Try.prog.cellsOf 31 = 1 := by kernel_rfl
theorem nk_cell1 : Try.prog.cellsOf 3 = 1 := by kernel_rfl
theorem nk_types : ∃ m, Try.prog.types.size = m + 1 := ⟨_, (Nat.succ_pred_eq_of_pos (Nat.lt_of_le_of_lt (Nat.zero_le _) nk_row)).symm⟩
theorem nk_some {e b : Nat} (h : IsN e b) : ∃ l, keyOf Try.prog TN (nV e b) = some l := by
  obtain ⟨m, hm⟩ := nk_types
  obtain ⟨h1, h2⟩ := h
  have hw1 : (Lit.int .u64 (e : Int)).wf = true := by
    simp [Lit.wf, IntKind.min, IntKind.max, IntKind.signed, IntKind.bits]
    omega
  have hw2 : (Lit.int .i64 (b : Int)).wf = true := by
    simp [Lit.wf, IntKind.min, IntKind.max, IntKind.signed, IntKind.bits]
    omega
  have hf : (nV e b).formed Try.prog TN = true := by
    unfold nV Value.formed
    rw [Try.underlying42]
    simp only [nk_cells]
    rfl
  unfold keyOf
  rw [Try.underlying42]
  simp only [nk_type, hf, Bool.and_self, if_true]
  have hc : (nV e b).cells.toList = [.int .u64 (e : Int), .int .i64 (b : Int)] := rfl
  rw [hc, hm]
  unfold Program.keyLits
  rw [Try.underlying42]
  have k1 : Try.prog.keyLits (m + 1) 31 [.int .u64 (e : Int)] = some [Lit.int .u64 (e : Int)] := by
    unfold Program.keyLits
    rw [Try.underlying31]
    simp only [hw1, and_self, if_true]
  have k2 : Try.prog.keyLits (m + 1) 3 [.int .i64 (b : Int)] = some [Lit.int .i64 (b : Int)] := by
    unfold Program.keyLits
    rw [Try.underlying3]
    simp only [hw2, and_self, if_true]
  simp only [nk_cells, List.length_cons, List.length_nil]
  simp [k1, k2, nk_cell0, nk_cell1, List.mapM_cons]
open Classical in
noncomputable def nl (e b : Nat) : Lit := (keyOf Try.prog TN (nV e b)).getD (.bool false)
theorem nl_key {e b : Nat} (h : IsN e b) : keyOf Try.prog TN (nV e b) = some (nl e b) := by
  obtain ⟨l, hl⟩ := nk_some h
  unfold nl
  rw [hl]; rfl
theorem nl_inj {e b e2 b2 : Nat} (h : IsN e b) (h2 : IsN e2 b2) (hq : nl e b = nl e2 b2) : e = e2 ∧ b = b2 := nV_inj (nk_law.inj (nl_key h) (hq ▸ nl_key h2))
/-! ### a map that reads as a function -/
def RV (v : Value) : Option (DataW Value × List MemPlace) := some (.held v, [])
/-- a sealed block as a value -/
def hV (l : List Nat) : Value := .agg (rowV (bF l) 256)
def z256 : List Nat := List.replicate 256 0
def oV : Option (List Nat) → Value
  | some l => hV l
  | none => hV z256
/-- block bm is a map of at most n entries that has f e b at nonce (e, b) -/
def BN (w : World) (bm n : Nat) (f : Nat → Nat → Option (List Nat)) : Prop :=
  ∃ D : DataW Value, w.ownsMap Try.prog TN RV bm n D ∧ ∀ e b, IsN e b → Maps.has D (nl e b) = (f e b).isSome ∧ D.atKey (nl e b) (.held (hV z256)) = .held (oV (f e b))
theorem bn_zero (w : World) : (zeroValue TH).run Try.prog w = .ok (hV z256) w := by kernel_rfl
theorem BN.lt {w : World} {bm n : Nat} {f : Nat → Nat → Option (List Nat)} (h : BN w bm n f) : bm < w.heap.size := by obtain ⟨D, h1, _⟩ := h; exact h1.lt
theorem BN.new (w : World) : BN (w.alloc (.map #[] 0)) w.heap.size 0 (fun _ _ => none) := ⟨_, World.ownsMap_made w _ _ _, fun e b _ => ⟨rfl, rfl⟩⟩
theorem BN.keep {w w' : World} {bm n : Nat} {f : Nat → Nat → Option (List Nat)} (h : BN w bm n f) (hk : w'.heap[bm]? = w.heap[bm]?) : BN w' bm n f := by
  obtain ⟨D, ⟨es, clock, hb, r⟩, h2⟩ := h
  exact ⟨D, ⟨es, clock, hk.trans hb, r⟩, h2⟩
theorem BN.look {w : World} {bm n : Nat} {f : Nat → Nat → Option (List Nat)} (h : BN w bm n f) {e b : Nat} (hd : IsN e b) :
    (Instr.lookup TM (.map (some bm)) (nV e b) true).run Try.prog w = .ok (.tuple #[oV (f e b), .bool (f e b).isSome]) w := by
  obtain ⟨D, h1, h2⟩ := h
  obtain ⟨v, ps, hr, hv⟩ := h1.look_ok nk_law Try.underlying79 (bn_zero w) (zd := .held (hV z256)) (zp := []) rfl (nl_key hd)
  rw [(h2 e b hd).2] at hv
  rw [(h2 e b hd).1] at hr
  unfold RV at hv
  have h3 := Option.some.inj hv
  injection h3 with h4 _
  injection h4 with h5
  rw [hr, h5]
theorem BN.put {w : World} {bm n : Nat} {f : Nat → Nat → Option (List Nat)} (h : BN w bm n f) (hn : n < 1000000) {e b : Nat} (hd : IsN e b) (l : List Nat) :
    ∃ w', (Instr.mapUpdate TM (.map (some bm)) (nV e b) (hV l)).run Try.prog w = .ok () w' ∧ BN w' bm (n + 1) (fun e2 b2 => if e2 = e ∧ b2 = b then some l else f e2 b2) ∧ w.grownBy w' (some bm) := by
  obtain ⟨D, h1, h2⟩ := h
  obtain ⟨w', hr, h3, h4⟩ := h1.update nk_law Try.underlying79 (by unfold maxLen; omega) (nl_key hd) (val := hV l) (d := .held (hV l)) (ps := []) rfl
  refine ⟨w', hr, ⟨_, h3, fun e2 b2 he => ?_⟩, h4⟩
  by_cases hed : e2 = e ∧ b2 = b
  · obtain ⟨rfl, rfl⟩ := hed
    show _ = (if e2 = e2 ∧ b2 = b2 then some l else f e2 b2).isSome ∧ _ = DataW.held (oV (if e2 = e2 ∧ b2 = b2 then some l else f e2 b2))
    rw [if_pos ⟨rfl, rfl⟩]
    exact ⟨Maps.has_put_same h1.isMap (nk_law.key (nl_key he)) _, Maps.atKey_put_same h1.isMap (nk_law.key (nl_key he)) _ _⟩
  · show _ = (if e2 = e ∧ b2 = b then some l else f e2 b2).isSome ∧ _ = DataW.held (oV (if e2 = e ∧ b2 = b then some l else f e2 b2))
    rw [if_neg hed, Maps.has_put_other (fun q => hed (nl_inj he hd q)), Maps.atKey_put_other (fun q => hed (nl_inj he hd q))]
    exact h2 e2 b2 he
end
section
open Go.RowKit Go
set_option linter.unusedVariables false
set_option linter.unusedSimpArgs false
set_option maxRecDepth 100000
attribute [local irreducible] Gf.inv Gf.tm Gf.pw Gf.spread Gf.sub Gf.boxAt Gf.bk Gf.rm Gf.bit
abbrev TS : TypeId := 81
def slF (N : Nat) (ks : List Nat) (bm te tb : Nat) (u : Bool) (i : Nat) : Value := if i < 753 then cipF N ks i else if i = 753 then .map (some bm) else if i = 754 then .int .u64 (te : Int) else if i = 755 then .int .i64 (tb : Int) else .bool u
def selZ (i : Nat) : Value := if i < 753 then cipZ i else if i = 753 then .map none else if i = 754 then .int .u64 0 else if i = 755 then .int .i64 0 else .bool false
def selPlaces : Array (Nat × Nat) := #[(0, 753), (753, 1), (754, 2), (756, 1)]
def isM : Value → Bool
  | .map none => true
  | _ => false
def isU : Value → Bool
  | .int .u64 n => n == 0
  | _ => false
def isI : Value → Bool
  | .int .i64 n => n == 0
  | _ => false
def isF : Value → Bool
  | .bool b => !b
  | _ => false
def isS (i : Nat) (v : Value) : Bool := if i < 753 then isZ i v else if i = 753 then isM v else if i = 754 then isU v else if i = 755 then isI v else isF v
theorem isS_eq {i : Nat} {v : Value} (h : isS i v = true) : v = selZ i := by
  unfold isS at h
  unfold selZ
  split at h
  · rename_i e; rw [if_pos e]; exact isZ_eq h
  · rename_i e
    rw [if_neg e]
    split at h
    · rename_i e2
      rw [if_pos e2]
      unfold isM at h
      split at h
      · rfl
      · cases h
    · rename_i e2
      rw [if_neg e2]
      split at h
      · rename_i e3
        rw [if_pos e3]
        unfold isU at h
        split at h
        · rw [eq_of_beq h]
        · cases h
      · rename_i e3
        rw [if_neg e3]
        split at h
        · rename_i e4
          rw [if_pos e4]
          unfold isI at h
          split at h
          · rw [eq_of_beq h]
          · cases h
        · rename_i e4
          rw [if_neg e4]
          unfold isF at h
          split at h
          · rename_i b
            cases b
            · rfl
            · cases h
          · cases h
def chkS : Nat → List Value → Bool
  | _, [] => true
  | i, v :: l => isS i v && chkS (i + 1) l
theorem chkS_at : ∀ (l : List Value) (s : Nat), chkS s l = true → ∀ i v, l[i]? = some v → v = selZ (s + i) := by
  intro l
  induction l with
  | nil => intro s _ i v h; cases h
  | cons u l ih =>
    intro s h i v hi
    unfold chkS at h
    rw [Bool.and_eq_true] at h
    cases i with
    | zero => injection hi with hi; subst hi; exact isS_eq h.1
    | succ i => rw [ih (s + 1) h.2 i v hi]; congr 1; omega
def selChk : Option Value → Bool
  | some (.agg cs) => chkS 0 cs.toList && cs.size == 757
  | _ => false
set_option maxRecDepth 1000000 in
theorem sel_chk : selChk ((Try.prog.info? TS).bind (·.zero)) = true := by kernel_rfl
theorem sel_places : ((match Try.prog.underlying TS with | some (.struct fields) => fields.toList.mapM (fun f => (Try.prog.info? f.type).map fun i => (f.offset, i.size)) | _ => none) : Option (List (Nat × Nat))) = some [(0, 753), (753, 1), (754, 2), (756, 1)] := by kernel_rfl
theorem sbuilt_fun (parts : List (Nat × Value)) : Try.prog.built TS parts = Instr.fill (selPlaces[·]?) (rowV selZ 757) parts := by
  have hc := sel_chk
  have hp := sel_places
  unfold Program.built
  generalize Try.prog.info? TS = oi at *
  rw [Try.underlying81] at hp ⊢
  cases oi with
  | none => cases hc
  | some it =>
    simp only [Option.bind_some] at hc
    simp only at hp ⊢
    cases hz : it.zero with
    | none => rw [hz] at hc; cases hc
    | some z =>
      rw [hz] at hc
      cases z with
      | agg cs =>
        unfold selChk at hc
        simp only [Bool.and_eq_true, beq_iff_eq] at hc
        have hcs : cs = rowV selZ 757 := rowV_ext hc.2 fun i hi => by
          have h1 : cs.toList[i]? = some cs[i] := by simp
          have h2 := chkS_at _ 0 hc.1 i _ h1
          rw [Nat.zero_add] at h2
          rw [Array.getElem?_eq_getElem (by omega), h2]
        simp only [hp]
        rw [hcs]
        rfl
      | _ => cases hc
theorem fill_sel (B R : Array Value) (v : Value) (hB : B.size = 753) (hR : R.size = 757) (hv : v.cells = #[v]) :
    ∃ X, Instr.fill (selPlaces[·]?) R [(0, .agg B), (1, v)] = some X ∧ X.size = 757 ∧ ∀ i, i < 757 → X[i]? = if i = 753 then some v else if i < 753 then B[i]? else R[i]? := by
  have hc : (Value.agg B).cells = B := rfl
  unfold Instr.fill
  have p0 : selPlaces[0]? = some (0, 753) := rfl
  have p1 : selPlaces[1]? = some (753, 1) := rfl
  simp only [p0, hc, hB]
  rw [if_neg (by rw [hR]; simp)]
  unfold Instr.fill
  simp only [p1, hv]
  have hs := arr_size 0 B R
  have hs2 := arr_size 753 #[v] (B.zipIdx.foldl (fun cs (p : Value × Nat) => cs.setIfInBounds (0 + p.2) p.1) R)
  rw [hR] at hs
  rw [if_neg (by rw [hs]; simp)]
  unfold Instr.fill
  refine ⟨_, rfl, by rw [hs2, hs], fun i hi => ?_⟩
  rw [fill_arr 753 _ _ i (by rw [hs]; simp), fill_arr 0 B _ i (by rw [hR, hB]; omega), hB]
  by_cases c2 : i = 753
  · rw [if_pos c2, if_pos (by simp; omega), c2]; rfl
  · rw [if_neg (by simp; omega), if_neg c2]
    by_cases c1 : i < 753
    · rw [if_pos (by omega), if_pos c1, Nat.sub_zero]
    · rw [if_neg (by omega), if_neg c1]
theorem built_sel (N : Nat) (ks : List Nat) (bm : Nat) : Try.prog.built TS [(0, .agg (rowV (cipF N ks) 753)), (1, .map (some bm))] = some (rowV (slF N ks bm 0 0 false) 757) := by
  rw [sbuilt_fun]
  obtain ⟨X, e, h1, h2⟩ := fill_sel (rowV (cipF N ks) 753) (rowV selZ 757) (.map (some bm)) (rowV_size _ _) (rowV_size _ _) rfl
  rw [e]
  refine congrArg some (rowV_ext h1 fun i hi => ?_)
  rw [h2 i hi]
  unfold slF
  by_cases c2 : i = 753
  · rw [if_pos c2, if_neg (by omega), if_pos c2]
  · rw [if_neg c2]
    by_cases c1 : i < 753
    · rw [if_pos c1, if_pos c1, rowV_at _ c1]
    · rw [if_neg c1, if_neg c1, rowV_at _ hi]
      unfold selZ
      rw [if_neg c1, if_neg c2, if_neg c2]; rfl
/-! ### a sealer -/
structure SlR (w : World) (g N : Nat) (ks : List Nat) (bm n : Nat) (f : Nat → Nat → Option (List Nat)) (te tb : Nat) (u : Bool) : Prop where
  row : Row w g TS (slF N ks bm te tb u) 757
  map : BN w bm n f
section
variable {w w' : World} {g N : Nat} {ks : List Nat} {bm n te tb : Nat} {f : Nat → Nat → Option (List Nat)} {u : Bool}
theorem SlR.lt (h : SlR w g N ks bm n f te tb u) : g < w.heap.size := Row.lt h.row
theorem SlR.ltm (h : SlR w g N ks bm n f te tb u) : bm < w.heap.size := h.map.lt
theorem SlR.keep (h : SlR w g N ks bm n f te tb u) (h1 : w'.heap[g]? = w.heap[g]?) (h2 : w'.heap[bm]? = w.heap[bm]?) : SlR w' g N ks bm n f te tb u := ⟨h1.trans h.row, h.map.keep h2⟩
theorem SlR.next (h : SlR w g N ks bm n f te tb u) (hb : Below w.heap.size w w') : SlR w' g N ks bm n f te tb u := h.keep (hb.block _ h.lt) (hb.block _ h.ltm)
theorem SlR.cip (h : SlR w g N ks bm n f te tb u) : CipS w g N ks := ⟨TS, _, 757, by omega, fun i hi => by unfold slF; rw [if_pos hi], h.row⟩
theorem SlR.ne (h : SlR w g N ks bm n f te tb u) : g ≠ bm := by
  rintro rfl
  obtain ⟨D, ⟨es, clock, hb, _⟩, _⟩ := h.map
  have := h.row
  unfold Row at this
  rw [hb] at this
  cases this
theorem SlR.cells (h : SlR w g N ks bm n f te tb u) : w.cell? ⟨g, 753, none⟩ = some (.map (some bm)) ∧ w.cell? ⟨g, 754, none⟩ = some (.int .u64 (te : Int)) ∧ w.cell? ⟨g, 755, none⟩ = some (.int .i64 (tb : Int)) ∧ w.cell? ⟨g, 756, none⟩ = some (.bool u) ∧ ∀ i, w.frozen? ⟨g, i, none⟩ = false :=
  ⟨(Row.cell h.row (i := 753) (by omega)).trans rfl, (Row.cell h.row (i := 754) (by omega)).trans rfl, (Row.cell h.row (i := 755) (by omega)).trans rfl, (Row.cell h.row (i := 756) (by omega)).trans rfl, fun i => Row.free h.row i⟩
end
set_option maxHeartbeats 2000000 in
theorem newS_any (g N : Nat) (ks : List Nat) (w : World) (h : CipR w g N ks) :
    Calls Try.prog 18 #[.pointer (some ⟨g, 0, none⟩)] w fun e w' => e = .returned (.pointer (some ⟨w.heap.size + 1, 0, none⟩)) ∧ SlR w' (w.heap.size + 1) N ks w.heap.size 0 (fun _ _ => none) 0 0 false ∧ Below w.heap.size w w' := by
  have hbt := built_sel N ks w.heap.size
  have hi : (Try.prog.info? 78).map (·.size) = some (rowV (cipF N ks) 753).size := by rw [rowV_size]; kernel_rfl
  have hm := BN.new w
  have hsz : (w.alloc (.map #[] 0)).heap.size = w.heap.size + 1 := by simp
  have hal : ((w.alloc (.map #[] 0)).alloc (.cells (rowV (slF N ks w.heap.size 0 0 false) 757) TS)).heap[w.heap.size + 1]? = some (.cells (rowV (slF N ks w.heap.size 0 0 false) 757) TS (0, 0)) := by
    have := heap_alloc_new (w.alloc (.map #[] 0)) (.cells (rowV (slF N ks w.heap.size 0 0 false) 757) TS)
    rwa [hsz] at this
  have HM := Lib.hid (hm.keep (w' := (w.alloc (.map #[] 0)).alloc (.cells (rowV (slF N ks w.heap.size 0 0 false) 757) TS)) (Below.heap_alloc _ _ _ (by rw [hsz]; omega)))
  have HAL := Lib.hid hal
  have HB : Hid (Below w.heap.size w ((w.alloc (.map #[] 0)).alloc (.cells (rowV (slF N ks w.heap.size 0 0 false) 757) TS))) := Lib.hid (((Below.refl _ _).alloc (Nat.le_refl _) _).alloc (by rw [hsz]; omega) _)
  obtain ⟨cx, hcx⟩ : ∃ x, x = rowV (cipF N ks) 753 := ⟨_, rfl⟩
  obtain ⟨ci, hci⟩ : ∃ x, x = rowV (slF N ks w.heap.size 0 0 false) 757 := ⟨_, rfl⟩
  have hcell : w.heap[g]? = some (.cells cx 78 (0, 0)) := by rw [hcx]; exact h
  rw [← hcx] at hbt hi
  rw [← hci] at hbt
  have HROW : Hid (∀ W, W.heap[w.heap.size + 1]? = some (.cells ci TS (0, 0)) → Row W (w.heap.size + 1) TS (slF N ks w.heap.size 0 0 false) 757) := Lib.hid (fun W h => by unfold Row; rw [← hci]; exact h)
  rw [← hci] at HM HAL HB
  have HC := Lib.hid hcell
  have HBT := Lib.hid hbt
  have HI := Lib.hid hi
  clear hbt hi hm hal hcell hcx hci h hsz
  have hmk : (Instr.makeMap TM none).run Try.prog w = .ok (.map (some w.heap.size)) (w.alloc (.map #[] 0)) := rfl
  go_enter Try.func18, Try.ntmps18
  go_wp2_with (first
    | (with_reducible refine wpList_load_row rfl 78 (.tmp 6) rfl _ rfl 78 _ _ _ HC.out Try.underlying78 rfl HI.out ?_)
    | (refine wp_build_eq rfl TS #[(0, .tmp 7), (1, .tmp 8)] rfl ci (by first | exact HBT.out | (simp [Act.eval, Act.put]; exact HBT.out)) ?_)
    | (refine Go.Great.wpList_boxTo rfl TS (.tmp 9) rfl (some 10) rfl (w.heap.size + 1) (by simp) ci rfl ?_))
  go_ret
  exact ⟨rfl, ⟨HROW.out _ HAL.out, HM.out⟩, HB.out⟩
theorem newS_nil (w : World) : Calls Try.prog 18 #[.pointer none] w fun e w' => e = .returned (.pointer none) ∧ w = w' := by
  go_enter Try.func18, Try.ntmps18
  go_wp2
  go_ret
  exact ⟨rfl, rfl⟩
end
end Go.Proofs.Ythjpaligpojlnaa
