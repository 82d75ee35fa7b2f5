/-
  Package super: SuperEpochs' walk.
-/
import Derived.Test.YtbfbcjfeicecmaaSupP
import Derived.Deep.DeepCutAuto
import Derived.Deep.LoopGhost
import Derived.BigRegion
import Derived.Laws.CopyOwn
import Derived.OpenShut
import Derived.ChangeSlices
namespace Go.Proofs.Ytbfbcjfeicecmaa
open Go.RowKit Go
set_option linter.unusedVariables false
set_option linter.unusedSimpArgs false
/-- numbers that came in -/
def US (w : World) (A : Option Addr) (n c : Nat) (l : List Nat) : Prop :=
  l.length = n ∧ n ≤ c ∧ c ≤ 9223372036854775807 ∧ (∀ i, l.getD i 0 < 2 ^ 64) ∧ (0 < n → ∃ b o, A = some ⟨b, o, none⟩ ∧ b < w.heap.size ∧ ∀ i, i < n → w.cell? ⟨b, o + i, none⟩ = some (.int .u64 ((l.getD i 0 : Nat) : Int)))
theorem US.below {w w' : World} {A : Option Addr} {n c : Nat} {l : List Nat} (h : US w A n c l) (hb : Below w.heap.size w w') : US w' A n c l :=
  ⟨h.1, h.2.1, h.2.2.1, h.2.2.2.1, fun hn => by
    obtain ⟨b, o, e, hlt, hc⟩ := h.2.2.2.2 hn
    exact ⟨b, o, e, Nat.lt_of_lt_of_le hlt hb.size, fun i hi => (hb.cell (p := ⟨b, o + i, none⟩) hlt).trans (hc i hi)⟩⟩
def uvals (l : List Nat) : List Value := l.map u64v
theorem uvals_len (l : List Nat) : (uvals l).length = l.length := by simp [uvals]
theorem uvals_at {l : List Nat} {j : Nat} (h : j < l.length) : (uvals l)[j]? = some (.int .u64 ((l.getD j 0 : Nat) : Int)) := by
  simp [uvals, u64v, List.getElem?_map, List.getElem?_eq_getElem h, List.getD]
theorem uvals_one (l : List Nat) : ∀ v ∈ uvals l, v.oneCell' = true := by
  intro v hv
  obtain ⟨x, _, rfl⟩ := List.mem_map.mp hv
  rfl
/-- noughts, of which the first ones are put over -/
theorem copy_ur {w : World} {g se m : Nat} {z : List Nat} (hm : z.length = m) (hms : m ≤ se) (h : w.heap[g]? = some (.cells (splice (rowV (fun _ => u64v 0) se).toList 0 (uvals z)).toArray 41 (0, 0))) :
    UR w g 0 (z ++ List.replicate (se - m) 0) := by
  have hul : (uvals z).length = m := by rw [uvals_len, hm]
  have hrl : (rowV (fun _ => u64v 0) se).toList.length = se := by simp [rowV_size]
  refine ⟨_, h, fun i hi => ?_⟩
  rw [List.length_append, List.length_replicate, hm] at hi
  simp only [splice, List.take_zero, List.nil_append, Nat.zero_add, List.getElem?_toArray]
  by_cases hlt : i < m
  · rw [List.getElem?_append_left (by omega), uvals_at (by omega)]
    simp [List.getD, List.getElem?_append_left (show i < z.length by omega)]
  · rw [List.getElem?_append_right (by omega), hul, List.getElem?_drop]
    have e1 : (z ++ List.replicate (se - m) 0).getD i 0 = 0 := by
      rw [List.getD_eq_getElem?_getD, List.getElem?_append_right (by omega), List.getElem?_replicate]
      split <;> rfl
    rw [e1, show m + (i - m) = i by omega]
    have := rowV_at (fun _ => u64v 0) (show i < se by omega)
    simpa [u64v] using this
theorem app64 {z : List Nat} (h : ∀ i, z.getD i 0 < 2 ^ 64) (k i : Nat) : (z ++ List.replicate k 0).getD i 0 < 2 ^ 64 := by
  rw [List.getD_eq_getElem?_getD]
  by_cases hi : i < z.length
  · rw [List.getElem?_append_left hi, ← List.getD_eq_getElem?_getD]; exact h i
  · rw [List.getElem?_append_right (by omega), List.getElem?_replicate]; split <;> decide
theorem take64 {z : List Nat} (h : ∀ i, z.getD i 0 < 2 ^ 64) (k i : Nat) : (z.take k).getD i 0 < 2 ^ 64 := by
  by_cases hi : i < k
  · have : (z.take k).getD i 0 = z.getD i 0 := by simp [List.getD, List.getElem?_take_of_lt hi]
    rw [this]; exact h i
  · have : (z.take k)[i]? = none := by rw [List.getElem?_eq_none]; rw [List.length_take]; omega
    rw [List.getD_eq_getElem?_getD, this]; decide
set_option maxHeartbeats 1000000 in
theorem superEpochs_no (p t : Int) (h : ¬ Geo.May p t) (v : Value) (k : Int) (w : World) :
    Calls Try.prog 5 #[.agg #[.int .i64 p, .int .i64 t], v, .int .i64 k] w fun e w' => e = .returned (.bool true) ∧ Below w.heap.size w w' := by
  have hb : Below w.heap.size w (w.alloc (.cells #[.int .i64 p, .int .i64 t] 23)) := (Below.refl _ _).alloc (Nat.le_refl _) _
  have ht := Two.new w 23 p t
  have HB := Lib.hid hb
  have HT := Lib.hid ht
  have HM := Lib.hid h
  have HI : Hid ((Try.prog.info? 23).map (·.size) = some (#[Value.int .i64 p, Value.int .i64 t] : Array Value).size) := Lib.hid (info_geo2 p t)
  clear hb ht h
  go_enter Try.func5, Try.ntmps5
  go_wp2_with fail
  generalize w.alloc (.cells #[.int .i64 p, .int .i64 t] 23) = W0 at *
  refine (rmay_no p t HM.out _).mono ?_
  rintro e w1 ⟨rfl, hb1⟩
  have HB1 := Lib.hid (HB.out.trans (hb1.mono HB.out.size))
  have HT1 := Lib.hid (HT.out.after hb1)
  have c0 := HT1.out.fst
  have c1 := HT1.out.snd
  clear hb1
  go_wp2_with fail
  refine (block_geo p t k v HM.out _).mono ?_
  rintro e w2 ⟨rfl, hb2⟩
  have HB2 := Lib.hid (HB1.out.trans (hb2.mono HB1.out.size))
  have HT2 := Lib.hid (HT1.out.after hb2)
  clear hb2 c0 c1
  have c0 := HT2.out.fst
  have c1 := HT2.out.snd
  go_wp2_with fail
  refine (epochs_geo p t _ HM.out _).mono ?_
  rintro e w3 ⟨rfl, hb3⟩
  have HB3 := Lib.hid (HB2.out.trans (hb3.mono HB2.out.size))
  clear hb3 c0 c1
  go_wp2_with fail
  refine (awake13_any _).mono ?_
  rintro e w4 ⟨rfl, hb4⟩
  have HB4 := Lib.hid (HB3.out.trans (hb4.mono HB3.out.size))
  clear hb4
  go_wp2
  go_ret
  exact ⟨rfl, HB4.out⟩
def StopQ (p : Prop) : Prop := p
theorem stop_copy {P : Program} {w : World} {ops : Array Oper} {rest : List Oper} {a : Act} {Q : Exit → Act → World → Prop} (d s : Operand) (t : TypeId) (o : Oper) (ho : o.op = .call { callee := .builtin .copy, args := #[d, s], argTypes := #[t, t] })
    (h : StopQ (wpList P ops Q (o :: rest) a w)) : wpList P ops Q (o :: rest) a w := h
def CutQ (W : World) (b : Value) (wx : World) : Prop := b = .bool false ∧ After W wx
def FewQ (W : World) (b : Value) (wx : World) : Prop := b = .int .i64 1 ∧ After W wx
/-- the first blocks are made -/
def SeR (w1 : World) (g ee gk : Nat) (L : List Nat) (bv iv : Value) (wr : World) : Prop :=
  ∃ (j : Nat), iv = .int .i64 ((j : Int) - 1) ∧ j + gk = ee + 2 ∧ BkO wr w1.heap.size bv ((List.range (min (j - 1) ee)).map (epL L)) ∧ After w1 wr ∧ UR wr g 0 L
set_option maxRecDepth 100000 in
set_option maxHeartbeats 4000000 in
theorem superEpochs_yes (p t : Nat) (h : Geo.May p t) (A4 : Option Addr) (n4 c4 : Nat) (l4 : List Nat) (k0 : Int) (w : World) (hs4 : US w A4 n4 c4 l4) :
    Calls Try.prog 5 #[.agg #[.int .i64 (p : Int), .int .i64 (t : Int)], .slice A4 n4 c4, .int .i64 k0] w fun e w' => e = .returned (.bool true) ∧ Below w.heap.size w w' := by
  have hp : p ≤ 64 := by unfold Geo.May at h; omega
  have ht24 : t ≤ 24 := by unfold Geo.May at h; omega
  have hb : Below w.heap.size w (w.alloc (.cells #[.int .i64 (p : Int), .int .i64 (t : Int)] 23)) := (Below.refl _ _).alloc (Nat.le_refl _) _
  have ht := Two.new w 23 (p : Int) (t : Int)
  have HB := Lib.hid hb
  have HT := Lib.hid ht
  have HM := Lib.hid h
  have HI : Hid ((Try.prog.info? 23).map (·.size) = some (#[Value.int .i64 (p : Int), Value.int .i64 (t : Int)] : Array Value).size) := Lib.hid (info_geo2 p t)
  have HRE := Lib.hid (fun W => repochs p t hp W)
  have HRS := Lib.hid (fun W => rsealed p t hp W)
  have HS4 := Lib.hid hs4
  have h4c := hs4.2.1
  have h4d := hs4.2.2.1
  have hee : Geo.ep p ≤ 3 := by unfold Geo.ep Geo.se Geo.mp; omega
  have hee1 : 1 ≤ Geo.ep p := by unfold Geo.ep Geo.se Geo.mp; omega
  have hse : Geo.se p ≤ 32 * Geo.ep p := by unfold Geo.ep; omega
  have hse9 : 2 ≤ Geo.se p := by
    unfold Geo.May at h
    unfold Geo.se; omega
  have HMK := Lib.hid (fun W : World => make_u64 (Geo.se p) (by omega) W)
  have HEP := Lib.hid (fun b o c Ls W (hn : Ls.length = Geo.ep p) (hcc : Ls.length ≤ c) hk ha => epochs_yes p t b o c Ls h hn hcc W hk ha)
  have HLE := Lib.hid (fun k A n c (hn : n ≠ Geo.se p) W => block_len p t k A n c h hn W)
  have HAT := Lib.hid (fun k A c (hk : k < 0 ∨ (Geo.ep p : Int) ≤ k) W => block_at p t k A c h hk W)
  have HOK := Lib.hid (fun k g o c l (hl : l.length = Geo.se p) (hlc : l.length ≤ c) (hk : k < Geo.ep p) h64 W hu => block_ok p t k g o c l h hl hlc hk h64 W hu)
  clear hb ht hs4 h
  go_enter Try.func5, Try.ntmps5
  go_wp2_with fail
  generalize w.alloc (.cells #[.int .i64 (p : Int), .int .i64 (t : Int)] 23) = W0 at *
  refine (rmay_yes p t HM.out _).mono ?_
  rintro e w1 ⟨rfl, hb1⟩
  have HB1 := Lib.hid (HB.out.trans (hb1.mono HB.out.size))
  have HT1 := Lib.hid (HT.out.after hb1)
  clear hb1
  have c0 := HT1.out.fst
  have c1 := HT1.out.snd
  go_wp2_with fail
  refine (HRS.out _).mono ?_
  rintro e w2 ⟨rfl, hb2⟩
  have HB2 := Lib.hid (HB1.out.trans (hb2.mono HB1.out.size))
  have HT2 := Lib.hid (HT1.out.after hb2)
  have HS2 := Lib.hid (HS4.out.below HB2.out)
  have HW12 := Lib.hid hb2.size
  clear hb2 c0 c1
  generalize Geo.ep p = ee at *
  generalize Geo.se p = se at *
  have hmk := HMK.out w2
  have hcl : (uvals (l4.take (Nat.min n4 se))).length = Nat.min n4 se := by
    rw [uvals_len, List.length_take, HS4.out.1]
    show min (min n4 se) n4 = min n4 se
    omega
  have hcz : (w2.alloc (.cells (rowV (fun _ => u64v 0) se) 41)).heap[w2.heap.size]? = some (.cells (rowV (fun _ => u64v 0) se).toList.toArray 41 (0, 0)) := by rw [heap_alloc_new, Array.toArray_toList]
  have hcp : 0 < (uvals (l4.take (Nat.min n4 se))).length → some (⟨w2.heap.size, 0, none⟩ : Addr) = some ⟨w2.heap.size, 0, none⟩ ∧ ∃ ad, A4 = some ad ∧ ∀ j v, (uvals (l4.take (Nat.min n4 se)))[j]? = some v → (w2.alloc (.cells (rowV (fun _ => u64v 0) se) 41)).cell? (ad.add j) = some v := by
    intro h0
    rw [hcl] at h0
    have hm4 : Nat.min n4 se ≤ n4 := Nat.min_le_left _ _
    obtain ⟨b, o, e, hlt, hc⟩ := HS2.out.2.2.2.2 (by omega)
    refine ⟨rfl, ⟨b, o, none⟩, e, fun j v hj => ?_⟩
    have hjl : j < Nat.min n4 se := by
      rcases Nat.lt_or_ge j (uvals (l4.take (Nat.min n4 se))).length with h | h
      · rw [hcl] at h; exact h
      · rw [List.getElem?_eq_none h] at hj; cases hj
    rw [uvals_at (by rw [uvals_len] at hcl; omega)] at hj
    rw [Go.WideShapes.add_plain, World.cell?_alloc_lt _ _ _ hlt, hc j (by omega), ← Option.some.inj hj]
    simp [List.getD, List.getElem?_take_of_lt hjl]
  have hcf : 0 + (uvals (l4.take (Nat.min n4 se))).length ≤ (rowV (fun _ => u64v 0) se).toList.length := by
    rw [hcl]
    have : Nat.min n4 se ≤ se := Nat.min_le_right _ _
    simp [rowV_size]
    exact this
  have hco := uvals_one (l4.take (Nat.min n4 se))
  have HCL := Lib.hid hcl
  have HCZ := Lib.hid hcz
  have HCP := Lib.hid hcp
  have HCF := Lib.hid hcf
  have HCO := Lib.hid hco
  have HTL : Hid ((l4.take (Nat.min n4 se)).length = Nat.min n4 se) := Lib.hid (by have := hcl; rw [uvals_len] at this; exact this)
  have HT64 := Lib.hid (take64 HS4.out.2.2.2.1 (Nat.min n4 se))
  have HMS : Hid (Nat.min n4 se ≤ se) := Lib.hid (Nat.min_le_right _ _)
  clear hcl hcz hcp hcf hco
  generalize l4.take (Nat.min n4 se) = z at *
  go_wp2_with (with_reducible refine stop_copy (.tmp 53) (.tmp 54) 34 _ rfl ?_)
  unfold StopQ
  refine wpList_copy_splice rfl (.tmp 53) (.tmp 54) 34 34 rfl 41 Try.underlying34 (by kernel_rfl) (some ⟨w2.heap.size, 0, none⟩) A4 se se n4 c4 ?h1 ?h2 w2.heap.size 0 (rowV (fun _ => u64v 0) se).toList 41 ?h3 (uvals z) ?h4 ?h5 ?h6 ?h7 w2.heap.size w2 ?h8 (Nat.le_refl _) ?h9
  case h1 => rfl
  case h2 => rfl
  case h4 => exact HCL.out
  case h7 => exact HCO.out
  case h3 => exact HCZ.out
  case h5 => exact fun h0 => ⟨rfl, (HCP.out h0).2⟩
  case h6 => exact HCF.out
  case h8 => exact (Below.refl _ _).alloc (Nat.le_refl _) _
  intro w3 hw3 hb3
  have hu3 := copy_ur HTL.out HMS.out hw3.out
  have HL64 := Lib.hid (app64 HT64.out (se - Nat.min n4 se))
  have HLL : Hid ((z ++ List.replicate (se - Nat.min n4 se) 0).length = se) := Lib.hid (by rw [List.length_append, HTL.out, List.length_replicate]; have := HMS.out; omega)
  have HU3 := Lib.hid hu3
  have HB3 := Lib.hid (HB2.out.trans (hb3.mono HB2.out.size))
  have HT3 := Lib.hid (HT2.out.after hb3)
  clear hu3 hw3 hb3 hmk
  generalize z ++ List.replicate (se - Nat.min n4 se) 0 = L at *
  generalize w2.heap.size = ga at *
  clear HCL HCZ HCP HCF HCO HTL HT64 HMS
  go_wp2
  have HR0 : Hid (SeR w3 ga ee (ee + 2) L (.slice none 0 0) (.int .i64 (-1)) w3) := Lib.hid ⟨0, rfl, by omega, by simpa using BkO.nil w3 w3.heap.size, After.refl _, HU3.out⟩
  go_loopg [12, 13] (ee + 2) (fun gk bv iv wr => SeR w3 ga ee gk L bv iv wr)
  case atStart => exact HR0.out
  case round =>
    clear HR0
    obtain ⟨j, hiv, hj, hown, haf, hur⟩ := hrel
    have HOWN := Lib.hid hown
    have HAF := Lib.hid haf
    have HUR := Lib.hid hur
    have HTW := Lib.hid (HT3.out.after haf)
    have HBW := Lib.hid (HB3.out.trans (Below.mono haf HB3.out.size))
    clear hown haf hur
    have c0 := HTW.out.fst
    have c1 := HTW.out.snd
    rcases (by omega : j = 0 ∨ (1 ≤ j ∧ j ≤ ee) ∨ j = ee + 1 ∨ j = ee + 2) with rfl | hjj | rfl | rfl
    · -- -1
      have e1 : u13 = .int .i64 (-1) := by rw [hiv]; rfl
      subst e1
      clear hiv
      go_wp2_with fail
      refine (HRE.out _).mono ?_
      rintro e w4 ⟨rfl, hb4⟩
      have HT4 := Lib.hid (HTW.out.after hb4)
      have HA4 := Lib.hid (HAF.out.next hb4)
      have HO4 := Lib.hid (HOWN.out.below hb4)
      have HU4 := Lib.hid (HUR.out.below hb4)
      clear hb4 c0 c1
      have c0 := HT4.out.fst
      have c1 := HT4.out.snd
      have he0 : (-1 : Int) ≤ (ee : Int) := by omega
      go_wp2_with fail
      refine (HAT.out (-1) _ _ (.inl (by omega)) _).mono ?_
      rintro e w5 ⟨rfl, hb5⟩
      have HA5 := Lib.hid (HA4.out.next hb5)
      have HF : Hid (SeR w3 ga ee (ee + 1) L u12 (.int .i64 0) w5) := Lib.hid ⟨1, rfl, by omega, HO4.out.below hb5, HA5.out, HU4.out.below hb5⟩
      clear hb5 c0 c1
      go_wp2
      go_roundg (ee + 1)
      case measure => omega
      case rel => exact HF.out
    · obtain ⟨q, rfl⟩ : ∃ q, j = q + 1 := ⟨j - 1, by omega⟩
      have hqe : q < ee := by omega
      have e1 : u13 = .int .i64 (q : Int) := by rw [hiv]; exact congrArg (Value.int IntKind.i64) (by omega)
      subst e1
      have hmin : min (q + 1 - 1) ee = q := by omega
      have hmin2 : min (q + 1 + 1 - 1) ee = q + 1 := by omega
      have HM2 := Lib.hid hmin2
      rw [hmin] at HOWN
      clear hiv hmin hmin2
      have hq1 : q ≤ ee := by omega
      have hq2 : ((q : Int) == (ee : Int)) = false := by rw [beq_eq_false_iff_ne]; omega
      have hq0 : (0 : Int) ≤ (q : Int) := by omega
      have hq3 : q ≤ 100 := by omega
      go_wp2_with fail
      refine (HRE.out _).mono ?_
      rintro e w4 ⟨rfl, hb4⟩
      have HT4 := Lib.hid (HTW.out.after hb4)
      have HA4 := Lib.hid (HAF.out.next hb4)
      have HO4 := Lib.hid (HOWN.out.below hb4)
      have HU4 := Lib.hid (HUR.out.below hb4)
      clear hb4 c0 c1
      have c0 := HT4.out.fst
      have c1 := HT4.out.snd
      go_wp2_with fail
      refine (HOK.out q ga 0 se L HLL.out (by rw [HLL.out]; exact Nat.le_refl _) hqe HL64.out _ HU4.out).mono ?_
      rintro e w5 ⟨v, rfl, hb5, hit⟩
      obtain ⟨A5, rfl, hbs5⟩ := hit.bs
      have HT5 := Lib.hid (HT4.out.after hb5)
      have HA5 := Lib.hid (HA4.out.next hb5)
      have HO5 := Lib.hid (HO4.out.below hb5)
      have HU5 := Lib.hid (HU4.out.below hb5)
      have HIT5 := Lib.hid hit
      clear hb5 c0 c1 hit hbs5
      have c0 := HT5.out.fst
      have c1 := HT5.out.snd
      go_wp2_with fail
      refine (HRE.out _).mono ?_
      rintro e w6 ⟨rfl, hb6⟩
      have HA6 := Lib.hid (HA5.out.next hb6)
      have HO6 := Lib.hid (HO5.out.below hb6)
      have HU6 := Lib.hid (HU5.out.below hb6)
      have HIT6 := Lib.hid (HIT5.out.below hb6)
      clear hb6 c0 c1
      obtain ⟨A6, eA, hbs6⟩ := HIT6.out.bs
      injection eA with eA _ _
      subst eA
      have hc1 := conv_at hbs6.dr
      have HBS6 := Lib.hid hbs6
      have hu6 : UR w6.drew ga 0 L := HU6.out
      have HRB := Lib.hid (fun c W hW => rblock_any q ga 0 se c L hq3 HLL.out (by omega) HL64.out W hW)
      generalize hE : epL L q = E at *
      have HE := Lib.hid hE
      have HEL : Hid (E.length = 256) := Lib.hid (by rw [← hE, epL_len])
      clear hE hbs6
      go_upto_region 15 with (fail)
      go_cut [94] (fun b wx => CutQ w6 b wx)
      case first =>
        go_region_with (
          (go_at_call 20; (with_reducible refine (HRB.out _ _ hu6).mono ?_); rintro e w7 ⟨A7, c7, rfl, hb7, hx7⟩; have hc7 := conv_at hx7; have hc8 := conv_at ((HBS6.out.dr.below hb7).more hb7.size)))
        all_goals
          have HF : Hid (CutQ w6 (.bool false) w7) := Lib.hid ⟨rfl, Below.trans (After.drew w6) hb7⟩
          clear hc1 hc7 hc8 hx7 hb7 hu6
          go_wp2
          go_meet
          case rel => exact HF.out
      case rest =>
        obtain ⟨rfl, hax⟩ := hcut
        have HA7 := Lib.hid (HA6.out.next hax)
        have HO7 := Lib.hid (HO6.out.below hax)
        have HU7 := Lib.hid (HU6.out.below hax)
        have HIT7 := Lib.hid (HIT6.out.below hax)
        have hl7 : ((List.range q).map (epL L)).length < 1000 := by rw [List.length_map, List.length_range]; omega
        clear hax hc1 hu6
        go_wp2_with (at_builtin; refine wp_appB wc rfl _ _ rfl w3.heap.size u12 (.slice A5 256 256) ((List.range q).map (epL L)) E rfl HO7.out hl7 rfl HIT7.out (Below.size HA7.out) ?_; intro v' w9 hown9 hb9 hk9 hu9)
        have HF : Hid (SeR w3 ga ee (ee - q) L v' (.int .i64 ((q : Int) + 1)) w9) := Lib.hid ⟨q + 2, congrArg (Value.int IntKind.i64) (by omega), by omega, by
          have e9 : min (q + 2 - 1) ee = q + 1 := by omega
          rw [e9, List.range_succ, List.map_append, List.map_cons, List.map_nil, HE.out]
          exact hown9, Below.trans HA7.out hb9, hu9 _ _ _ HU7.out⟩
        clear hown9 hb9 hk9 hu9
        go_wp2
        go_roundg (ee - q)
        case measure => omega
        case rel => exact HF.out
    · have e1 : u13 = .int .i64 (ee : Int) := by rw [hiv]; exact congrArg (Value.int IntKind.i64) (by omega)
      subst e1
      clear hiv
      go_wp2_with fail
      refine (HRE.out _).mono ?_
      rintro e w4 ⟨rfl, hb4⟩
      have HT4 := Lib.hid (HTW.out.after hb4)
      have HA4 := Lib.hid (HAF.out.next hb4)
      have HO4 := Lib.hid (HOWN.out.below hb4)
      have HU4 := Lib.hid (HUR.out.below hb4)
      clear hb4 c0 c1
      have c0 := HT4.out.fst
      have c1 := HT4.out.snd
      go_wp2_with fail
      refine (HAT.out (ee : Int) _ _ (.inr (Int.le_refl _)) _).mono ?_
      rintro e w5 ⟨rfl, hb5⟩
      have HT5 := Lib.hid (HT4.out.after hb5)
      have HA5 := Lib.hid (HA4.out.next hb5)
      have HO5 := Lib.hid (HO4.out.below hb5)
      have HU5 := Lib.hid (HU4.out.below hb5)
      clear hb5 c0 c1
      have c0 := HT5.out.fst
      have c1 := HT5.out.snd
      go_wp2_with fail
      refine (HRE.out _).mono ?_
      rintro e w6 ⟨rfl, hb6⟩
      have HF : Hid (SeR w3 ga ee 0 L u12 (.int .i64 ((ee : Int) + 1)) w6) := Lib.hid ⟨ee + 2, congrArg (Value.int IntKind.i64) (by omega), by omega, by
        have h9 := HO5.out.below hb6
        have e9 : min (ee + 1 - 1) ee = min (ee + 2 - 1) ee := by omega
        rw [e9] at h9; exact h9, HA5.out.next hb6, HU5.out.below hb6⟩
      clear hb6 c0 c1
      go_wp2
      go_roundg 0
      case measure => omega
      case rel => exact HF.out
    · have e1 : u13 = .int .i64 ((ee : Int) + 1) := by rw [hiv]; exact congrArg (Value.int IntKind.i64) (by omega)
      subst e1
      have hmin : min (ee + 2 - 1) ee = ee := by omega
      rw [hmin] at HOWN
      clear hiv hmin
      have hlt9 : (ee : Int) < (ee : Int) + 1 := by omega
      go_wp2_with fail
      refine (HRE.out _).mono ?_
      rintro e w4 ⟨rfl, hb4⟩
      have HT4 := Lib.hid (HTW.out.after hb4)
      have HA4 := Lib.hid (HAF.out.next hb4)
      have HO4 := Lib.hid (HOWN.out.below hb4)
      have HU4 := Lib.hid (HUR.out.below hb4)
      have HB4 := Lib.hid (HBW.out.trans (hb4.mono HBW.out.size))
      clear hb4 c0 c1
      have c0 := HT4.out.fst
      have c1 := HT4.out.snd
      have hLs : ((List.range ee).map (epL L)).length = ee := by rw [List.length_map, List.length_range]
      obtain ⟨g, cap, rfl, hcap, hg, hbk, hall, _, _, _⟩ := HO4.out.bks (by rw [hLs]; omega)
      have hE := HEP.out g 0 cap _ w4 hLs hcap hbk hall
      have HNA : Hid (∀ i, i < se → numAt ((List.range ee).map (epL L)).flatten 8 i = L.getD i 0) := Lib.hid fun i hi => by
        have hq : i / 32 < ee := by omega
        rw [epoch_num hall (by rw [hLs]; exact hq)]
        have e5 : ((List.range ee).map (epL L)).getD (i / 32) [] = epL L (i / 32) := by
          rw [List.getD_eq_getElem?_getD, List.getElem?_map, List.getElem?_range hq]; rfl
        rw [e5, ep_num L (i / 32) (i % 32) (by omega), num_putL, show 32 * (i / 32) + i % 32 = i by omega]
        exact Nat.mod_eq_of_lt (HL64.out i)
      rw [hLs] at hE ⊢
      have HE2 := Lib.hid hE
      generalize ((List.range ee).map (epL L)).flatten = FL at *
      clear hE hbk hall hcap
      go_wp2_with fail
      refine HE2.out.mono ?_
      rintro e w5 ⟨g2, rfl, hb5, hr5⟩
      have HT5 := Lib.hid (HT4.out.after hb5)
      have HB5 := Lib.hid (HB4.out.trans (hb5.mono HB4.out.size))
      have HU5 := Lib.hid (HU4.out.below hb5)
      have HR5 := Lib.hid hr5
      have hse7 : se ≤ 96 := by omega
      clear hb5 hr5 c0 c1
      go_wp2
      go_loopg [116] se (fun gk iv wr => ∃ i : Nat, iv = .int .i64 (i : Int) ∧ i + gk = se ∧ After w5 wr)
      case atStart => exact ⟨0, rfl, by omega, After.refl _⟩
      case round =>
        obtain ⟨i, rfl, hi, haf⟩ := hrel
        have HA6 := Lib.hid haf
        by_cases hlt : i < se
        · have k1 : wr.drew.cell? ⟨g2, i, none⟩ = some (.int .u64 ((L.getD i 0 : Nat) : Int)) := by
            have h9 := (Row.below HR5.out haf HR5.out.lt).cell hlt
            rw [HNA.out i hlt] at h9
            exact h9
          have k2 : wr.drew.cell? ⟨ga, i, none⟩ = some (.int .u64 ((L.getD i 0 : Nat) : Int)) := by
            have h9 := (HU5.out.below haf).cell (i := i) (by rw [HLL.out]; exact hlt)
            rw [Nat.zero_add] at h9
            exact h9
          have k3 : wr.cell? ⟨g2, i, none⟩ = some (.int .u64 ((L.getD i 0 : Nat) : Int)) := k1
          have k4 : wr.cell? ⟨ga, i, none⟩ = some (.int .u64 ((L.getD i 0 : Nat) : Int)) := k2
          have HA7 := Lib.hid (HA6.out.next (After.drew wr))
          generalize L.getD i 0 = x at *
          clear haf
          go_wp2_with fail
          go_region
          go_wp2
          go_roundg (se - (i + 1))
          case measure => omega
          case rel => exact ⟨i + 1, rfl, by omega, HA7.out⟩
        · obtain rfl : i = se := by omega
          have HB6 := Lib.hid (HB5.out.trans (Below.mono haf HB5.out.size))
          have HT6 := Lib.hid (HT5.out.after haf)
          clear haf
          have c0 := HT6.out.fst
          have c1 := HT6.out.snd
          have hi1 : (1 : Int) ≤ (i : Int) := by omega
          have hi2 : 1 ≤ i := by omega
          have hi3 : ¬ i = 1 := by omega
          go_upto_region 27 with (fail)
          go_cut [20] (fun b wx => FewQ wr b wx)
          case first =>
            go_region_with (
              (go_at_call 16; (with_reducible refine (HLE.out _ _ _ _ (by omega) _).mono ?_); rintro e w7 ⟨rfl, hb7⟩))
            all_goals
              have HF : Hid (FewQ wr (.int .i64 1) w7) := Lib.hid ⟨rfl, Below.trans (After.drew wr) hb7⟩
              clear hb7 c0 c1
              go_wp2
              go_meet
              case rel => exact HF.out
          case rest =>
            obtain ⟨rfl, hax⟩ := hcut
            have HB7 := Lib.hid (HB6.out.trans (Below.mono hax HB6.out.size))
            clear hax c0 c1
            go_wp2_with fail
            refine (awake13_any _).mono ?_
            rintro e w8 ⟨rfl, hb8⟩
            have HB8 := Lib.hid (HB7.out.trans (hb8.mono HB7.out.size))
            clear hb8
            go_wp2
            go_ret
            exact ⟨rfl, HB8.out⟩
theorem superEpochs_any (p t : Int) (A4 : Option Addr) (n4 c4 : Nat) (l4 : List Nat) (k0 : Int) (w : World) (hs4 : US w A4 n4 c4 l4) :
    Calls Try.prog 5 #[.agg #[.int .i64 p, .int .i64 t], .slice A4 n4 c4, .int .i64 k0] w fun e w' => e = .returned (.bool true) ∧ Below w.heap.size w w' := by
  by_cases h : Geo.May p t
  · obtain ⟨p', rfl⟩ : ∃ k : Nat, p = (k : Int) := ⟨p.toNat, by unfold Geo.May at h; omega⟩
    obtain ⟨t', rfl⟩ : ∃ k : Nat, t = (k : Int) := ⟨t.toNat, by unfold Geo.May at h; omega⟩
    exact superEpochs_yes p' t' h A4 n4 c4 l4 k0 w hs4
  · exact superEpochs_no p t h _ k0 w
section
variable {H : Type} {enc : TypeId × Value → H}
def USE (w : World) (A : Option Addr) (n c : Nat) : Prop := ∃ l, US w A n c l
open Go.ChangeShapes Go.WideShapes in
theorem us_open {w : World} {A : Option Addr} {n c : Nat} {d : DataW H} {p : List MemPlace} (h : DataW.Trod enc Try.prog w 0 (fun _ => true) true 34 (.slice A n c) d p) : USE w A n c := by
  obtain ⟨fuel, hf⟩ := h
  rcases open_ints Try.underlying34 Try.underlying41 (by kernel_rfl) hf with ⟨hcs, _⟩ | ⟨x, l, cc, zs, hcs, _, hl, hm, hz, _, hcell, hwz⟩
  · simp [Value.cells] at hcs
    obtain ⟨rfl, rfl, rfl⟩ := hcs
    exact ⟨[], rfl, Nat.le_refl _, by omega, by simp, fun h => absurd h (by omega)⟩
  · simp [Value.cells] at hcs
    obtain ⟨rfl, rfl, rfl⟩ := hcs
    have hz2 : zs.length = c := by simpa using hz
    have hb : ∀ i, 0 ≤ zs.getD i 0 ∧ zs.getD i 0 < 2 ^ 64 := fun i => by
      by_cases hi : i < zs.length
      · have h1 := hwz zs[i] (List.getElem_mem hi)
        obtain ⟨m, hm, e⟩ := nat_u64 h1
        have e2 : zs.getD i 0 = zs[i] := by simp [List.getD, List.getElem?_eq_getElem hi]
        rw [e2, e]
        omega
      · have e2 : zs[i]? = none := List.getElem?_eq_none (by omega)
        rw [List.getD_eq_getElem?_getD, e2]
        simp
    have key : ∀ i, i < n → ((zs.take n).map Int.toNat).getD i 0 = (zs.getD i 0).toNat := fun i hi => by
      simp [List.getD, List.getElem?_take_of_lt hi, List.getElem?_eq_getElem (show i < zs.length by omega)]
    refine ⟨(zs.take n).map Int.toNat, by rw [List.length_map, List.length_take]; omega, hl, by unfold maxLen at hm; omega, fun i => ?_, fun hn => ?_⟩
    · by_cases hi : i < n
      · rw [key i hi]
        have := hb i
        omega
      · have e2 : ((zs.take n).map Int.toNat)[i]? = none := by rw [List.getElem?_eq_none]; rw [List.length_map, List.length_take]; omega
        rw [List.getD_eq_getElem?_getD, e2]
        decide
    · obtain ⟨b, o, rfl, hc⟩ := ints_at hcell (by omega)
      have hlt : b < w.heap.size := block_lt_of_cell (hc 0 (by omega))
      refine ⟨b, o, rfl, hlt, fun i hi => ?_⟩
      rw [hc i (by omega), key i hi]
      have := hb i
      congr 2
      omega
end
end Go.Proofs.Ytbfbcjfeicecmaa
