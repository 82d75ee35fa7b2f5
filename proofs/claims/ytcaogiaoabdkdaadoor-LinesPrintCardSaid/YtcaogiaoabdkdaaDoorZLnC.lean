/-
  Joined: HeldG, LnC.
-/
import Derived.Test.YtcaogiaoabdkdaaDoorZHeldF
import Derived.Test.YtcaogiaoabdkdaaDoorZLnB
import Derived.Deep.Cut
import Derived.Deep.RegionWith
namespace Go.Proofs.YtcaogiaoabdkdaaDoor
set_option maxRecDepth 100000
section
open Go
set_option linter.unusedVariables false
set_option linter.unusedSimpArgs false
section
variable {P : Program} {ops : Array Oper} {Q : Exit → Act → World → Prop} {md : Region.Mode} {S : World → Prop} {fin : List Nat}
/-- those among the first operations that wait for number i, in whatever steps -/
def behindL (md : Region.Mode) (i : Nat) : List Oper → Nat → List Nat → List Nat
  | [], _, acc => acc
  | o :: r, k, acc => behindL md i r (k + 1) (if o.after.any (fun e => Region.binds md e && (e.on == i || acc.contains e.on)) then k :: acc else acc)
def closedB (md : Region.Mode) (ops : Array Oper) (listed : Array Bool) : Bool :=
  (List.range ops.size).all fun k => !listed.getD k false || (match ops[k]? with | some o => o.after.all (fun e => !Region.binds md e || listed.getD e.on false) | none => true)
def ClosedP (md : Region.Mode) (ops : Array Oper) (listed : Array Bool) : Prop := ∀ k o, ops[k]? = some o → listed.getD k false = true → ∀ e ∈ o.after, Region.binds md e = true → listed.getD e.on false = true
theorem closed_of {listed : Array Bool} (h : closedB md ops listed = true) : ClosedP md ops listed := fun k o ho hk e he hb => by
  have hlt : k < ops.size := (Array.getElem?_eq_some_iff.1 ho).1
  have h1 := List.all_eq_true.mp h k (List.mem_range.2 hlt)
  simp only [ho, hk, Bool.not_true, Bool.false_or] at h1
  have h2 := Array.all_eq_true'.1 h1 e he
  simpa [hb] using h2
theorem closed_set {listed : Array Bool} (h : ClosedP md ops listed) {j : Nat} (hr : j ∈ Region.ready md ops listed) : ClosedP md ops (listed.setIfInBounds j true) := fun k o ho hk e he hb => by
  have up : ∀ q, listed.getD q false = true → (listed.setIfInBounds j true).getD q false = true := fun q hq => by
    by_cases e : q = j
    · subst e
      rcases Nat.lt_or_ge q listed.size with h' | h'
      · simp [h']
      · simp [Array.getElem?_eq_none h'] at hq
    · simp [Array.getElem?_setIfInBounds, Ne.symm e] at hq ⊢; exact hq
  by_cases hkj : k = j
  · subst hkj
    obtain ⟨_, o', ho', hall⟩ := mem_ready.1 hr
    obtain rfl : o = o' := Option.some.inj (ho.symm.trans ho')
    exact up _ (hall e he hb)
  · refine up _ (h k o ho ?_ e he hb)
    simp [Array.getElem?_setIfInBounds, Ne.symm hkj] at hk ⊢; exact hk
theorem behind_un {listed : Array Bool} {i : Nat} (hcl : ClosedP md ops listed) (hi : listed.getD i false = false) : ∀ (r : List Oper) (k : Nat) (acc : List Nat), (∀ q o, r[q]? = some o → ops[k + q]? = some o) →
    (∀ j ∈ acc, listed.getD j false = false ∧ ∃ o, ops[j]? = some o ∧ ∃ e ∈ o.after, Region.binds md e = true ∧ listed.getD e.on false = false) →
    ∀ j ∈ behindL md i r k acc, listed.getD j false = false ∧ ∃ o, ops[j]? = some o ∧ ∃ e ∈ o.after, Region.binds md e = true ∧ listed.getD e.on false = false
  | [], _, _, _, h, j, hj => h j hj
  | o :: r, k, acc, hops, h, j, hj => by
    refine behind_un hcl hi r (k + 1) _ (fun q o' hq => by have := hops (q + 1) o' hq; rwa [show k + 1 + q = k + (q + 1) by omega]) ?_ j hj
    intro j' hj'
    split at hj'
    · rename_i hany
      rcases List.mem_cons.1 hj' with rfl | hj'
      · obtain ⟨e, he, hb⟩ := Array.any_eq_true'.1 hany
        simp only [Bool.and_eq_true, Bool.or_eq_true, beq_iff_eq] at hb
        have ho : ops[j']? = some o := hops 0 o rfl
        have hun : listed.getD e.on false = false := by
          rcases hb.2 with h1 | h1
          · rw [h1]; exact hi
          · exact (h e.on (by simpa using h1)).1
        refine ⟨?_, o, ho, e, he, hb.1, hun⟩
        cases hq : listed.getD j' false
        · rfl
        · have := hcl j' o ho hq e he hb.1
          rw [hun] at this; cases this
      · exact h j' hj'
    · exact h j' hj'
/-- each of the operations fin waits for number i, in whatever steps -/
def waitsFar (md : Region.Mode) (ops : Array Oper) (fin : List Nat) (i : Nat) : Bool := fin.all fun k => (behindL md i ops.toList 0 []).contains k
theorem wpAnyG_first {i : Nat} {oi : Oper} {v : Value} (hi : ops[i]? = some oi) (hsel : ∀ (j : Nat) (o : Oper) cs b, ops[j]? = some o → o.op ≠ .select cs b)
    (hQ : ∀ c a w, Q (.panic c) (a.put oi.dst v) w → Q (.panic c) a w) (hfin : waitsFar md ops fin i = true) :
    ∀ (fuel : Nat) (listed : Array Bool) (a : Act) (w : World), ClosedP md ops listed →
      (∀ j oj, ops[j]? = some oj → j ≠ i → listed.getD j true = false → (∀ e ∈ oj.after, Region.binds md e = true → e.on ≠ i) → oi.apart ops oj = true) →
      i ∈ Region.ready md ops listed → YieldsIf P ops S oi v a → S w →
      wpAnyF P md ops Q S fin fuel (listed.setIfInBounds i true) (a.put oi.dst v) w → wpAnyF P md ops Q S fin (fuel + 1) listed a w := by
  intro fuel
  induction fuel with
  | zero =>
    intro listed a w _ _ hr hy hS H
    refine ⟨fun h => (by rw [h] at hr; cases hr), fun j hj => ?_⟩
    by_cases hji : j = i
    · subst hji; exact hy.wpOp hi hS ⟨fun _ => hS, H⟩
    · have := ready_mono hj hji
      rw [H.1] at this
      cases this
  | succ fuel ih =>
    intro listed a w hcl hfree hr hy hS H
    refine ⟨fun h => (by rw [h] at hr; cases hr), fun j hj => ?_⟩
    by_cases hji : j = i
    · subst hji; exact hy.wpOp hi hS ⟨fun _ => hS, H⟩
    · obtain ⟨hjun, oj, hoj, hall⟩ := mem_ready.1 hj
      have hun : listed.getD i false = false := by
        have h0 := (mem_ready.1 hr).1
        rcases Nat.lt_or_ge i listed.size with h' | h'
        · simpa [h'] using h0
        · simp [Array.getElem?_eq_none h']
      have hnot : ∀ e ∈ oj.after, Region.binds md e = true → e.on ≠ i := fun e he hb heq => by
        have h1 := hall e he hb
        rw [heq, hun] at h1; cases h1
      have hjf : j ∉ fin := fun hm => by
        have hc := List.all_eq_true.mp hfin j hm
        obtain ⟨_, o, ho, e, he, hb, hu⟩ := behind_un (k := 0) (r := ops.toList) (acc := []) hcl hun (fun q o hq => by rw [Nat.zero_add]; simpa using hq) (fun _ h => by cases h) j (by simpa using hc)
        obtain rfl : o = oj := Option.some.inj (ho.symm.trans hoj)
        have := hall e he hb
        rw [hu] at this; cases this
      have h1 := H.2 j (ready_mono hj hji)
      have h2 := wpOp_putIf hoj (hfree j oj hoj hji hjun hnot) (fun cs b => hsel i oi cs b hi) (fun cs b => hsel j oj cs b hoj) hQ hy h1
      have hfree' : ∀ k ok, ops[k]? = some ok → k ≠ i → (listed.setIfInBounds j true).getD k true = false →
          (∀ e ∈ ok.after, Region.binds md e = true → e.on ≠ i) → oi.apart ops ok = true := fun k ok hk hki hun hno => by
        refine hfree k ok hk hki ?_ hno
        by_cases hjk : j = k
        · subst hjk; exact hjun
        · rw [getD_set_ne true hjk] at hun; exact hun
      refine wpOp_mono (fun a' w' h3 => ⟨h3.2.1, ih (listed.setIfInBounds j true) a' w' (closed_set hcl hj) hfree' (ready_mono hr (Ne.symm hji)) h3.1 (h3.2.1 hjf) ?_⟩) h2
      rw [Array.setIfInBounds_comm _ _ hji]
      exact h3.2.2
theorem wpAnyG_take {i : Nat} {oi : Oper} {v : Value} {fuel : Nat} {listed : Array Bool} {a : Act} {w : World} (hi : ops[i]? = some oi)
    (hs : Region.noSelect ops = true) (hf : Region.free md ops listed i = true) (hr : (Region.ready md ops listed).contains i = true) (hfin : waitsFar md ops fin i = true) (hcl : closedB md ops listed = true)
    (hQ : ∀ c a w, Q (.panic c) (a.put oi.dst v) w → Q (.panic c) a w) (hy : YieldsIf P ops S oi v a) (hS : S w)
    (h : wpAnyF P md ops Q S fin fuel (listed.setIfInBounds i true) (a.put oi.dst v) w) : wpAnyF P md ops Q S fin (fuel + 1) listed a w :=
  wpAnyG_first hi (Region.noSelect_spec hs) hQ hfin fuel listed a w (closed_of hcl) (Region.free_spec hi hf) (by simpa using hr) hy hS h
end
end
section
open Go.RowKit Go
set_option linter.unusedVariables false
set_option linter.unusedSimpArgs false
set_option maxRecDepth 100000
set_option maxHeartbeats 1000000
/-- bytes are appended; other blocks stay -/
theorem step_appsL {K0 : Act → World → Prop} {o : Oper} {a : Act} {Q : Exit → Act → World → Prop} (W : World) (s x : Operand)
    (ho : o.op = .call { callee := .builtin .append, args := #[s, x], argTypes := #[24, 24] })
    (B : Nat) (v : Value) (l : List Nat) (hs : a.eval s = v) (hown : Own W B v l)
    (B' : Nat) (A : Option Addr) (m c : Nat) (l' : List Nat) (hx : a.eval x = .slice A m c) (hr : BS W B' A m c l') (hA : A = none → c = 0) (hn : l.length + m < 1000000000) (hB : B ≤ W.heap.size)
    (h : ∀ v' w', Own w' B v' (l ++ l') → Below B W w' → K0 (a.put o.dst v') w') : Oper.wp Tryd.prog o a W K0 Q := by
  obtain ⟨i0, hi, hz0, hz1, hz2⟩ := info_parts info_u8
  have hm := hr.len
  rcases A with _ | ad
  · have h0 := hA rfl
    have h1 := hr.cap
    have hm0 : m = 0 := by omega
    subst hm0 h0
    obtain rfl := List.length_eq_zero_iff.mp hm
    have hrun := run_append_owned_none (P := Tryd.prog) (w := W) B 24 o.type 5 i0 1 Tryd.underlying24 hi v l.length (bvals l) hown
    unfold Oper.wp
    simp [execOp, ho, resolve, invoke, builtin, hs, hx, hrun, Result.andThen]
    exact h v W (by rw [List.append_nil]; exact hown) (Below.refl _ _)
  · refine wp_append_own _ s x 24 ho B 5 i0 (.int .u8 0) 1 1 Tryd.underlying24 hi hz0 hz1 hz2 rfl (by decide) v l.length (bvals l) hs hown ad m c
      (bvals l') hx (by rw [bvals_len, hm, Nat.mul_one]) ?_ (bvals_one l') (by unfold maxLen; omega) (by omega) hB ?_
    · intro j u hj
      have hjl : j < l'.length := by
        rcases Nat.lt_or_ge j l'.length with h | h
        · exact h
        · rw [List.getElem?_eq_none (by rw [bvals_len]; exact h)] at hj; cases hj
      obtain ⟨b, o, e, _, hc⟩ := hr.at_ (by omega)
      obtain rfl : ad = ⟨b, o, none⟩ := Option.some.inj e
      have h2 := hc j (by omega)
      rw [Go.WideShapes.add_plain, h2, ← hj]
      simp [bvals, List.getElem?_eq_getElem hjl, List.getD]
    · intro v' w1 hown' hg _
      refine h v' w1 ?_ ((Below.refl B W).grown hg hB (fun k hk => (World.ownsRow.lt hown k hk).1))
      have e : bvals (l ++ l') = bvals l ++ bvals l' := by simp [bvals]
      unfold Own
      rw [e, List.length_append, hm]
      exact hown'
theorem sg_at (d : Nat) (hd : d < 16) (w : World) : (Instr.index 9 (.string ⟨#[48, 49, 50, 51, 52, 53, 54, 55, 56, 57, 97, 98, 99, 100, 101, 102]⟩) (.int .u8 (d : Int))).run Tryd.prog w = .ok (.int .u8 ((sgL d : Nat) : Int)) w := by
  have e : (⟨#[48, 49, 50, 51, 52, 53, 54, 55, 56, 57, 97, 98, 99, 100, 101, 102]⟩ : ByteArray) = str [48, 49, 50, 51, 52, 53, 54, 55, 56, 57, 97, 98, 99, 100, 101, 102] := by kernel_rfl
  have hb : ∀ i, (([48, 49, 50, 51, 52, 53, 54, 55, 56, 57, 97, 98, 99, 100, 101, 102] : List Nat)).getD i 0 < 256 := by
    intro i
    by_cases hi : i < 16
    · have : ∀ i, i < 16 → (([48, 49, 50, 51, 52, 53, 54, 55, 56, 57, 97, 98, 99, 100, 101, 102] : List Nat)).getD i 0 < 256 := by decide
      exact this i hi
    · rw [List.getD_eq_getElem?_getD, List.getElem?_eq_none (by simp; omega)]; exact Nat.zero_lt_succ _
  have h2 : d < (str [48, 49, 50, 51, 52, 53, 54, 55, 56, 57, 97, 98, 99, 100, 101, 102]).size := by rw [str_size]; simpa using hd
  rw [e, run_index_string w 9 (str [48, 49, 50, 51, 52, 53, 54, 55, 56, 57, 97, 98, 99, 100, 101, 102]) .u8 (d : Int) Tryd.underlying9, dif_pos ⟨by omega, by omega⟩]
  have e2 := str_idx hb (show d < ([48, 49, 50, 51, 52, 53, 54, 55, 56, 57, 97, 98, 99, 100, 101, 102] : List Nat).length by simpa using hd) h2
  have e3 : ∀ d, d < 16 → (([48, 49, 50, 51, 52, 53, 54, 55, 56, 57, 97, 98, 99, 100, 101, 102] : List Nat)).getD d 0 = sgL d := by decide
  simp only [Int.toNat_natCast]
  rw [e2, e3 d hd]
def hexP (b : List Nat) : List Nat := b.flatMap fun c => [sgL (c / 16), sgL (c % 16)]
theorem hexP_take {b : List Nat} {j : Nat} (hj : j < b.length) : hexP (b.take (j + 1)) = hexP (b.take j) ++ [sgL (b.getD j 0 / 16), sgL (b.getD j 0 % 16)] := by
  unfold hexP
  rw [List.take_add_one, List.getElem?_eq_getElem hj, Option.toList_some, List.flatMap_append, List.getD_eq_getElem?_getD, List.getElem?_eq_getElem hj]; simp
theorem hexP_len (b : List Nat) : (hexP b).length = 2 * b.length := by
  unfold hexP
  induction b with
  | nil => rfl
  | cons c b ih => rw [List.flatMap_cons, List.length_append, ih]; simp; omega
theorem sg_lt (d : Nat) (h : d < 16) : sgL d < 256 := by unfold sgL; split <;> omega
theorem hexP_byte {b : List Nat} (h : ∀ i, b.getD i 0 < 256) (i : Nat) : (hexP b).getD i 0 < 256 := by
  have : ∀ x ∈ hexP b, x < 256 := by
    intro x hx
    unfold hexP at hx
    rw [List.mem_flatMap] at hx
    obtain ⟨c, hc, hx⟩ := hx
    obtain ⟨k, hk, rfl⟩ := List.mem_iff_getElem.1 hc
    have h1 := h k
    rw [List.getD_eq_getElem?_getD, List.getElem?_eq_getElem hk] at h1
    simp only [Option.getD_some] at h1
    simp only [List.mem_cons, List.not_mem_nil, or_false] at hx
    rcases hx with rfl | rfl
    · exact sg_lt _ (by omega)
    · exact sg_lt _ (by omega)
  by_cases hi : i < (hexP b).length
  · rw [List.getD_eq_getElem?_getD, List.getElem?_eq_getElem hi]; exact this _ (List.getElem_mem hi)
  · rw [List.getD_eq_getElem?_getD, List.getElem?_eq_none (by omega)]; exact Nat.zero_lt_succ _
theorem two_bs {w : World} (x y : Nat) (hx : x < 256) (hy : y < 256) : BS (w.alloc (.cells #[.int .u8 (x : Int), .int .u8 (y : Int)] 5)) (w.alloc (.cells #[.int .u8 (x : Int), .int .u8 (y : Int)] 5)).heap.size (some ⟨w.heap.size, 0, none⟩) 2 2 [x, y] :=
  BS.of_blk (heap_alloc_new _ _) (by simp) rfl (Nat.le_refl _) (by omega) (fun i => by
    match i with
    | 0 => exact hx
    | 1 => exact hy
    | i + 2 => simp) (fun i hi => by
    match i, hi with
    | 0, _ => rfl
    | 1, _ => rfl)
def HeR (w : World) (b : List Nat) (sv iv : Value) (wr : World) : Prop := ∃ (j : Nat) (v : Value), iv = .int .i64 (j : Int) ∧ v = sv ∧ j ≤ b.length ∧ Own wr w.heap.size v (hexP (b.take j)) ∧ Below w.heap.size w wr
theorem rhex_any (A : Option Addr) (n c : Nat) (b : List Nat) (w : World) (hs : BS w w.heap.size A n c b) (hn : n ≤ 100000) :
    Calls Tryd.prog 23 #[.slice A n c] w (GivesS w (hexL b)) := by
  have hln := hs.len
  by_cases h0 : n = 0
  · subst h0
    obtain rfl : b = [] := List.eq_nil_of_length_eq_zero hln
    have HF : Hid (GivesS w (hexL []) (.returned (.string ⟨#[45]⟩)) w) := Lib.hid ⟨rfl, Below.refl _ _⟩
    clear hs hln
    go_enter Tryd.func23, Tryd.ntmps23
    go_wp2
    go_ret
    exact HF.out
  · have HHL : Hid (hexL b = hexP b) := Lib.hid (by unfold hexL; rw [if_neg (by intro e; rw [e] at hln; simp at hln; omega)]; rfl)
    rw [HHL.out]
    have HBY := Lib.hid hs.byte
    have HS := Lib.hid hs
    have HLN := Lib.hid hln
    have hcap := hs.cap
    have hn0 : ¬ (n : Int) = 0 := by omega
    obtain ⟨ba, oa, rfl, hba, hcc⟩ := hs.at_ (by omega)
    have HC := Lib.hid hcc
    have HST : Hid (HeR w b (.slice none 0 0) (.int .i64 0) w) := Lib.hid ⟨0, _, rfl, rfl, by omega, Own.nil _ _, Below.refl _ _⟩
    clear hs hln hcc HHL
    go_enter Tryd.func23, Tryd.ntmps23
    go_wp2_with fail
    have hb9 : ((n : Int) == 0) = false := by rw [beq_eq_false_iff_ne]; omega
    simp only [hb9]
    clear hb9
    go_loopw [4, 12] (fun sv iv wr => HeR w b sv iv wr) (fun _ iv _ => (n - intOf iv).toNat)
    case atStart => exact HST.out
    case round =>
      clear HST hn0 h0
      obtain ⟨j, v, rfl, rfl, hj, ho, hb⟩ := hrel
      have HO := Lib.hid ho
      have HB := Lib.hid hb
      rw [HLN.out] at hj
      clear ho hb
      by_cases hlt : j < n
      · have p0 : wr.cell? ⟨ba, oa + j, none⟩ = some (.int .u8 ((b.getD j 0 : Nat) : Int)) := (HB.out.cell (p := ⟨ba, oa + j, none⟩) hba).trans (HC.out j hlt)
        have hlt1 : ba < wr.heap.size := Nat.lt_of_lt_of_le hba HB.out.size
        have hx := HBY.out j
        have HTK := Lib.hid (hexP_take (b := b) (j := j) (by rw [HLN.out]; exact hlt))
        have HNX : Hid (∀ v' w', Own w' w.heap.size v' (hexP (b.take j) ++ [sgL (b.getD j 0 / 16), sgL (b.getD j 0 % 16)]) → Below w.heap.size w w' → HeR w b v' (.int .i64 ((j : Int) + 1)) w') := Lib.hid (fun v' w' h1 h2 => ⟨j + 1, v', rfl, rfl, by rw [HLN.out]; omega, by rw [HTK.out]; exact h1, h2⟩)
        have HLP : Hid ((hexP (b.take j)).length + 2 < 1000000000) := Lib.hid (by rw [hexP_len, List.length_take]; omega)
        clear HTK
        generalize b.getD j 0 = x at *
        generalize hexP (b.take j) = pre at *
        have hd1 : x / 16 < 16 := by omega
        have hd2 : x % 16 < 16 := by omega
        have hq : ((x : Int)).tdiv 16 = ((x / 16 : Nat) : Int) := by rw [Int.tdiv_eq_ediv_of_nonneg (by omega)]; omega
        have hr : ((x : Int)).tmod 16 = ((x % 16 : Nat) : Int) := by rw [Int.tmod_eq_emod_of_nonneg (by omega)]; omega
        have hw1 : IntKind.u8.wrap ((x / 16 : Nat) : Int) = ((x / 16 : Nat) : Int) := IntWalk.u8_in _ (by omega)
        have hw2 : IntKind.u8.wrap ((x % 16 : Nat) : Int) = ((x % 16 : Nat) : Int) := IntWalk.u8_in _ (by omega)
        have HG1 := Lib.hid (fun w => sg_at (x / 16) hd1 w)
        have HG2 := Lib.hid (fun w => sg_at (x % 16) hd2 w)
        have hs1 := sg_lt _ hd1
        have hs2 := sg_lt _ hd2
        generalize x / 16 = x1 at *
        generalize x % 16 = x2 at *
        generalize sgL x1 = y1 at *
        generalize sgL x2 = y2 at *
        go_upto_region 8 with (fail)
        refine wp_region_F (S := (fun w' => Below w.heap.size w w')) [] (by kernel_rfl) (HB.out.drew) (fun hHeld => ?_)
        (try simp only [Act.put, List.getElem_toArray, List.getElem_cons_succ, List.getElem_cons_zero, List.setIfInBounds_toArray, List.set_cons_zero, List.set_cons_succ])
        refine wpAnyF_take (i := 0) (oi := _) (v := ?_) rfl (by kernel_rfl) (by kernel_rfl) (by kernel_rfl) (by kernel_rfl) (fun _ _ _ h => h) (Or.inl ⟨by rfl, ?_⟩) (by assumption) ?_
        rotate_left 1
        · intro w hSw
          have hg1 := HG1.out w
          have hg2 := HG2.out w
          (first | (go_simp; done) | (go_simp; with_reducible rfl))
        (try simp only [Act.put, List.getElem_toArray, List.getElem_cons_succ, List.getElem_cons_zero, List.setIfInBounds_toArray, List.set_cons_zero, List.set_cons_succ])
        refine wpAnyF_take (i := 1) (oi := _) (v := ?_) rfl (by kernel_rfl) (by kernel_rfl) (by kernel_rfl) (by kernel_rfl) (fun _ _ _ h => h) (Or.inl ⟨by rfl, ?_⟩) (by assumption) ?_
        rotate_left 1
        · intro w hSw
          have hg1 := HG1.out w
          have hg2 := HG2.out w
          (first | (go_simp; done) | (go_simp; with_reducible rfl))
        (try simp only [Act.put, List.getElem_toArray, List.getElem_cons_succ, List.getElem_cons_zero, List.setIfInBounds_toArray, List.set_cons_zero, List.set_cons_succ])
        refine wpAnyF_take (i := 2) (oi := _) (v := ?_) rfl (by kernel_rfl) (by kernel_rfl) (by kernel_rfl) (by kernel_rfl) (fun _ _ _ h => h) (Or.inl ⟨by rfl, ?_⟩) (by assumption) ?_
        rotate_left 1
        · intro w hSw
          have hg1 := HG1.out w
          have hg2 := HG2.out w
          (first | (go_simp; done) | (go_simp; with_reducible rfl))
        (try simp only [Act.put, List.getElem_toArray, List.getElem_cons_succ, List.getElem_cons_zero, List.setIfInBounds_toArray, List.set_cons_zero, List.set_cons_succ])
        refine wpAnyF_take (i := 3) (oi := _) (v := ?_) rfl (by kernel_rfl) (by kernel_rfl) (by kernel_rfl) (by kernel_rfl) (fun _ _ _ h => h) (Or.inl ⟨by rfl, ?_⟩) (by assumption) ?_
        rotate_left 1
        · intro w hSw
          have hg1 := HG1.out w
          have hg2 := HG2.out w
          (first | (go_simp; done) | (go_simp; with_reducible rfl))
        (try simp only [Act.put, List.getElem_toArray, List.getElem_cons_succ, List.getElem_cons_zero, List.setIfInBounds_toArray, List.set_cons_zero, List.set_cons_succ])
        refine wpAnyF_take (i := 4) (oi := _) (v := ?_) rfl (by kernel_rfl) (by kernel_rfl) (by kernel_rfl) (by kernel_rfl) (fun _ _ _ h => h) (Or.inl ⟨by rfl, ?_⟩) (by assumption) ?_
        rotate_left 1
        · intro w hSw
          have hg1 := HG1.out w
          have hg2 := HG2.out w
          (first | (go_simp; done) | (go_simp; with_reducible rfl))
        (try simp only [Act.put, List.getElem_toArray, List.getElem_cons_succ, List.getElem_cons_zero, List.setIfInBounds_toArray, List.set_cons_zero, List.set_cons_succ])
        refine wpAnyF_take (i := 5) (oi := _) (v := ?_) rfl (by kernel_rfl) (by kernel_rfl) (by kernel_rfl) (by kernel_rfl) (fun _ _ _ h => h) (Or.inl ⟨by rfl, ?_⟩) (by assumption) ?_
        rotate_left 1
        · intro w hSw
          have hg1 := HG1.out w
          have hg2 := HG2.out w
          (first | (go_simp; done) | (go_simp; with_reducible rfl))
        (try simp only [Act.put, List.getElem_toArray, List.getElem_cons_succ, List.getElem_cons_zero, List.setIfInBounds_toArray, List.set_cons_zero, List.set_cons_succ])
        refine wpAnyF_take (i := 6) (oi := _) (v := ?_) rfl (by kernel_rfl) (by kernel_rfl) (by kernel_rfl) (by kernel_rfl) (fun _ _ _ h => h) (Or.inl ⟨by rfl, ?_⟩) (by assumption) ?_
        rotate_left 1
        · intro w hSw
          have hg1 := HG1.out w
          have hg2 := HG2.out w
          (first | (go_simp; done) | (go_simp; with_reducible rfl))
        (try simp only [Act.put, List.getElem_toArray, List.getElem_cons_succ, List.getElem_cons_zero, List.setIfInBounds_toArray, List.set_cons_zero, List.set_cons_succ])
        refine wpAnyF_take (i := 7) (oi := _) (v := ?_) rfl (by kernel_rfl) (by kernel_rfl) (by kernel_rfl) (by kernel_rfl) (fun _ _ _ h => h) (Or.inl ⟨by rfl, ?_⟩) (by assumption) ?_
        rotate_left 1
        · intro w hSw
          have hg1 := HG1.out w
          have hg2 := HG2.out w
          (first | (go_simp; done) | (go_simp; with_reducible rfl))
        (try simp only [Act.put, List.getElem_toArray, List.getElem_cons_succ, List.getElem_cons_zero, List.setIfInBounds_toArray, List.set_cons_zero, List.set_cons_succ])
        refine wpAnyF_take (i := 8) (oi := _) (v := ?_) rfl (by kernel_rfl) (by kernel_rfl) (by kernel_rfl) (by kernel_rfl) (fun _ _ _ h => h) (Or.inl ⟨by rfl, ?_⟩) (by assumption) ?_
        rotate_left 1
        · intro w hSw
          have hg1 := HG1.out w
          have hg2 := HG2.out w
          (first | (go_simp; done) | (go_simp; with_reducible rfl))
        (try simp only [Act.put, List.getElem_toArray, List.getElem_cons_succ, List.getElem_cons_zero, List.setIfInBounds_toArray, List.set_cons_zero, List.set_cons_succ])
        refine wpAnyF_ready (rs := [9]) (by kernel_rfl) (by simp) ?_
        refine AllReadyF.cons (o := _) rfl (fun K hK => ?_) AllReadyF.nil
        have HO9 := Lib.hid ((HO.out.below (w' := wr.drew) ((Below.refl _ _).drew)).alloc (.cells #[.int .u8 (y1 : Int), .int .u8 (y2 : Int)] 5))
        have HB9 : Hid (Below w.heap.size w (wr.drew.alloc (.cells #[.int .u8 (y1 : Int), .int .u8 (y2 : Int)] 5))) := Lib.hid (HB.out.drew.alloc HB.out.size _)
        have HS9 := Lib.hid (two_bs (w := wr.drew) y1 y2 hs1 hs2)
        go_simp
        refine hK.out _ _ (HB9.out) (fun hHeld9 => ?_)
        clear hK K
        (try simp only [Act.put, List.getElem_toArray, List.getElem_cons_succ, List.getElem_cons_zero, List.setIfInBounds_toArray, List.set_cons_zero, List.set_cons_succ])
        refine wpAnyF_ready (rs := [10]) (by kernel_rfl) (by simp) ?_
        refine AllReadyF.cons (o := _) rfl (fun K hK => ?_) AllReadyF.nil
        refine step_appsL _ (.tmp 16) (.tmp 25) rfl w.heap.size v pre rfl HO9.out _ (some ⟨wr.heap.size, 0, none⟩) 2 2 [y1, y2] rfl HS9.out (by intro e; cases e) HLP.out HB9.out.size ?_
        intro v6 w6 ho6 hb6
        have HB6 := Lib.hid (HB9.out.trans hb6)
        have HF := Lib.hid (HNX.out v6 w6 ho6 HB6.out)
        clear ho6 hb6
        refine hK.out _ _ (HB6.out) (fun hHeld10 => ?_)
        clear hK K
        (try simp only [Act.put, List.getElem_toArray, List.getElem_cons_succ, List.getElem_cons_zero, List.setIfInBounds_toArray, List.set_cons_zero, List.set_cons_succ])
        refine wpAnyF_take (i := 11) (oi := _) (v := ?_) rfl (by kernel_rfl) (by kernel_rfl) (by kernel_rfl) (by kernel_rfl) (fun _ _ _ h => h) (Or.inl ⟨by rfl, ?_⟩) (by assumption) ?_
        rotate_left 1
        · intro w hSw
          (try dsimp only at hSw)
          (first | (go_simp; done) | (go_simp; with_reducible rfl))
        (try simp only [Act.put, List.getElem_toArray, List.getElem_cons_succ, List.getElem_cons_zero, List.setIfInBounds_toArray, List.set_cons_zero, List.set_cons_succ])
        refine wpAnyF_done (by kernel_rfl) ?_ _
        go_wp2_with fail
        go_roundw
        case rel => exact HF.out
        case measure => simp [intOf]; omega
      · obtain rfl : j = n := by omega
        rw [List.take_of_length_le (by rw [HLN.out]; omega)] at HO
        obtain ⟨AA, cA, hAA, hBA⟩ := HO.out.bs (hexP_byte HBY.out)
        have hc := conv_at hBA
        have HF : Hid (GivesS w (hexP b) (.returned (.string (str (hexP b)))) wr) := Lib.hid ⟨rfl, HB.out⟩
        subst hAA
        clear hBA
        generalize (hexP b).length = nn at *
        generalize str (hexP b) = S at *
        go_wp2_with fail
        go_ret
        exact HF.out
end
end Go.Proofs.YtcaogiaoabdkdaaDoor
