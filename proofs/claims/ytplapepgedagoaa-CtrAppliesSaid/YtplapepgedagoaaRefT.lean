/-
  The document's own table of the box.
-/
import Derived.Test.YtplapepgedagoaaRefG
import Derived.Test.YtplapepgedagoaaVal
import Derived.Test.YtplapepgedagoaaCls
import Derived.Test.YtplapepgedagoaaCut
import Derived.Laws.CopyOwn
import Derived.Laws.Rows
import Derived.Laws.Tables
import Derived.Deep.RegionHeld3
namespace Go.Proofs.Ytplapepgedagoaa
set_option linter.unusedVariables false
set_option linter.unusedSimpArgs false
open Go.RowKit Go
attribute [local irreducible] Gf.inv Gf.tm Gf.pw Gf.spread Gf.sub Gf.boxAt Gf.bk Gf.rm Gf.bit
def subF (n : Nat) (i : Nat) : Value := .int .u8 ((if i < n then Gf.sub i else 0 : Nat) : Int)
def z256 (i : Nat) : Value := .int .u8 0
theorem subF_zero : rowV z256 256 = rowV (subF 0) 256 := rowV_congr fun i _ => by unfold z256 subF; rw [if_neg (by omega)]; rfl
theorem zero256 (w : World) : (zeroValue 37).run Try.prog w = .ok (.agg (rowV z256 256)) w := by kernel_rfl
theorem subF_step {w : World} {g n : Nat} (hn : n < 256) (h : Row w g 37 (subF n) 256) : Row (w.setCell ⟨g, n, none⟩ (.int .u8 ((Gf.sub n : Nat) : Int))) g 37 (subF (n + 1)) 256 := by
  have h1 := h.set_ n (.int .u8 ((Gf.sub n : Nat) : Int))
  have e : rowV (fun i => if i = n then (.int .u8 ((Gf.sub n : Nat) : Int) : Value) else subF n i) 256 = rowV (subF (n + 1)) 256 := rowV_congr fun i hi => by
    unfold subF
    by_cases c : i = n
    · subst c; rw [if_pos rfl, if_pos (by omega)]
    · rw [if_neg c]
      by_cases d : i < n
      · rw [if_pos d, if_pos (by omega)]
      · rw [if_neg d, if_neg (by omega)]
  unfold Row at h1 ⊢
  rw [← e]
  exact h1
/-- n places are filled; the other table holds whatever it holds -/
def TabRel (w : World) (k : Value) (wr : World) : Prop :=
  ∃ n : Nat, k = .int .i64 (n : Int) ∧ n ≤ 256 ∧ Below w.heap.size w wr ∧ Row wr w.heap.size 37 z256 256 ∧ Row wr (w.heap.size + 1) 37 z256 256 ∧ Row wr (w.heap.size + 1 + 1) 37 (subF n) 256 ∧ ∃ f : Nat → Nat, Row wr (w.heap.size + 1 + 1 + 1) 37 (fun i => .int .u8 ((f i : Nat) : Int)) 256
theorem tab_start (w : World) : TabRel w (.int .i64 0) ((((w.alloc (.cells (rowV z256 256) 37)).alloc (.cells (rowV z256 256) 37)).alloc (.cells (rowV z256 256) 37)).alloc (.cells (rowV z256 256) 37)) := by
  have e1 : ∀ o, (w.alloc o).heap.size = w.heap.size + 1 := fun o => by simp
  have e2 : ∀ o o', ((w.alloc o).alloc o').heap.size = w.heap.size + 1 + 1 := fun o o' => by simp
  have e3 : ∀ o o' o'', (((w.alloc o).alloc o').alloc o'').heap.size = w.heap.size + 1 + 1 + 1 := fun o o' o'' => by simp
  refine ⟨0, rfl, by omega, ((((Below.refl _ _).alloc (Nat.le_refl _) _).alloc (by rw [e1]; omega) _).alloc (by rw [e2]; omega) _).alloc (by rw [e3]; omega) _, ?_, ?_, ?_, fun _ => 0, ?_⟩
  · exact blk_alloc (blk_alloc (blk_alloc (heap_alloc_new w _) _) _) _
  · have h := heap_alloc_new (w.alloc (.cells (rowV z256 256) 37)) (.cells (rowV z256 256) 37)
    rw [e1] at h
    exact blk_alloc (blk_alloc h _) _
  · have h := heap_alloc_new ((w.alloc (.cells (rowV z256 256) 37)).alloc (.cells (rowV z256 256) 37)) (.cells (rowV z256 256) 37)
    rw [e2] at h
    unfold Row
    rw [← subF_zero]
    exact blk_alloc h _
  · have h := heap_alloc_new (((w.alloc (.cells (rowV z256 256) 37)).alloc (.cells (rowV z256 256) 37)).alloc (.cells (rowV z256 256) 37)) (.cells (rowV z256 256) 37)
    rw [e3] at h
    exact h
theorem tab_step {w wr : World} {n s : Nat} {f : Nat → Nat} (hn : n < 256) (hs : Gf.sub n = s) (hb : Below w.heap.size w wr) (h0 : Row wr w.heap.size 37 z256 256) (h1 : Row wr (w.heap.size + 1) 37 z256 256) (h2 : Row wr (w.heap.size + 1 + 1) 37 (subF n) 256)
    (h3 : Row wr (w.heap.size + 1 + 1 + 1) 37 (fun i => .int .u8 ((f i : Nat) : Int)) 256) :
    TabRel w (.int .i64 ((n : Int) + 1)) ((wr.setCell ⟨w.heap.size + 1 + 1, n, none⟩ (.int .u8 (s : Int))).setCell ⟨w.heap.size + 1 + 1 + 1, s, none⟩ (.int .u8 (n : Int))) := by
  subst hs
  have hx : Below w.heap.size w ((wr.setCell ⟨w.heap.size + 1 + 1, n, none⟩ (.int .u8 ((Gf.sub n : Nat) : Int))).setCell ⟨w.heap.size + 1 + 1 + 1, Gf.sub n, none⟩ (.int .u8 (n : Int))) := (hb.setCell (show w.heap.size ≤ w.heap.size + 1 + 1 by omega) _).setCell (show w.heap.size ≤ w.heap.size + 1 + 1 + 1 by omega) _
  have g : ∀ (X : World) (a k : Nat) (v : Value) (b : Nat) (t : TypeId) (h : Nat → Value), b ≠ a → Row X b t h 256 → Row (X.setCell ⟨a, k, none⟩ v) b t h 256 := fun X a k v b t h hne hr => Row.far hr hne v
  refine ⟨n + 1, rfl, by omega, hx, g _ _ _ _ _ _ _ (by omega) (g _ _ _ _ _ _ _ (by omega) h0), g _ _ _ _ _ _ _ (by omega) (g _ _ _ _ _ _ _ (by omega) h1), g _ _ _ _ _ _ _ (by omega) (subF_step hn h2), fun i => if i = Gf.sub n then n else f i, ?_⟩
  have h := (g _ (w.heap.size + 1 + 1) n (.int .u8 ((Gf.sub n : Nat) : Int)) _ _ _ (by omega) h3).set_ (Gf.sub n) (.int .u8 (n : Int))
  have e : rowV (fun i => if i = Gf.sub n then (.int .u8 (n : Int) : Value) else .int .u8 ((f i : Nat) : Int)) 256 = rowV (fun i => .int .u8 (((if i = Gf.sub n then n else f i) : Nat) : Int)) 256 := rowV_congr fun i _ => by
    by_cases c : i = Gf.sub n
    · rw [if_pos c, if_pos c]
    · rw [if_neg c, if_neg c]
  unfold Row at h ⊢
  rw [← e]
  exact h
theorem int_row (f : Nat → Nat) : (rowV (fun i => .int .u8 ((f i : Nat) : Int)) 256).all (·.oneCell') = true := by
  rw [Array.all_eq_true]
  intro i hi
  have h := rowV_at (fun i => .int .u8 ((f i : Nat) : Int)) (n := 256) (i := i) (by rw [rowV_size] at hi; exact hi)
  rw [Array.getElem?_eq_getElem hi] at h
  rw [Option.some.inj h]
  rfl
theorem results_two_rows {P : Program} {fn : Func} {p q : Tmp} {ty : TypeId} (h : fn.results = #[.cell p ty, .cell q ty]) (tmps : Array Value) (w : World) (g g2 : Nat) (t t2 : TypeId) (cs cs2 : Array Value) (fr fr2 : Nat × Nat) (d : TypeDesc)
    (hp : tmps.getD p undef = .pointer (some ⟨g, 0, none⟩)) (hq : tmps.getD q undef = .pointer (some ⟨g2, 0, none⟩)) (hg : w.heap[g]? = some (.cells cs t fr)) (hg2 : w.heap[g2]? = some (.cells cs2 t2 fr2))
    (hu : P.underlying ty = some d) (hd : (match d with | .struct _ | .array _ _ => true | _ => false) = true) (hi : (P.info? ty).map (·.size) = some cs.size) (hi2 : (P.info? ty).map (·.size) = some cs2.size) :
    (results fn tmps).run P w = .ok (.tuple #[.agg cs, .agg cs2]) w := by
  have hp' : tmps[p]?.getD undef = .pointer (some ⟨g, 0, none⟩) := by simpa using hp
  have hq' : tmps[q]?.getD undef = .pointer (some ⟨g2, 0, none⟩) := by simpa using hq
  simp [results, h, hp', hq', asAddr, run_loadVar_row w g t ty cs fr d hg hu hd hi, run_loadVar_row w g2 t2 ty cs2 fr2 d hg2 hu hd hi2]
set_option maxHeartbeats 1000000 in
set_option maxRecDepth 100000 in
theorem refTable_any (w : World) :
    Calls Try.prog 47 #[] w fun e w' => ∃ f, e = .returned (.tuple #[.agg (rowV (subF 256) 256), .agg (rowV f 256)]) ∧ Below w.heap.size w w' := by
  have hz := zero256
  have H0 := Lib.hid (tab_start w)
  generalize rowV z256 256 = zz at *
  go_enter Try.func47, Try.ntmps47
  go_wp2
  clear hz
  go_loopw [4] (fun k wr => TabRel w k wr) (fun k _ => (256 - intOf k).toNat)
  case atStart => exact H0.out
  case round =>
    obtain ⟨n, rfl, hn, hb, h0, h1, h2, f, h3⟩ := hrel
    clear H0
    by_cases hlt : n < 256
    · have hsl := Gf.sub_lt hlt
      have HT := Lib.hid (tab_step hlt rfl hb h0 h1 h2 h3)
      have HF2 := Lib.hid (subF_step hlt h2)
      have c2 : wr.cell? ⟨w.heap.size + 1 + 1, n, none⟩ = some _ := h2.cell hlt
      have f2 := h2.free n
      have c3 : ∀ v, (wr.setCell ⟨w.heap.size + 1 + 1, n, none⟩ v).cell? ⟨w.heap.size + 1 + 1 + 1, Gf.sub n, none⟩ = some (.int .u8 ((f (Gf.sub n) : Nat) : Int)) := fun v => Row.cell (f := fun i => .int .u8 ((f i : Nat) : Int)) (n := 256) (Row.far h3 (show w.heap.size + 1 + 1 + 1 ≠ w.heap.size + 1 + 1 by omega) v) hsl
      have f3 : ∀ v, (wr.setCell ⟨w.heap.size + 1 + 1, n, none⟩ v).frozen? ⟨w.heap.size + 1 + 1 + 1, Gf.sub n, none⟩ = false := fun v => Row.free (f := fun i => .int .u8 ((f i : Nat) : Int)) (n := 256) (Row.far h3 (show w.heap.size + 1 + 1 + 1 ≠ w.heap.size + 1 + 1 by omega) v) _
      have c2' : (wr.setCell ⟨w.heap.size + 1 + 1, n, none⟩ (.int .u8 ((Gf.sub n : Nat) : Int))).cell? ⟨w.heap.size + 1 + 1, n, none⟩ = some (.int .u8 ((Gf.sub n : Nat) : Int)) := by
        have := Row.cell HF2.out hlt
        rw [this]; unfold subF; rw [if_pos (by omega)]
      have HS := Lib.hid (fun W => refSub_any n hlt W)
      clear h0 h1 h2 h3 hb HF2
      generalize Gf.sub n = s at *
      generalize subF n n = old at c2
      go_wp2_with (go_at_call 72; refine (HS.out _).mono ?_; rintro e w' ⟨rfl, rfl⟩)
      go_roundw
      case rel => exact HT.out
      case measure => simp [intOf]; omega
    · obtain rfl : n = 256 := by omega
      obtain ⟨ca, hca, hla⟩ : ∃ ca : List Value, ca.toArray = rowV (subF 256) 256 ∧ ca.length = 256 := ⟨(rowV (subF 256) 256).toList, by simp, by simp [rowV_size]⟩
      obtain ⟨cb, hcb, hlb⟩ : ∃ cb : List Value, cb.toArray = rowV (fun i => .int .u8 ((f i : Nat) : Int)) 256 ∧ cb.length = 256 := ⟨(rowV (fun i => .int .u8 ((f i : Nat) : Int)) 256).toList, by simp, by simp [rowV_size]⟩
      have HCA := Lib.hid hca
      have HCB := Lib.hid hcb
      have hia : (Try.prog.info? 37).map (·.size) = some ca.length := by rw [hla]; kernel_rfl
      have hib : (Try.prog.info? 37).map (·.size) = some cb.length := by rw [hlb]; kernel_rfl
      have hu := Try.underlying37
      have H0' := Lib.hid h0
      have H1' := Lib.hid h1
      have HB := Lib.hid hb
      have hS : Row wr.drew (w.heap.size + 1 + 1) 37 (subF 256) 256 ∧ Row wr.drew (w.heap.size + 1 + 1 + 1) 37 (fun i => .int .u8 ((f i : Nat) : Int)) 256 := ⟨h2, h3⟩
      have hiA : (Try.prog.info? 37).map (·.size) = some ca.toArray.size := by rw [List.size_toArray, hla]; kernel_rfl
      have hiB : (Try.prog.info? 37).map (·.size) = some cb.toArray.size := by rw [List.size_toArray, hlb]; kernel_rfl
      have hoA : (rowV z256 256).size = ca.toArray.size := by rw [hca, rowV_size, rowV_size]
      have hoB : (rowV z256 256).size = cb.toArray.size := by rw [hcb, rowV_size, rowV_size]
      have hcA : ca.toArray.all (·.oneCell') = true := by rw [hca]; exact int_row (fun i => (if i < 256 then Gf.sub i else 0 : Nat))
      have hcB : cb.toArray.all (·.oneCell') = true := by rw [hcb]; exact int_row f
      have g1 := only_setRow wr.drew w.heap.size ca.toArray
      have g2 := only_setRow (wr.drew.setRow w.heap.size ca.toArray) (w.heap.size + 1) cb.toArray
      have q1 : ∀ k t h, k ≠ w.heap.size → Row wr k t h 256 → Row (wr.drew.setRow w.heap.size ca.toArray) k t h 256 := fun k t h hne hr => (g1.block k hr.lt (fun e => hne (Option.some.inj e))).trans hr
      have q2 : ∀ k t h, k ≠ w.heap.size + 1 → Row (wr.drew.setRow w.heap.size ca.toArray) k t h 256 → Row ((wr.drew.setRow w.heap.size ca.toArray).setRow (w.heap.size + 1) cb.toArray) k t h 256 := fun k t h hne hr => (g2.block k hr.lt (fun e => hne (Option.some.inj e))).trans hr
      have r2 := q1 _ _ _ (by omega) h2
      have r3 := q1 _ _ _ (by omega) h3
      have r1 := q1 _ _ _ (by omega) h1
      have HS1 := Lib.hid (And.intro r2 r3)
      have HS2 := Lib.hid (And.intro (q2 _ _ _ (by omega) r2) (q2 _ _ _ (by omega) r3))
      have HR1 := Lib.hid r1
      have e0 := setRow_heap wr.drew w.heap.size _ ca.toArray _ _ h0
      have e1 := setRow_heap (wr.drew.setRow w.heap.size ca.toArray) (w.heap.size + 1) _ cb.toArray _ _ r1
      have e0' := (g2.block w.heap.size (blk_lt e0) (fun e => absurd (Option.some.inj e) (by omega))).trans e0
      have HE0 := Lib.hid e0'
      have HE1 := Lib.hid e1
      have HBE := Lib.hid (below_setRow (below_setRow hb.drew (Nat.le_refl _) ca.toArray) (Nat.le_succ _) cb.toArray)
      clear hca hcb h0 h1 hb g1 g2 q1 q2 r1 r2 r3 e0 e1 e0'
      go_wp2_with fail
      refine wp_region_held_drew (S := fun W => Row W (w.heap.size + 1 + 1) 37 (subF 256) 256 ∧ Row W (w.heap.size + 1 + 1 + 1) 37 (fun i => .int .u8 ((f i : Nat) : Int)) 256) (by kernel_rfl) hS (fun hHeld => ?_)
      refine' wpAnyH_take (i := 0) (oi := _) (v := _) rfl (by kernel_rfl) (by kernel_rfl) (by kernel_rfl) (fun _ _ _ h => h) (yieldsIf_load_mid (by rfl) _ _ rfl _ _ rfl ca _ (fun W h => row_range h.1 HCA.out) hu rfl hia) (by assumption) ?_
      (try simp only [Act.put, List.getElem_toArray, List.getElem_cons_succ, List.getElem_cons_zero, List.setIfInBounds_toArray, List.set_cons_zero, List.set_cons_succ])
      refine' wpAnyH_take (i := 1) (oi := _) (v := _) rfl (by kernel_rfl) (by kernel_rfl) (by kernel_rfl) (fun _ _ _ h => h) (yieldsIf_load_mid (by rfl) _ _ rfl _ _ rfl cb _ (fun W h => row_range h.2 HCB.out) hu rfl hib) (by assumption) ?_
      (try simp only [Act.put, List.getElem_toArray, List.getElem_cons_succ, List.getElem_cons_zero, List.setIfInBounds_toArray, List.set_cons_zero, List.set_cons_succ])
      refine wpAnyH_ready (rs := [2]) (by kernel_rfl) (by simp) ?_
      refine AllReadyH.cons (o := _) rfl (fun K hK => ?_) AllReadyH.nil
      rw [if_pos (by rfl)]
      refine wp_store_row 37 (.tmp 0) (.tmp 20) rfl w.heap.size ca.toArray rfl rfl 37 _ H0'.out hiA hoA hcA ?_
      refine hK.out _ _ HS1.out (fun hHeld2 => ?_)
      clear hK K
      (try simp only [Act.put, List.getElem_toArray, List.getElem_cons_succ, List.getElem_cons_zero, List.setIfInBounds_toArray, List.set_cons_zero, List.set_cons_succ])
      refine wpAnyH_ready (rs := [3]) (by kernel_rfl) (by simp) ?_
      refine AllReadyH.cons (o := _) rfl (fun K hK => ?_) AllReadyH.nil
      rw [if_pos (by rfl)]
      refine wp_store_row 37 (.tmp 1) (.tmp 21) rfl (w.heap.size + 1) cb.toArray rfl rfl 37 _ HR1.out hiB hoB hcB ?_
      refine hK.out _ _ HS2.out (fun hHeld3 => ?_)
      clear hK K
      (try simp only [Act.put, List.getElem_toArray, List.getElem_cons_succ, List.getElem_cons_zero, List.setIfInBounds_toArray, List.set_cons_zero, List.set_cons_succ])
      refine wpAnyH_done (by kernel_rfl) ?_ _
      go_wp2
      refine bodyPost_ret (v := .tuple #[.agg ca.toArray, .agg cb.toArray]) (results_two_rows rfl _ _ w.heap.size (w.heap.size + 1) 37 37 _ _ (0, 0) (0, 0) _ rfl rfl HE0.out HE1.out hu rfl hiA hiB) rfl ⟨_, by rw [HCA.out, HCB.out], HBE.out⟩
end Go.Proofs.Ytplapepgedagoaa
