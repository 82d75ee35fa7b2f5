/-
  Heads of roots: Parse.
-/
import Derived.Test.YtfnppoagmambgaaHoE
namespace Go.Proofs.Ytfnppoagmambgaa
open Go.RowKit Go
set_option linter.unusedVariables false
set_option linter.unusedSimpArgs false
set_option maxRecDepth 100000
/-- are these bytes a head's block? -/
def IsHead (b : List Nat) : Prop := b.length = 256 ∧ (rdL b = zl17 ∨ RMay (rdL b)) ∧ headL (rdL b) = b
def one17 : List Nat := 1 :: zl17.tail
/-- what Parse tells: v, and the error -/
def ParseIs (b : List Nat) (v : List Nat) (er : Int) : Prop :=
  (¬ IsHead b ∧ v = zl17 ∧ er = 4) ∨ (IsHead b ∧ rdL b = zl17 ∧ v = one17 ∧ er = 0) ∨ (IsHead b ∧ ¬ rdL b = zl17 ∧ v = rdL b ∧ er = 0)
theorem one_row17 {w : World} {s : Nat} {t : TypeId} (h : Row w s t (uF zl17) 17) : Row (w.setCell ⟨s, 0, none⟩ (.int .u64 1)) s t (uF one17) 17 := by
  refine (h.set_ 0 _).congr fun i hi => ?_
  by_cases e : i = 0
  · subst e; rw [if_pos rfl]; rfl
  · rw [if_neg e]
    unfold uF one17
    rw [show i = (i - 1) + 1 by omega, List.getD_cons_succ, zl17_at]
    have : zl17.tail.getD (i - 1) 0 = 0 := by
      unfold zl17
      rw [List.tail_replicate, List.getD_eq_getElem?_getD, List.getElem?_replicate]
      split <;> rfl
    rw [this]
theorem results_row_tmp {P : Program} {fn : Func} {p u : Tmp} {ty : TypeId} (h : fn.results = #[.cell p ty, .tmp u]) (tmps : Array Value) (w : World) (g : Nat) (t : TypeId) (cs : Array Value) (fr : Nat × Nat) (d : TypeDesc)
    (v2 : Value) (hp : tmps.getD p undef = .pointer (some ⟨g, 0, none⟩)) (hv2 : tmps.getD u undef = v2) (hg : w.heap[g]? = some (.cells cs t fr))
    (hu : P.underlying ty = some d) (hd : (match d with | .struct _ | .array _ _ => true | _ => false) = true) (hi : (P.info? ty).map (·.size) = some cs.size) :
    (results fn tmps).run P w = .ok (.tuple #[.agg cs, v2]) w := by
  subst hv2
  have hp' : tmps[p]?.getD undef = .pointer (some ⟨g, 0, none⟩) := by simpa using hp
  simp [results, h, hp', asAddr, run_loadVar_row w g t ty cs fr d hg hu hd hi, Sem.run_bind, Result.andThen]
def HParseTo (w : World) (v : List Nat) (er : Int) (e : Ending) (w' : World) : Prop := e = .returned (.tuple #[.agg (rtV v), .int .i64 er]) ∧ Below w.heap.size w w'
set_option maxHeartbeats 2000000 in
theorem hparse_any (A : Option Addr) (n c : Nat) (b v : List Nat) (er : Int) (w : World) (hs : BS w w.heap.size A n c b) (hn : n ≤ 1000) (hv : ParseIs b v er) :
    Calls Try.prog 16 #[.slice A n c] w (HParseTo w v er) := by
  have hz := zero_rth
  obtain ⟨V, hV⟩ : ∃ V, V = w.alloc (.cells (rtV zl17) 45) := ⟨_, rfl⟩
  have hbV : Below w.heap.size w V := by rw [hV]; exact (Below.refl _ _).alloc (Nat.le_refl _) _
  have v1 : Row V w.heap.size 45 (uF zl17) 17 := by rw [hV]; exact Row.new w _ _ _
  have hsV : BS V V.heap.size A n c b := (hs.below hbV).more hbV.size
  have HS := Lib.hid hsV
  have HBV := Lib.hid hbV
  have HR0 := Lib.hid v1
  have HV := Lib.hid hV
  have HOF := Lib.hid (of_any A n c b V hsV hn)
  have HRD := Lib.hid (fun g W h => read_any g b W h)
  have HBY := Lib.hid hs.byte
  have HVL : Hid (ParseIs b v er) := Lib.hid hv
  have HIZ := Lib.hid (info_rth zl17)
  have HIR := Lib.hid (info_rth (rdL b))
  have HSL : Hid ((rtV zl17).size = (rtV (rdL b)).size) := Lib.hid (by rw [rowV_size, rowV_size])
  have HONE := Lib.hid (rt_one (rdL b))
  have HONZ := Lib.hid (rt_one zl17)
  have HQ := Lib.hid (fun W => eq_h (rdL b) zl17 (rdL_len b) (by simp [zl17]) W)
  have HYES := Lib.hid (fun h W => hhead_yes (rdL b) (rdL_len b) (rdL_64 hs.byte) h W)
  have HNO := Lib.hid (fun h1 h2 W => hhead_no (rdL b) (rdL_len b) (rdL_64 hs.byte) h1 h2 W)
  have HLB := Lib.hid hs.len
  clear hV hbV v1 hsV hs hv
  obtain ⟨zz, hzz⟩ : ∃ z, z = rtV zl17 := ⟨_, rfl⟩
  obtain ⟨rt, hrt⟩ : ∃ z, z = rtV (rdL b) := ⟨_, rfl⟩
  rw [← hzz] at hz HV HIZ HSL HONZ HQ
  rw [← hrt] at HRD HIR HSL HONE HQ HYES HNO
  have HZ := Lib.hid hzz
  have HRT := Lib.hid hrt
  have hzs : zz.size = 17 := by rw [hzz, rowV_size]
  clear hzz hrt
  go_enter Try.func16, Try.ntmps16
  go_wp2_with fail
  rw [← HV.out]
  refine HOF.out.mono ?_
  rintro e w1 ⟨g, rfl, hgV, hb1, hst⟩
  go_wp2_with fail
  refine (HRD.out g w1 hst).mono ?_
  rintro e w2 ⟨rfl, hg2⟩
  have hb2 : Below V.heap.size V w2 := below_only hb1 hgV hb1.size hg2
  have HB2 := Lib.hid (HBV.out.trans (hb2.mono HBV.out.size))
  have HS2 := Lib.hid ((HS.out.below hb2).more hb2.size)
  have HR2 : Hid (Row w2 w.heap.size 45 (uF zl17) 17) := Lib.hid (HR0.out.below hb2 HR0.out.lt)
  have hs2 : w.heap.size < w2.heap.size := HR2.out.lt
  obtain ⟨W3, hW3⟩ : ∃ W3, W3 = (w2.alloc (.cells zz 45)).setRow w2.heap.size rt := ⟨_, rfl⟩
  have hb3 : Below w2.heap.size w2 W3 := by rw [hW3]; exact below_setRow ((Below.refl _ _).alloc (Nat.le_refl _) _) (Nat.le_refl _) _
  have h3 := heap_alloc_new w2 (.cells zz 45)
  have hr3 : Row W3 w2.heap.size 45 (uF (rdL b)) 17 := by
    have := setRow_heap _ _ _ rt _ _ h3
    rw [← hW3, HRT.out] at this
    exact this
  have HB3 := Lib.hid (HB2.out.trans (hb3.mono HB2.out.size))
  have HS3 := Lib.hid ((HS2.out.below hb3).more hb3.size)
  have HR3 : Hid (Row W3 w.heap.size 45 (uF zl17) 17) := Lib.hid (HR2.out.below hb3 hs2)
  have HX3 := Lib.hid hr3
  have HXA : Hid (W3.heap[w2.heap.size]? = some (.cells rt 45 (0, 0))) := Lib.hid (by rw [HRT.out]; exact hr3)
  have HSW : Hid (w.heap.size < w2.heap.size) := Lib.hid hs2
  have H3 := Lib.hid h3
  have HWE := Lib.hid hW3
  clear hst hgV hb1 hg2 hb2 hs2 hb3 h3 hr3 hW3
  go_wp2_with (first
    | (with_reducible refine wpList_store_row rfl 45 (.tmp 4) (.tmp 10) rfl _ _ rfl rfl 45 _ H3.out HIR.out HSL.out HONE.out ?_)
    | (with_reducible refine wpList_load_row rfl 45 (.tmp 4) rfl _ rfl 45 _ _ _ (by rw [← HWE.out]; exact HXA.out) Try.underlying45 rfl HIR.out ?_))
  rw [← HWE.out]
  generalize w2.heap.size = s at *
  clear H3 HWE HB2 HS2 HR2 HBV HR0 HS HV HOF HRD
  by_cases hmay : rdL b = zl17 ∨ RMay (rdL b)
  · have HY := Lib.hid (fun W => HYES.out hmay W)
    have HMAY := Lib.hid hmay
    clear hmay
    refine (HY.out _).mono ?_
    rintro e w4 ⟨A4, c4, rfl, hb, hbs4⟩
    have HB4 := Lib.hid (HB3.out.trans (hb.mono HB3.out.size))
    have HRX : Hid (w4.heap[w.heap.size]? = some (.cells zz 45 (0, 0))) := Lib.hid (by rw [HZ.out]; exact HR3.out.below hb HR3.out.lt)
    have HX4 : Hid (Row w4 s 45 (uF (rdL b)) 17) := Lib.hid (HX3.out.below hb HX3.out.lt)
    have HXA4 : Hid (w4.heap[s]? = some (.cells rt 45 (0, 0))) := Lib.hid (by rw [HRT.out]; exact HX4.out)
    have HSB := Lib.hid (same_any A4 A 256 c4 n c w4.heap.size (headL (rdL b)) b w4 hbs4 ((HS3.out.below hb).more hb.size))
    have HSI : Hid (sameB (headL (rdL b)) b = true ↔ headL (rdL b) = b) := Lib.hid (sameB_iff (headL_byte _) HBY.out)
    clear hb hbs4
    cases hsame : sameB (headL (rdL b)) b
    · rw [hsame] at HSB
      have HVV : Hid (v = zl17 ∧ er = 4) := Lib.hid (by
        have hne : ¬ headL (rdL b) = b := fun h => by have := HSI.out.mpr h; rw [hsame] at this; cases this
        rcases HVL.out with ⟨_, h1, h2⟩ | ⟨h, _⟩ | ⟨h, _⟩
        · exact ⟨h1, h2⟩
        · exact absurd h.2.2 hne
        · exact absurd h.2.2 hne)
      clear hsame
      go_wp2_with fail
      refine HSB.out.mono ?_
      rintro e w' ⟨rfl, rfl⟩
      have HF := Lib.hid (setRow_heap _ _ _ zz _ _ HRX.out)
      have HBF : Hid (Below w.heap.size w (w4.setRow w.heap.size zz)) := Lib.hid (below_setRow HB4.out (Nat.le_refl _) _)
      go_wp2_with (with_reducible refine wpList_store_row rfl 45 (.tmp 2) (.tmp 24) rfl _ _ rfl rfl 45 _ HRX.out HIZ.out rfl HONZ.out ?_)
      exact bodyPost_ret (v := .tuple #[.agg zz, .int .i64 4]) (results_row_tmp rfl _ _ _ 45 _ (0, 0) _ _ rfl rfl HF.out Try.underlying45 rfl HIZ.out) rfl ⟨by rw [HVV.out.1, HVV.out.2, HZ.out], HBF.out⟩
    · rw [hsame] at HSB
      have HHD : Hid (IsHead b) := Lib.hid ⟨by have := HSI.out.mp hsame; rw [← this]; exact headL_len _, HMAY.out, HSI.out.mp hsame⟩
      have hq := HQ.out
      by_cases hzl : rdL b = zl17
      · rw [decide_eq_true hzl] at hq
        have HVV : Hid (v = one17 ∧ er = 0) := Lib.hid (by
          rcases HVL.out with ⟨h, _⟩ | ⟨_, _, h1, h2⟩ | ⟨_, h, _⟩
          · exact absurd HHD.out h
          · exact ⟨h1, h2⟩
          · exact absurd hzl h)
        have hx4 := HX4.out
        rw [hzl] at hx4
        have HO := Lib.hid (one_row17 hx4)
        have hc := hx4.cell (i := 0) (by omega)
        have hfz := hx4.free 0
        obtain ⟨old, hold⟩ : ∃ z, z = uF zl17 0 := ⟨_, rfl⟩
        rw [← hold] at hc
        obtain ⟨W5, hW5⟩ : ∃ W5, W5 = w4.setCell ⟨s, 0, none⟩ (.int .u64 1) := ⟨_, rfl⟩
        have HOB : Hid (W5.heap[s]? = some (.cells (rtV one17) 45 (0, 0))) := Lib.hid (by rw [hW5]; exact HO.out)
        have HRZ : Hid (W5.heap[w.heap.size]? = some (.cells zz 45 (0, 0))) := Lib.hid (by rw [hW5]; exact blk_far HRX.out (p := ⟨s, 0, none⟩) (by have := HSW.out; simp; omega) _)
        have HB5 : Hid (Below w.heap.size w W5) := Lib.hid (by rw [hW5]; exact HB4.out.setCell (p := ⟨s, 0, none⟩) (Nat.le_of_lt HSW.out) _)
        have HF := Lib.hid (setRow_heap _ _ _ (rtV one17) _ _ HRZ.out)
        have HBF : Hid (Below w.heap.size w (W5.setRow w.heap.size (rtV one17))) := Lib.hid (below_setRow HB5.out (Nat.le_refl _) _)
        have HIO := Lib.hid (info_rth one17)
        have HONO := Lib.hid (rt_one one17)
        have HSO : Hid (zz.size = (rtV one17).size) := Lib.hid (by rw [HZ.out, rowV_size, rowV_size])
        have HWE := Lib.hid hW5
        obtain ⟨oo, hoo⟩ : ∃ z, z = rtV one17 := ⟨_, rfl⟩
        rw [← hoo] at HOB HF HBF HIO HONO HSO
        have HOO := Lib.hid hoo
        clear hsame hzl hx4 hold hW5 hoo
        go_wp2_with fail
        refine HSB.out.mono ?_
        rintro e w' ⟨rfl, rfl⟩
        go_wp2_with (first
          | (with_reducible refine wpList_load_row rfl 45 (.tmp 4) rfl _ rfl 45 _ _ _ HXA4.out Try.underlying45 rfl HIR.out ?_)
          | (rw [← HWE.out]; with_reducible refine wpList_load_row rfl 45 (.tmp 4) rfl _ rfl 45 _ _ _ HOB.out Try.underlying45 rfl HIO.out ?_)
          | (with_reducible refine wpList_store_row rfl 45 (.tmp 2) (.tmp 29) rfl _ _ rfl rfl 45 _ HRZ.out HIO.out HSO.out HONO.out ?_))
        exact bodyPost_ret (v := .tuple #[.agg oo, .int .i64 0]) (results_row_tmp rfl _ _ _ 45 _ (0, 0) _ _ rfl rfl HF.out Try.underlying45 rfl HIO.out) rfl ⟨by rw [HVV.out.1, HVV.out.2, HOO.out], HBF.out⟩
      · rw [decide_eq_false hzl] at hq
        have HVV : Hid (v = rdL b ∧ er = 0) := Lib.hid (by
          rcases HVL.out with ⟨h, _⟩ | ⟨_, h, _⟩ | ⟨_, _, h1, h2⟩
          · exact absurd HHD.out h
          · exact absurd h hzl
          · exact ⟨h1, h2⟩)
        have HF := Lib.hid (setRow_heap _ _ _ rt _ _ HRX.out)
        have HBF : Hid (Below w.heap.size w (w4.setRow w.heap.size rt)) := Lib.hid (below_setRow HB4.out (Nat.le_refl _) _)
        clear hsame hzl
        go_wp2_with fail
        refine HSB.out.mono ?_
        rintro e w' ⟨rfl, rfl⟩
        go_wp2_with (first
          | (with_reducible refine wpList_load_row rfl 45 (.tmp 4) rfl _ rfl 45 _ _ _ HXA4.out Try.underlying45 rfl HIR.out ?_)
          | (with_reducible refine wpList_store_row rfl 45 (.tmp 2) (.tmp 29) rfl _ _ rfl rfl 45 _ HRX.out HIR.out HSL.out HONE.out ?_))
        exact bodyPost_ret (v := .tuple #[.agg rt, .int .i64 0]) (results_row_tmp rfl _ _ _ 45 _ (0, 0) _ _ rfl rfl HF.out Try.underlying45 rfl HIR.out) rfl ⟨by rw [HVV.out.1, HVV.out.2, HRT.out], HBF.out⟩
  · have hnz : ¬ rdL b = zl17 := fun h => hmay (.inl h)
    have hnm : ¬ RMay (rdL b) := fun h => hmay (.inr h)
    have HN := Lib.hid (fun W => HNO.out hnz hnm W)
    have HVV : Hid (v = zl17 ∧ er = 4) := Lib.hid (by rcases HVL.out with ⟨_, h1, h2⟩ | ⟨h, _⟩ | ⟨h, _⟩; exact ⟨h1, h2⟩; exact absurd h.2.1 hmay; exact absurd h.2.1 hmay)
    clear hmay hnz hnm
    refine (HN.out _).mono ?_
    rintro e w4 ⟨rfl, hb⟩
    have HB4 := Lib.hid (HB3.out.trans (hb.mono HB3.out.size))
    have HRX : Hid (w4.heap[w.heap.size]? = some (.cells zz 45 (0, 0))) := Lib.hid (by rw [HZ.out]; exact HR3.out.below hb HR3.out.lt)
    clear hb
    have HF := Lib.hid (setRow_heap _ _ _ zz _ _ HRX.out)
    have HBF : Hid (Below w.heap.size w (w4.setRow w.heap.size zz)) := Lib.hid (below_setRow HB4.out (Nat.le_refl _) _)
    go_wp2_with (with_reducible refine wpList_store_row rfl 45 (.tmp 2) (.tmp 24) rfl _ _ rfl rfl 45 _ HRX.out HIZ.out rfl HONZ.out ?_)
    exact bodyPost_ret (v := .tuple #[.agg zz, .int .i64 4]) (results_row_tmp rfl _ _ _ 45 _ (0, 0) _ _ rfl rfl HF.out Try.underlying45 rfl HIZ.out) rfl ⟨by rw [HVV.out.1, HVV.out.2, HZ.out], HBF.out⟩
end Go.Proofs.Ytfnppoagmambgaa
