/-
  TrustNil's walk; the example of chapter 9.
-/
import Derived.Test.YtbanknppdgiflaaTrD
namespace Go.Proofs.Ytbanknppdgiflaa
open Go.RowKit Go
set_option linter.unusedVariables false
set_option linter.unusedSimpArgs false
theorem wpList_load_row_w {P : Program} {ops : Array Oper} {rest : List Oper} {o : Oper} {a : Act} {w : World} {Q : Exit → Act → World → Prop} (hw : Region.wanted o (yielded ops a.tmps) = true) (ty : TypeId) (x : Operand) (ho : o.op = .load ty x)
    (g : Nat) (hx : a.eval x = .pointer (some ⟨g, 0, none⟩)) (t : TypeId) (cs : Array Value) (fr : Nat × Nat) (d : TypeDesc) (hg : w.heap[g]? = some (.cells cs t fr))
    (hu : P.underlying ty = some d) (hd : (match d with | .struct _ | .array _ _ => true | _ => false) = true) (hi : (P.info? ty).map (·.size) = some cs.size)
    (h : wpList P ops Q rest (a.put o.dst (.agg cs)) w) : wpList P ops Q (o :: rest) a w :=
  wpList_step fun K hK => by rw [if_pos hw]; exact wp_load_row ty x ho g hx t cs fr d hg hu hd hi (hK _ _ h)
theorem wp_build_eq_w {P : Program} {ops : Array Oper} {rest : List Oper} {o : Oper} {a : Act} {w : World} {Q : Exit → Act → World → Prop} (hw : Region.wanted o (yielded ops a.tmps) = true) (t : TypeId) (parts : Array (Nat × Operand)) (ho : o.op = .build t parts)
    (cs : Array Value) (hf : P.built t (parts.map fun (i, x) => (i, a.eval x)).toList = some cs) (h : wpList P ops Q rest (a.put o.dst (.agg cs)) w) : wpList P ops Q (o :: rest) a w :=
  wpList_step fun K hK => by
    rw [if_pos hw]
    refine wp_build t parts ho (by rw [hf]; rfl) ?_
    rw [hf]
    exact hK _ _ h
theorem eql_reg0 (w : World) : (binOp .eql 26 (.agg (rowV (regF 0 []) 33)) (.agg (rowV (regF 0 []) 33))).run Try.prog w = .ok (.bool true) w := by kernel_rfl
theorem neq_reg0 (w : World) : (binOp .neq 26 (.agg (rowV (regF 0 []) 33)) (.agg (rowV (regF 0 []) 33))).run Try.prog w = .ok (.bool false) w := by kernel_rfl
theorem field_reg1 (w : World) : (Instr.field 26 (.agg (rowV (regF 1 []) 33)) 0).run Try.prog w = .ok (.int .u64 1) w := by kernel_rfl
set_option maxHeartbeats 1000000 in
set_option maxRecDepth 100000 in
theorem last9_nil (w : World) : Calls Try.prog 16 #[.pointer none] w fun e w' => e = .returned (.bool false) ∧ Below w.heap.size w w' := by
  have hz := zero_reg
  have hq := neq_reg0
  have HRD := Lib.hid (read9_nil w)
  have HB := Lib.hid built_reg0
  have HI := Lib.hid (info_reg (regF 0 []))
  have HON := Lib.hid (one_reg 0 [])
  obtain ⟨z, hzz⟩ : ∃ z, z = rowV (regF 0 []) 33 := ⟨_, rfl⟩
  rw [← hzz] at hz hq HRD HB HI HON
  clear hzz
  go_enter Try.func16, Try.ntmps16
  go_wp2_with fail
  refine HRD.out.mono ?_
  rintro e w1 ⟨rfl, hb1⟩
  have ho1 := heap_alloc_new w1 (.cells z 26)
  have HO1 := Lib.hid ho1
  have HFX := Lib.hid (setRow_heap _ _ _ z _ _ ho1)
  have HFB : Hid (Below w.heap.size w ((w1.alloc (.cells z 26)).setRow w1.heap.size z)) := Lib.hid (below_setRow (g := w1.heap.size) (hb1.alloc hb1.size _) hb1.size z)
  clear ho1 hb1
  go_wp2_with (first
    | (with_reducible refine wp_build_eq9 rfl 26 #[] rfl z (by first | exact HB.out | (simp; exact HB.out)) ?_)
    | (with_reducible refine wpList_load_row rfl 26 (.tmp 3) rfl _ rfl 26 _ _ _ HFX.out Try.underlying26 rfl HI.out ?_)
    | (with_reducible refine wpList_store_row rfl 26 (.tmp 3) (.tmp 5) rfl _ _ rfl rfl 26 _ HO1.out HI.out rfl HON.out ?_))
  go_ret
  exact ⟨rfl, HFB.out⟩
set_option maxHeartbeats 1000000 in
set_option maxRecDepth 100000 in
theorem awake9_any (w : World) : Calls Try.prog 19 #[] w fun e w' => e = .returned (.bool true) ∧ Below w.heap.size w w' := by
  have HN := Lib.hid (new8_any 1 (by omega))
  have HT := Lib.hid (fun g W => new9_any g W)
  have HB := Lib.hid built_reg1
  have hfd := field_reg1
  have HOK := Lib.hid (fun t g L c9 A W (h : TrustB W t g (regF 0 [])) (hd : DevK W g (.slice A L c9) false (.slice none 0 0) 0 [] 0 (.slice none 0 0)) hL hne => set9_ok t g 0 1 L c9 0 [] [] A (.slice none 0 0) (.slice none 0 0) [] W h hd (by omega) (by omega) hL (by omega) hne (by simp [Value.ownBlock]))
  have HLO := Lib.hid (fun t g L c9 k A av al W (h : TrustB W t g (regF 1 [])) (hd : DevK W g (.slice A L c9) false av k al 0 (.slice none 0 0)) => set9_low t g 1 1 L c9 k [] [] A av (.slice none 0 0) al W h hd (by omega))
  have HRD := Lib.hid (fun t g W (h : TrustB W t g (regF 1 [])) => read9_any t g 1 [] W h)
  obtain ⟨rr, hrr⟩ : ∃ z, z = rowV (regF 1 []) 33 := ⟨_, rfl⟩
  rw [← hrr] at HB hfd HOK HLO HRD
  clear hrr
  go_enter Try.func19, Try.ntmps19
  go_wp2_with fail
  refine (HN.out w).mono ?_
  rintro e w1 ⟨rfl, hd1, hb1, hs1⟩
  have HD1 := Lib.hid hd1
  have HB1 := Lib.hid hb1
  have HS1 := Lib.hid hs1
  clear hd1 hb1 hs1
  go_wp2_with fail
  refine (HT.out _ w1).mono ?_
  rintro e w2 ⟨rfl, ht2, hb2⟩
  have HD2 := Lib.hid (HD1.out.next hb2)
  have HB2 := Lib.hid (HB1.out.trans (hb2.mono HB1.out.size))
  have HT2 := Lib.hid ht2
  have HSG : Hid (w1.heap.size + 1 ≠ w.heap.size + 1) := Lib.hid (by have := HS1.out; omega)
  have HSW : Hid (w.heap.size + 1 + 1 = w1.heap.size) := Lib.hid HS1.out.symm
  clear ht2 hb2 HD1 HB1
  generalize w1.heap.size = s1 at *
  go_wp2_with (with_reducible refine wp_build_eq9 rfl 26 #[(0, .const (.int .u64 1))] rfl rr (by simp [Act.eval, Act.put]; exact HB.out) ?_)
  refine (HOK.out _ _ _ _ _ _ HT2.out HD2.out (by omega) HSG.out).mono ?_
  rintro e w3 ⟨av', rfl, hd3, ht3, hts3, -⟩
  have HB3 : Hid (Below w.heap.size w w3) := Lib.hid (HB2.out.trans (hts3.below HB2.out.size (fun j q => by
    have := HSW.out
    rcases q with q | q | q
    · omega
    · omega
    · simp [Value.ownBlock] at q)))
  have HD3 := Lib.hid hd3
  have HT3 := Lib.hid ht3
  clear hd3 ht3 hts3 HD2 HT2 HB2
  go_wp2_with (with_reducible refine wp_build_eq_w (by with_unfolding_all rfl) 26 #[(0, .const (.int .u64 1))] rfl rr (by simp [Act.eval, Act.put]; exact HB.out) ?_)
  refine (HLO.out _ _ _ _ _ _ _ _ _ HT3.out HD3.out).mono ?_
  rintro e w4 ⟨rfl, hb4⟩
  have HT4 : Hid (TrustB w4 (s1 + 1) (w.heap.size + 1) (regF 1 [])) := Lib.hid (Cells.after HT3.out hb4)
  have HB4 := Lib.hid (HB3.out.trans (hb4.mono HB3.out.size))
  clear hb4
  go_wp2_with fail
  refine (HRD.out _ _ _ HT4.out).mono ?_
  rintro e w5 ⟨rfl, hb5⟩
  have HB5 := Lib.hid (HB4.out.trans (hb5.mono HB4.out.size))
  clear hb5
  go_wp2
  go_ret
  exact ⟨rfl, HB5.out⟩
end Go.Proofs.Ytbanknppdgiflaa
