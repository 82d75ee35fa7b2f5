/-
  Two registers compared, in general; Last of a register that is there.
-/
import Derived.Test.YtbanknppdgiflaaTrY
import Derived.Test.YtbanknppdgiflaaTrE
import Derived.Test.YtbanknppdgiflaaTrH
import Derived.Test.YtbanknppdgiflaaTrI
namespace Go.Proofs.Ytbanknppdgiflaa
open Go.RowKit Go
set_option linter.unusedVariables false
set_option linter.unusedSimpArgs false
theorem items_gen (d N : Nat) (l m : List Nat) : ∀ is : List Nat, (∀ i ∈ is, i < N) → ∃ b, ∀ w, (Op.eqItems (d + 1) 5 1 (rowV (rootF l) N) (rowV (rootF m) N) is).run Try.prog w = .ok b w := by
  intro is
  induction is with
  | nil => intro _; exact ⟨true, fun w => by simp [Op.eqItems]⟩
  | cons i is ih =>
    intro h
    have hi := h i (List.mem_cons_self ..)
    obtain ⟨b, hb⟩ := ih fun j hj => h j (List.mem_cons_of_mem _ hj)
    have p1 : ∀ w, (part 5 (rowV (rootF l) N) (i * 1)).run Try.prog w = .ok (rootF l i) w := fun w => by rw [Nat.mul_one]; exact Go.run_part_plain w plain_r9 (rowV_at _ hi)
    have p2 : ∀ w, (part 5 (rowV (rootF m) N) (i * 1)).run Try.prog w = .ok (rootF m i) w := fun w => by rw [Nat.mul_one]; exact Go.run_part_plain w plain_r9 (rowV_at _ hi)
    have p3 : ∀ w, (Op.equalIn (d + 1) 5 (rootF l i) (rootF m i)).run Try.prog w = .ok (((l.getD i 0 : Nat) : Int) == ((m.getD i 0 : Nat) : Int)) w := fun w => run_equalIn_int w d 5 .u8 .u8 _ _ Try.underlying5
    cases hq : (((l.getD i 0 : Nat) : Int) == ((m.getD i 0 : Nat) : Int))
    · refine ⟨false, fun w => ?_⟩
      have p3' := p3 w
      rw [hq] at p3'
      simp only [Op.eqItems, Sem.run_bind, p1 w, p2 w, p3', Result.andThen_ok, Bool.not_false, if_true, Sem.run_pure]
    · refine ⟨b, fun w => ?_⟩
      have p3' := p3 w
      rw [hq] at p3'
      simp only [Op.eqItems, Sem.run_bind, p1 w, p2 w, p3', Result.andThen_ok, Bool.not_true, Bool.false_eq_true, if_false, hb w]
theorem root_gen (d : Nat) (l m : List Nat) : ∃ b, ∀ w, (Op.equalIn (d + 2) 24 (.agg (rowV (rootF l) 32)) (.agg (rowV (rootF m) 32))).run Try.prog w = .ok b w := by
  obtain ⟨i, hi⟩ := Option.isSome_iff_exists.mp info_r9
  obtain ⟨b, hb⟩ := items_gen d 32 l m (List.range 32) fun i hi => List.mem_range.mp hi
  refine ⟨b, fun w => ?_⟩
  rw [show d + 2 = (d + 1) + 1 from rfl, Go.run_equalIn_array w (d + 1) _ _ Try.underlying24 hi, cells_r9, hb w]
theorem neq_gen (c : Nat) (l : List Nat) : ∃ b : Bool, (∀ w, (binOp .neq RegT (.agg (rowV (regF c l) 33)) (.agg (rowV (regF 0 []) 33))).run Try.prog w = .ok (.bool b) w) ∧ (c ≠ 0 → b = true) := by
  obtain ⟨b2, hb2⟩ := root_gen 9997 l []
  have key : ∀ w, (binOp .neq RegT (.agg (rowV (regF c l) 33)) (.agg (rowV (regF 0 []) 33))).run Try.prog w = .ok (.bool (!(((c : Int) == (0 : Int)) && b2))) w := fun w => by
    have hf := fields_reg
    rw [run_neq_struct, show (10000 : Nat) = 9999 + 1 from rfl, run_equalIn_agg w 9999 RegT _ _ (by kernel_rfl) (by kernel_rfl)]
    generalize (Try.prog.fieldsOf RegT).toList = fs at *
    have e1 : (Op.equalIn 9999 22 (.int .u64 (c : Int)) (.int .u64 ((0 : Nat) : Int))).run Try.prog w = .ok ((c : Int) == ((0 : Nat) : Int)) w := by
      rw [show (9999 : Nat) = 9998 + 1 from rfl, run_equalIn_int w 9998 22 .u64 .u64 _ _ Try.underlying22]
    have e2 := hb2 w
    rw [show 9997 + 2 = 9999 from rfl] at e2
    have e3 := part_count c l w
    have e4 := part_root c l w
    have e5 := part_count 0 [] w
    have e6 := part_root 0 [] w
    rw [show ((0 : Nat) : Int) = 0 from rfl] at e1 e5
    rcases fs with _ | ⟨f1, _ | ⟨f2, _ | ⟨f3, r⟩⟩⟩
    · simp at hf
    · simp at hf
    · simp only [List.map_cons, List.map_nil, List.cons.injEq, Prod.mk.injEq, and_true] at hf
      obtain ⟨⟨n1, t1, o1⟩, n2, t2, o2⟩ := hf
      generalize rowV (regF c l) 33 = R at *
      generalize rowV (regF 0 []) 33 = R0 at *
      generalize Value.agg (rowV (rootF l) 32) = R2 at *
      generalize Value.agg (rowV (rootF []) 32) = R3 at *
      cases hq : ((c : Int) == (0 : Int)) <;> rw [hq] at e1 <;> cases b2 <;> simp [Op.eqFields, n1, n2, t1, t2, o1, o2, Sem.run_bind, e1, e2, e3, e4, e5, e6, Result.andThen]
    · simp at hf
  refine ⟨_, key, fun hc => ?_⟩
  have : ((c : Int) == (0 : Int)) = false := by rw [beq_eq_false_iff_ne]; omega
  rw [this]; rfl
set_option maxHeartbeats 1000000 in
set_option maxRecDepth 100000 in
theorem last9_any (t g c : Nat) (l : List Nat) (w : World) (h : TrustB w t g (regF c l)) : Calls Try.prog 16 #[.pointer (some ⟨t, 0, none⟩)] w fun e w' => e = .returned (.bool ((c : Int) == (18446744073709551615 : Int))) ∧ Below w.heap.size w w' := by
  obtain ⟨b, hq, hbc⟩ := neq_gen c l
  have hz := zero_reg
  have HRD := Lib.hid (read9_any t g c l w h)
  have HB := Lib.hid built_reg0
  have HI := Lib.hid (info_reg (regF c l))
  have HON := Lib.hid (one_reg c l)
  have HSZ : Hid ((rowV (regF 0 []) 33).size = (rowV (regF c l) 33).size) := Lib.hid (by rw [rowV_size, rowV_size])
  have hc0 : (rowV (regF c l) 33)[0]? = some (.int .u64 (c : Int)) := rowV_at _ (by omega)
  have HC0 := Lib.hid hc0
  have HRES : Hid ((b && ((c : Int) == (18446744073709551615 : Int))) = ((c : Int) == (18446744073709551615 : Int))) := Lib.hid (by
    by_cases hc : c = 0
    · subst hc; simp
    · rw [hbc hc]; simp)
  obtain ⟨z, hzz⟩ : ∃ z, z = rowV (regF 0 []) 33 := ⟨_, rfl⟩
  obtain ⟨rc, hrc⟩ : ∃ z, z = rowV (regF c l) 33 := ⟨_, rfl⟩
  rw [← hzz] at hz hq HB HSZ
  rw [← hrc] at hq HRD HI HON HSZ HC0
  clear hzz hrc hbc hc0 h
  cases b
  all_goals
    go_enter Try.func16, Try.ntmps16
    go_wp2_with fail
    refine HRD.out.mono ?_
    rintro e w1 ⟨rfl, hb1⟩
    have ho1 := heap_alloc_new w1 (.cells z 26)
    have HO1 := Lib.hid ho1
    have hfx := setRow_heap _ _ _ rc _ _ ho1
    have HFX := Lib.hid hfx
    have hcell := (blk_cell hfx 0).trans HC0.out
    have HFB : Hid (Below w.heap.size w ((w1.alloc (.cells z 26)).setRow w1.heap.size rc)) := Lib.hid (below_setRow (g := w1.heap.size) (hb1.alloc hb1.size _) hb1.size rc)
    clear ho1 hb1 hfx
    go_wp2_with (first
      | (with_reducible refine wp_build_eq9 rfl 26 #[] rfl z (by first | exact HB.out | (simp; exact HB.out)) ?_)
      | (with_reducible refine wpList_load_row rfl 26 (.tmp 3) rfl _ rfl 26 _ _ _ HFX.out Try.underlying26 rfl HI.out ?_)
      | (with_reducible refine wpList_store_row rfl 26 (.tmp 3) (.tmp 5) rfl _ _ rfl rfl 26 _ HO1.out HI.out HSZ.out HON.out ?_))
    go_ret
    exact ⟨by rw [← HRES.out]; rfl, HFB.out⟩
end Go.Proofs.Ytbanknppdgiflaa
